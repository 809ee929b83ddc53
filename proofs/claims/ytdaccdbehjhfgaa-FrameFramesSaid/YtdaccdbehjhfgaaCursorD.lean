/- Cursors of codec. -/
import Derived.Test.YtdaccdbehjhfgaaCloneT
namespace Go.Proofs.Ytdaccdbehjhfgaa
open Go.RowKit

/-- block g is a cursor over l of which k bytes are consumed; it and its bytes are of blocks from B on, below E -/
def Cur (w : World) (B E g : Nat) (T : TypeId) (ex : List Value) (l : List UInt8) (k : Nat) : Prop :=
  ∃ A c, B ≤ g ∧ g < E ∧ E ≤ w.heap.size ∧ Own w B (.slice A l.length c) l ∧ (∀ j, (Value.slice A l.length c).ownBlock = some j → j < E ∧ j ≠ g) ∧ w.heap[g]? = some (.cells (.slice A l.length c :: .int .i64 (k : Int) :: ex).toArray T (0, 0))

theorem Own.lt_size {w : World} {B : Nat} {v : Value} {l : List UInt8} (h : Own w B v l) : ∀ j, v.ownBlock = some j → B ≤ j ∧ j < w.heap.size := by
  intro j hj
  rcases h.2 with ⟨rfl, _⟩ | ⟨g, cap, cur, rfl, hg, hh, _⟩
  · simp [Value.ownBlock] at hj
  · simp only [Value.ownBlock, Option.some.injEq] at hj
    subst hj
    exact ⟨hg, (Array.getElem?_eq_some_iff.1 hh).1⟩
theorem grown_cell {w w' : World} {r : Option Nat} {b i : Nat} {x : Option Value} (hg : w.grownBy w' r) (hb : Has w b) (hne : some b ≠ r) (hc : w.cell? ⟨b, i, none⟩ = x) : w'.cell? ⟨b, i, none⟩ = x := by
  rw [← hc]
  simp only [World.cell?, hg.block b hb hne]
theorem Own.grown {w w' : World} {B : Nat} {v : Value} {l : List UInt8} {r : Option Nat} (h : Own w B v l) (hg : w.grownBy w' r) (hr : ∀ j, v.ownBlock = some j → r ≠ some j) : Own w' B v l := by
  refine ⟨h.1, ?_⟩
  rcases h.2 with h1 | ⟨g, cap, cur, rfl, hgB, hh, q⟩
  · exact .inl h1
  · exact .inr ⟨g, cap, cur, rfl, hgB, (hg.block g (Array.getElem?_eq_some_iff.1 hh).1 (fun e => hr g rfl e.symm)).trans hh, q⟩
theorem Cur.grown {w w' : World} {B E g k : Nat} {T : TypeId} {ex : List Value} {l : List UInt8} {r : Option Nat} (h : Cur w B E g T ex l k) (hg : w.grownBy w' r) (hr : ∀ j, r = some j → j < B ∨ E ≤ j) : Cur w' B E g T ex l k := by
  obtain ⟨A, c, h1, h2, h3, h4, h5, h6⟩ := h
  refine ⟨A, c, h1, h2, Nat.le_trans h3 hg.size, h4.grown hg fun j hj e => ?_, h5, (hg.block g (by omega) (fun e => ?_)).trans h6⟩
  · have a := hr j e; have b := (h4.lt_size j hj).1; have d := (h5 j hj).1; omega
  · have a := hr g e.symm; omega
theorem Below.grew {w w' : World} {B : Nat} (h : Below B w w') (hB : w.heap.size ≤ B) (r : Option Nat) : w.grownBy w' r := ⟨h.os, h.tape, h.output, h.size, fun k hk _ => h.block k (by omega)⟩
theorem Cur.below {w w' : World} {B E g k : Nat} {T : TypeId} {ex : List Value} {l : List UInt8} (h : Cur w B E g T ex l k) {B' : Nat} (hb : Below B' w w') (hB : w.heap.size ≤ B') : Cur w' B E g T ex l k := h.grown (Below.grew hb hB none) (by simp)
theorem Cur.more {w : World} {B B' E g k : Nat} {T : TypeId} {ex : List Value} {l : List UInt8} (h : Cur w B E g T ex l k) (hB : B' ≤ B) : Cur w B' E g T ex l k := by
  obtain ⟨A, c, h1, h2, h3, h4, h5, h6⟩ := h
  exact ⟨A, c, by omega, h2, h3, h4.more hB, h5, h6⟩
theorem Cur.cells {w : World} {B E g k : Nat} {T : TypeId} {ex : List Value} {l : List UInt8} (h : Cur w B E g T ex l k) : ∃ A c, Own w B (.slice A l.length c) l ∧ B ≤ g ∧ g < w.heap.size ∧
    w.cell? ⟨g, 0, none⟩ = some (.slice A l.length c) ∧ w.cell? ⟨g, 1, none⟩ = some (.int .i64 (k : Int)) ∧ w.frozen? ⟨g, 1, none⟩ = false ∧
    ∀ m : Nat, Cur (w.setCell ⟨g, 1, none⟩ (.int .i64 (m : Int))) B E g T ex l m := by
  obtain ⟨A, c, h1, hE1, hE2, h2, hE3, h3⟩ := h
  refine ⟨A, c, h2, h1, (Array.getElem?_eq_some_iff.1 h3).1, ?_, ?_, frozen_of_row w g 1 _ _ h3, fun m => ⟨A, c, h1, hE1, by simpa using hE2, ?_, hE3, ?_⟩⟩
  · rw [cell_of_row w g 0 _ _ _ h3]; rfl
  · rw [cell_of_row w g 1 _ _ _ h3]; rfl
  · refine ⟨h2.1, ?_⟩
    rcases h2.2 with h | ⟨g', cap, cur, hv, hg, hh, r⟩
    · exact .inl h
    · refine .inr ⟨g', cap, cur, hv, hg, ?_, r⟩
      have hgg : g' ≠ g := (hE3 g' (by rw [hv]; rfl)).2
      exact (Below.heap_setCell w ⟨g, 1, none⟩ _ g' hgg).trans hh
  · rw [heap_setCell_same w g 1 _ _ _ h3]
    simp

theorem newcursor_any {l : List UInt8} {v : Value} {w : World} {B : Nat} (hb : Bs w B v l) (hB : B ≤ w.heap.size) (hl : l.length ≤ 281474976710656) :
    Calls Try.prog 42 #[v] w fun e w' => ∃ g, e = .returned (.pointer (some ⟨g, 0, none⟩)) ∧ Cur w' w.heap.size w'.heap.size g 94 [] l 0 ∧ Below w.heap.size w w' := by
  have c := clone_any hb hB hl
  have C := Lib.hid c
  clear c
  obtain ⟨A, c, rfl⟩ := hb.shape
  go_enter Try.func42, Try.ntmps42
  go_wp2_with fail
  refine (C.out).mono ?_
  rintro e w1 ⟨v1, rfl, ho1, hb1⟩
  obtain ⟨A1, c1, rfl⟩ := ho1.shape
  have hz1 := hb1.size
  have hcur : Cur (w1.alloc (.cells #[.slice A1 l.length c1, .int .i64 0] 94)) w.heap.size (w1.alloc (.cells #[.slice A1 l.length c1, .int .i64 0] 94)).heap.size w1.heap.size 94 [] l 0 :=
    ⟨A1, c1, hz1, by simp, Nat.le_refl _, ho1.alloc _, fun j hj => by have := (ho1.lt_size j hj).2; simp; omega, heap_alloc_new w1 _⟩
  have HCUR := Lib.hid hcur
  have hbel : Below w.heap.size w (w1.alloc (.cells #[.slice A1 l.length c1, .int .i64 0] 94)) := hb1.alloc hz1 _
  clear hcur ho1
  go_wp2
  go_ret
  exact ⟨_, rfl, HCUR.out, hbel⟩

theorem left_any {l : List UInt8} {w : World} {B E g k : Nat} {T : TypeId} {ex : List Value} (h : Cur w B E g T ex l k) (hk : k ≤ l.length) (hl : l.length ≤ 281474976710656) :
    Calls Try.prog 55 #[.pointer (some ⟨g, 0, none⟩)] w fun e w' => e = .returned (.int .i64 ((l.length : Int) - (k : Int))) ∧ Drew w w' := by
  obtain ⟨A, c, _, _, _, hc0, hc1, _, _⟩ := h.cells
  have e1 : IntKind.i64.wrap ((l.length : Int) - (k : Int)) = (l.length : Int) - (k : Int) := by rw [IntKind.wrap_i64]; omega
  go_enter Try.func55, Try.ntmps55
  have d0 : w.drew.cell? ⟨g, 0, none⟩ = some (.slice A l.length c) := hc0
  have d1 : w.drew.cell? ⟨g, 1, none⟩ = some (.int .i64 (k : Int)) := hc1
  go_wp2_with fail
  go_region_held3 (fun w' => w'.cell? ⟨g, 0, none⟩ = some (.slice A l.length c) ∧ w'.cell? ⟨g, 1, none⟩ = some (.int .i64 (k : Int))) (exact ⟨d0, d1⟩) (fail)
  go_wp2
  go_ret
  exact ⟨rfl, (Drew.refl _).drewN 1⟩

theorem take_neg {w : World} {g : Nat} {n : Int} (h : n < 0) :
    Calls Try.prog 43 #[.pointer (some ⟨g, 0, none⟩), .int .i64 n] w fun e w' => e = .returned (.tuple #[.slice none 0 0, .int .i64 1]) ∧ w' = w := by
  go_enter Try.func43, Try.ntmps43
  go_wp2
  go_ret2
  exact ⟨rfl, rfl⟩

theorem take_size {l : List UInt8} {w : World} {B E g k N : Nat} {T : TypeId} {ex : List Value} (h : Cur w B E g T ex l k) (hk : k ≤ l.length) (hl : l.length ≤ 281474976710656) (hN : l.length < k + N) :
    Calls Try.prog 43 #[.pointer (some ⟨g, 0, none⟩), .int .i64 N] w fun e w' => e = .returned (.tuple #[.slice none 0 0, .int .i64 2]) ∧ Drew w w' := by
  have c := left_any h hk hl
  have C := Lib.hid c
  clear c h
  go_enter Try.func43, Try.ntmps43
  go_wp2_with fail
  refine (C.out).mono ?_
  rintro e w1 ⟨rfl, hd⟩
  go_wp2
  go_ret2
  exact ⟨rfl, hd⟩

set_option maxHeartbeats 800000 in
theorem take_ok {l : List UInt8} {w : World} {B E g k N : Nat} {T : TypeId} {ex : List Value} (h : Cur w B E g T ex l k) (hl : l.length ≤ 281474976710656) (hN : k + N ≤ l.length) :
    Calls Try.prog 43 #[.pointer (some ⟨g, 0, none⟩), .int .i64 N] w fun e w' => ∃ u, e = .returned (.tuple #[u, .int .i64 0]) ∧ Own w' w.heap.size u ((l.drop k).take N) ∧ Cur w' B E g T ex l (k + N) ∧ w.grownBy w' (some g) := by
  have c := left_any h (by omega) hl
  have C := Lib.hid c
  have HCUR := Lib.hid h
  have hg1 := h.cells
  clear c h
  go_enter Try.func43, Try.ntmps43
  go_wp2_with fail
  refine (C.out).mono ?_
  rintro e w1 ⟨rfl, n1, rfl⟩
  obtain ⟨A, c, ho, hgB, hgl, hc0, hc1, hfr, hset⟩ := HCUR.out.cells
  obtain ⟨D, hbD, hrun⟩ := Bs.piece (lo := k) (hi := k + N) (ho.bs) (by omega) (by omega)
  have e0 : k + N - k = N := by omega
  rw [e0] at hbD hrun
  have hrun' : ∀ W : World, (Instr.slice 23 (.slice A l.length c) (some (.int .i64 (k : Int))) (some (.int .i64 ((k : Int) + (N : Int)))) none).run Try.prog W = .ok (.slice D N (c - k)) W := hrun
  have e1 : IntKind.i64.wrap ((k : Int) + (N : Int)) = (k : Int) + (N : Int) := by rw [IntKind.wrap_i64]; omega
  have c1 : Hid (Calls Try.prog 54 #[.slice D N (c - k)] (w.drewN n1).drew fun e w' => ∃ u, e = .returned u ∧ Own w' w.heap.size u ((l.drop k).take N) ∧ Below w.heap.size w w') := Lib.hid ((clone_any (w := (w.drewN n1).drew) hbD (Nat.le_refl _) (by simp; omega)).mono fun e w' ⟨u, h1, h2, h3⟩ => ⟨u, h1, h2, ((below_drewN (Below.refl _ _) n1).drew).trans h3⟩)
  have d0 : (w.drewN n1).drew.cell? ⟨g, 0, none⟩ = some (.slice A l.length c) := hc0
  have d1 : (w.drewN n1).drew.cell? ⟨g, 1, none⟩ = some (.int .i64 (k : Int)) := hc1
  have HS1 : Has w g := hgl
  clear hg1 hrun ho hbD hset hfr
  go_wp2_with fail
  go_region_held3 (fun w' => w'.cell? ⟨g, 0, none⟩ = some (.slice A l.length c) ∧ w'.cell? ⟨g, 1, none⟩ = some (.int .i64 (k : Int))) (first | exact ⟨d0, d1⟩ | exact ⟨m0, m1⟩)
    (first | (go_at_call 54; refine (c1.out).mono ?_; rintro e w2 ⟨u2, rfl, ho2, hb2⟩; have m0 : w2.cell? ⟨g, 0, none⟩ = some (.slice A l.length c) := Has.cell HS1 hb2 hc0; have m1 : w2.cell? ⟨g, 1, none⟩ = some (.int .i64 (k : Int)) := Has.cell HS1 hb2 hc1) | fail)
  have hcu := HCUR.out.below hb2 (Nat.le_refl _)
  obtain ⟨A', c', _, _, _, _, _, hfr, hset⟩ := hcu.cells
  have hfin := hset (k + N)
  have hFIN := Lib.hid hfin
  have hou : Own (w2.setCell ⟨g, 1, none⟩ (.int .i64 ((k + N : Nat) : Int))) w.heap.size u2 ((l.drop k).take N) := by
    refine ⟨ho2.1, ?_⟩
    rcases ho2.2 with h | ⟨g', cap, cur, hv, hg, hh, r⟩
    · exact .inl h
    · exact .inr ⟨g', cap, cur, hv, hg, (Below.heap_setCell w2 ⟨g, 1, none⟩ _ g' (by simp; omega)).trans hh, r⟩
  have HOU := Lib.hid hou
  have hbF : w.grownBy (w2.setCell ⟨g, 1, none⟩ (.int .i64 ((k + N : Nat) : Int))) (some g) := ⟨hb2.os, hb2.tape, hb2.output, by have := hb2.size; simpa using this, fun j hj hne => (Below.heap_setCell w2 ⟨g, 1, none⟩ _ j (fun e => hne (by rw [e]))).trans (hb2.block j hj)⟩
  clear hset hfin hou hcu ho2 c1
  go_wp2
  go_ret2
  exact ⟨_, rfl, HOU.out, hFIN.out, hbF⟩
end Go.Proofs.Ytdaccdbehjhfgaa
