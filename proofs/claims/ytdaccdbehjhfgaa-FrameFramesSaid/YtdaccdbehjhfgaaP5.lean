/- read of frame: what a frame says behind its zero bytes. -/
import Derived.Test.YtdaccdbehjhfgaaP4
namespace Go.Proofs.Ytdaccdbehjhfgaa
open Go.RowKit

theorem getP_nat (K : Nat) (l : List UInt8) (a : Nat) : (getP 2 K l a K) < 256 ^ K := getP_lt 2 K l a K
set_option maxRecDepth 100000 in
set_option maxHeartbeats 4000000 in
theorem number_ok {l : List UInt8} {w : World} {B E g k K : Nat} {T : TypeId} {ex : List Value} (h : Cur w B E g T ex l k) (hl : l.length ≤ 281474976710656) (hK1 : 1 ≤ K) (hK : K ≤ 8) (hN : k + K ≤ l.length) :
    Calls Try.prog 57 #[.pointer (some ⟨g, 0, none⟩), .int .i64 2, .int .i64 (K : Int)] w fun e w' => e = .returned (.tuple #[.int .u64 (getP 2 K l k K : Nat), .int .i64 0]) ∧ Cur w' B E g T ex l (k + K) ∧ w.grownBy w' (some g) := by
  have HH := Lib.hid h
  obtain ⟨A, c, ho, hgB, hgl, hc0, hc1, hfr, hset⟩ := h.cells
  obtain ⟨P, hP⟩ : ∃ P, P = getP 2 K l k K := ⟨_, rfl⟩
  have CG : Hid (Calls Try.prog 61 #[.int .i64 2, .slice A l.length c, .int .i64 (k : Int), .int .i64 (K : Int)] w.drew fun e w' => e = .returned (.tuple #[.int .u64 (P : Int), .int .i64 0]) ∧ w' = w.drew) := by
    rw [hP]
    exact Lib.hid ((get_big (w := w.drew) hK1 hK (ho.bs.drewN 1) hN).mono fun e w' ⟨h1, h2⟩ => ⟨h1, h2.symm⟩)
  rw [← hP]
  have d0 : w.drew.cell? ⟨g, 0, none⟩ = some (.slice A l.length c) := hc0
  have d1 : w.drew.cell? ⟨g, 1, none⟩ = some (.int .i64 (k : Int)) := hc1
  have df : w.drew.frozen? ⟨g, 1, none⟩ = false := hfr
  have e1 : IntKind.i64.wrap ((k : Int) + (K : Int)) = (k : Int) + (K : Int) := by rw [IntKind.wrap_i64]; omega
  have hfin : Cur ((w.setCell ⟨g, 1, none⟩ (.int .i64 ((k : Int) + (K : Int)))).drew) B E g T ex l (k + K) := (hset (k + K)).grown (r := none) ⟨rfl, rfl, rfl, Nat.le_refl _, fun _ _ _ => rfl⟩ (by simp)
  have HFIN := Lib.hid hfin
  have hbF : w.grownBy ((w.setCell ⟨g, 1, none⟩ (.int .i64 ((k : Int) + (K : Int)))).drew) (some g) := ⟨rfl, rfl, rfl, by simp, fun j hj hne => Below.heap_setCell w ⟨g, 1, none⟩ _ j (fun e => hne (by rw [e]))⟩
  have HBF := Lib.hid hbF
  clear hP ho hset hfin hbF h
  go_enter Try.func57, Try.ntmps57
  go_wp2_with fail
  go_region_held3 (fun w' => w'.cell? ⟨g, 0, none⟩ = some (.slice A l.length c) ∧ w'.cell? ⟨g, 1, none⟩ = some (.int .i64 (k : Int))) (exact ⟨d0, d1⟩)
    (first | (go_at_call 61; (with_reducible refine (CG.out).mono ?_); rintro e w2 ⟨rfl, rfl⟩) | fail)
  go_wp2
  go_ret2
  exact ⟨rfl, HFIN.out, HBF.out⟩
def cutD (l : List UInt8) (N : Nat) : List UInt8 := if N ≤ 450 then (l.drop 30).take N else []
theorem take_dat {l : List UInt8} {w : World} {B E g : Nat} {T : TypeId} {ex : List Value} (h : Cur w B E g T ex l 30) (hl : l.length = 480) (N : Nat) :
    Calls Try.prog 43 #[.pointer (some ⟨g, 0, none⟩), .int .i64 (N : Int)] w fun e w' => ∃ A c e0, e = .returned (.tuple #[.slice A (cutD l N).length c, .int .i64 e0]) ∧ Own w' w.heap.size (.slice A (cutD l N).length c) (cutD l N) ∧ w.grownBy w' (some g) := by
  unfold cutD
  by_cases hN : N ≤ 450
  · rw [if_pos hN]
    refine (take_ok (N := N) h (by omega) (by omega)).mono ?_
    rintro e w' ⟨u, rfl, ho, -, hg⟩
    obtain ⟨A, c, rfl⟩ := ho.shape
    exact ⟨A, c, 0, rfl, ho, hg⟩
  · rw [if_neg hN]
    refine (take_size (N := N) h (by omega) (by omega) (by omega)).mono ?_
    rintro e w' ⟨rfl, n, rfl⟩
    exact ⟨none, 0, 2, rfl, Own.nil _ _, ⟨rfl, rfl, rfl, Nat.le_refl _, fun _ _ _ => rfl⟩⟩
theorem take1 {l : List UInt8} {w : World} {B E g k : Nat} {T : TypeId} {ex : List Value} (h : Cur w B E g T ex l k) (hl : l.length = 480) (hk : k + 1 ≤ 480) :
    Calls Try.prog 43 #[.pointer (some ⟨g, 0, none⟩), .int .i64 1] w fun e w' => ∃ A c, e = .returned (.tuple #[.slice A 1 c, .int .i64 0]) ∧ Cur w' B E g T ex l (k + 1) ∧ w.grownBy w' (some g) := by
  refine (take_ok (N := 1) h (by omega) (by omega)).mono ?_
  rintro e w' ⟨u, rfl, ho, hc, hg⟩
  obtain ⟨A, c, rfl⟩ := ho.shape
  have e : ((l.drop k).take 1).length = 1 := by simp; omega
  exact ⟨A, c, by rw [e], hc, hg⟩
/-- the zero part in its block -/
def Pz (w : World) (b : Nat) : Prop := w.heap[b]? = some (.cells #[.int .u8 0, .int .u64 0, .int .i64 0, .int .i64 0, .slice none 0 0] 25 (0, 0))
theorem Pz.grown {w w' : World} {b g : Nat} (h : Pz w b) (hg : w.grownBy w' (some g)) (hne : g < b) : Pz w' b := (hg.block b (Array.getElem?_eq_some_iff.1 h).1 (by simp; omega)).trans h
theorem gtrans {a b c : World} {r : Option Nat} (h1 : a.grownBy b r) (h2 : b.grownBy c r) : a.grownBy c r := h1.trans h2
set_option maxRecDepth 100000 in
set_option maxHeartbeats 4000000 in
theorem fread_any {l : List UInt8} {w : World} {B E g : Nat} {T : TypeId} {ex : List Value} (h : Cur w B E g T ex l 16) (hl : l.length = 480) :
    Calls Try.prog 45 #[.pointer (some ⟨g, 0, none⟩)] w fun e w' => ∃ A c, e = .returned (.agg #[.int .u8 (getP 2 1 l 16 1 : Nat), .int .u64 (getP 2 8 l 20 8 : Nat), .int .i64 (getP 2 1 l 17 1 : Nat), .int .i64 (getP 2 1 l 18 1 : Nat), .slice A (cutD l (getP 2 2 l 28 2)).length c]) ∧ Own w' w.heap.size (.slice A (cutD l (getP 2 2 l 28 2)).length c) (cutD l (getP 2 2 l 28 2)) ∧ w.grownBy w' (some g) := by
  obtain ⟨k, hk⟩ : ∃ k, k = getP 2 1 l 16 1 := ⟨_, rfl⟩
  obtain ⟨i, hi⟩ : ∃ i, i = getP 2 1 l 17 1 := ⟨_, rfl⟩
  obtain ⟨n, hn⟩ : ∃ n, n = getP 2 1 l 18 1 := ⟨_, rfl⟩
  obtain ⟨d, hd⟩ : ∃ d, d = getP 2 8 l 20 8 := ⟨_, rfl⟩
  obtain ⟨r, hr⟩ : ∃ r, r = getP 2 2 l 28 2 := ⟨_, rfl⟩
  have hk8 : k < 256 := by rw [hk]; exact getP_lt 2 1 l 16 1
  have hi8 : i < 256 := by rw [hi]; exact getP_lt 2 1 l 17 1
  have hn8 : n < 256 := by rw [hn]; exact getP_lt 2 1 l 18 1
  have hr8 : r < 65536 := by rw [hr]; exact getP_lt 2 2 l 28 2
  have cvk : IntKind.u8.wrap (k : Int) = (k : Int) := by rw [IntKind.wrap_u8]; omega
  have cvi : IntKind.i64.wrap (i : Int) = (i : Int) := IntWalk.i64_in _ (by omega)
  have cvn : IntKind.i64.wrap (n : Int) = (n : Int) := IntWalk.i64_in _ (by omega)
  have cvr : IntKind.i64.wrap (r : Int) = (r : Int) := IntWalk.i64_in _ (by omega)
  rw [← hk, ← hi, ← hn, ← hd, ← hr]
  have hgw : g < w.heap.size := by obtain ⟨_, _, _, _, h1, _⟩ := h.cells; exact h1
  obtain ⟨W0, hW0⟩ : ∃ W0, W0 = w.alloc (.cells #[.int .u8 0, .int .u64 0, .int .i64 0, .int .i64 0, .slice none 0 0] 25) := ⟨_, rfl⟩
  have hb0 : Below w.heap.size w W0 := by rw [hW0]; exact (Below.refl _ _).alloc (Nat.le_refl _) _
  have hg0 : w.grownBy W0 (some g) := ⟨hb0.os, hb0.tape, hb0.output, hb0.size, fun k hk _ => hb0.block k hk⟩
  have hp0 : Pz W0 w.heap.size := by rw [hW0]; exact heap_alloc_new w _
  have HP0 := Lib.hid hp0; have HG0 := Lib.hid hg0
  have HCU0 := Lib.hid (h.below hb0 (Nat.le_refl _))
  have hsz0 : w.heap.size + 1 ≤ W0.heap.size := by rw [hW0]; simp
  have HK := Lib.hid hk; have HI := Lib.hid hi; have HN := Lib.hid hn; have HD := Lib.hid hd; have HR := Lib.hid hr; have HW0 := Lib.hid hW0
  clear h hb0 hg0 hp0 hk hi hn hd hr hW0 hk8 hi8 hn8 hr8
  go_enter Try.func45, Try.ntmps45
  go_upto_region 1 with fail
  rw [← HW0.out]
  clear HW0
  have C1 := number_ok (K := 1) HCU0.out (by rw [hl]; decide) (by decide) (by decide) (by rw [hl]; decide)
  rw [← HK.out] at C1
  have D1 : Hid (Calls Try.prog 57 #[.pointer (some ⟨g, 0, none⟩), .int .i64 2, .int .i64 1] W0 fun e w' => e = .returned (.tuple #[.int .u64 (k : Int), .int .i64 0]) ∧ Cur w' B E g T ex l 17 ∧ W0.grownBy w' (some g)) := Lib.hid C1
  clear C1
  go_wp2_with fail
  with_reducible refine (D1.out).mono ?_
  rintro e1 w1 ⟨rfl, hcu, hgr⟩
  have HCU1 : Hid (Cur w1 B E g T ex l 17) := Lib.hid hcu
  have HP1 := Lib.hid (HP0.out.grown hgr hgw)
  have HG1 := Lib.hid (gtrans HG0.out hgr)
  have hsz1 : w.heap.size + 1 ≤ w1.heap.size := Nat.le_trans hsz0 hgr.size
  clear hcu hgr D1 HCU0 HP0 HG0 hsz0
  have C2 := number_ok (K := 1) HCU1.out (by rw [hl]; decide) (by decide) (by decide) (by rw [hl]; decide)
  rw [← HI.out] at C2
  have D2 : Hid (Calls Try.prog 57 #[.pointer (some ⟨g, 0, none⟩), .int .i64 2, .int .i64 1] w1 fun e w' => e = .returned (.tuple #[.int .u64 (i : Int), .int .i64 0]) ∧ Cur w' B E g T ex l 18 ∧ w1.grownBy w' (some g)) := Lib.hid C2
  clear C2
  go_wp2_with fail
  with_reducible refine (D2.out).mono ?_
  rintro e2 w2 ⟨rfl, hcu, hgr⟩
  have HCU2 : Hid (Cur w2 B E g T ex l 18) := Lib.hid hcu
  have HP2 := Lib.hid (HP1.out.grown hgr hgw)
  have HG2 := Lib.hid (gtrans HG1.out hgr)
  have hsz2 : w.heap.size + 1 ≤ w2.heap.size := Nat.le_trans hsz1 hgr.size
  clear hcu hgr D2 HCU1 HP1 HG1 hsz1
  have C3 := number_ok (K := 1) HCU2.out (by rw [hl]; decide) (by decide) (by decide) (by rw [hl]; decide)
  rw [← HN.out] at C3
  have D3 : Hid (Calls Try.prog 57 #[.pointer (some ⟨g, 0, none⟩), .int .i64 2, .int .i64 1] w2 fun e w' => e = .returned (.tuple #[.int .u64 (n : Int), .int .i64 0]) ∧ Cur w' B E g T ex l 19 ∧ w2.grownBy w' (some g)) := Lib.hid C3
  clear C3
  go_wp2_with fail
  with_reducible refine (D3.out).mono ?_
  rintro e3 w3 ⟨rfl, hcu, hgr⟩
  have HCU3 : Hid (Cur w3 B E g T ex l 19) := Lib.hid hcu
  have HP3 := Lib.hid (HP2.out.grown hgr hgw)
  have HG3 := Lib.hid (gtrans HG2.out hgr)
  have hsz3 : w.heap.size + 1 ≤ w3.heap.size := Nat.le_trans hsz2 hgr.size
  clear hcu hgr D3 HCU2 HP2 HG2 hsz2
  have D4 : Hid _ := Lib.hid (take1 HCU3.out hl (by decide))
  go_wp2_with fail
  with_reducible refine (D4.out).mono ?_
  rintro e4 w4 ⟨A4, c4, rfl, hcu, hgr⟩
  have HCU4 : Hid (Cur w4 B E g T ex l 20) := Lib.hid hcu
  have HP4 := Lib.hid (HP3.out.grown hgr hgw)
  have HG4 := Lib.hid (gtrans HG3.out hgr)
  have hsz4 : w.heap.size + 1 ≤ w4.heap.size := Nat.le_trans hsz3 hgr.size
  clear hcu hgr D4 HCU3 HP3 HG3 hsz3
  have C5 := number_ok (K := 8) HCU4.out (by rw [hl]; decide) (by decide) (by decide) (by rw [hl]; decide)
  rw [← HD.out] at C5
  have D5 : Hid (Calls Try.prog 57 #[.pointer (some ⟨g, 0, none⟩), .int .i64 2, .int .i64 8] w4 fun e w' => e = .returned (.tuple #[.int .u64 (d : Int), .int .i64 0]) ∧ Cur w' B E g T ex l 28 ∧ w4.grownBy w' (some g)) := Lib.hid C5
  clear C5
  go_wp2_with fail
  with_reducible refine (D5.out).mono ?_
  rintro e5 w5 ⟨rfl, hcu, hgr⟩
  have HCU5 : Hid (Cur w5 B E g T ex l 28) := Lib.hid hcu
  have HP5 := Lib.hid (HP4.out.grown hgr hgw)
  have HG5 := Lib.hid (gtrans HG4.out hgr)
  have hsz5 : w.heap.size + 1 ≤ w5.heap.size := Nat.le_trans hsz4 hgr.size
  clear hcu hgr D5 HCU4 HP4 HG4 hsz4
  have C6 := number_ok (K := 2) HCU5.out (by rw [hl]; decide) (by decide) (by decide) (by rw [hl]; decide)
  rw [← HR.out] at C6
  have D6 : Hid (Calls Try.prog 57 #[.pointer (some ⟨g, 0, none⟩), .int .i64 2, .int .i64 2] w5 fun e w' => e = .returned (.tuple #[.int .u64 (r : Int), .int .i64 0]) ∧ Cur w' B E g T ex l 30 ∧ w5.grownBy w' (some g)) := Lib.hid C6
  clear C6
  go_wp2_with fail
  with_reducible refine (D6.out).mono ?_
  rintro e6 w6 ⟨rfl, hcu, hgr⟩
  have HCU6 : Hid (Cur w6 B E g T ex l 30) := Lib.hid hcu
  have HP6 := Lib.hid (HP5.out.grown hgr hgw)
  have HG6 := Lib.hid (gtrans HG5.out hgr)
  have hsz6 : w.heap.size + 1 ≤ w6.heap.size := Nat.le_trans hsz5 hgr.size
  clear hcu hgr D6 HCU5 HP5 HG5 hsz5
  have D7 := Lib.hid (take_dat HCU6.out hl r)
  obtain ⟨Z, hZ⟩ : ∃ Z, Z = cutD l r := ⟨_, rfl⟩
  rw [← hZ] at D7
  have HZ := Lib.hid hZ
  clear hZ
  go_wp2_with fail
  with_reducible refine (D7.out).mono ?_
  rintro e7 w7 ⟨A7, c7, e0, rfl, ho, hgr⟩
  have hp7 := HP6.out.grown hgr hgw
  have HP7 := Lib.hid hp7
  have HG7 := Lib.hid (gtrans HG6.out hgr)
  have hne : ∀ j, (Value.slice A7 Z.length c7).ownBlock = some j → w.heap.size < j := fun j hj => by have := (World.ownsRow.lt ho j hj).1; omega
  have HO7 := Lib.hid (ho.more (B' := w.heap.size) (by omega))
  have HNE := Lib.hid hne
  have s0 := cell_of_row _ _ 0 _ _ _ hp7
  have s1 := cell_of_row _ _ 1 _ _ _ hp7
  have s2 := cell_of_row _ _ 2 _ _ _ hp7
  have s3 := cell_of_row _ _ 3 _ _ _ hp7
  have s4 := cell_of_row _ _ 4 _ _ _ hp7
  have f0 := frozen_of_row w7 w.heap.size 0 _ _ hp7
  have f1 := frozen_of_row w7 w.heap.size 1 _ _ hp7
  have f2 := frozen_of_row w7 w.heap.size 2 _ _ hp7
  have f3 := frozen_of_row w7 w.heap.size 3 _ _ hp7
  have f4 := frozen_of_row w7 w.heap.size 4 _ _ hp7
  simp at s0 s1 s2 s3 s4
  have HRI := Lib.hid (info25 (k : Int) (d : Int) (i : Int) (n : Int) (.slice A7 Z.length c7))
  clear ho hgr hp7 hne D7 HCU6 HP6 HG6
  go_wp2_with fail
  refine bodyPost_ret (results_cell_row rfl _ _ w.heap.size 25 #[.int .u8 (k : Int), .int .u64 (d : Int), .int .i64 (i : Int), .int .i64 (n : Int), .slice A7 Z.length c7] (0, 0) _ rfl (set5_row HP7.out) Try.underlying25 rfl HRI.out) rfl ?_
  rw [← HZ.out]
  refine ⟨A7, c7, rfl, ?_, ?_⟩
  · have hk : ∀ (X : World) (q : Nat) (x : Value), Own X w.heap.size (.slice A7 Z.length c7) Z → Own (X.setCell ⟨w.heap.size, q, none⟩ x) w.heap.size (.slice A7 Z.length c7) Z := fun X q x h => h.kept (scGrown X w.heap.size q x) (by
      rcases hv : (Value.slice A7 Z.length c7).ownBlock with _ | j
      · exact .inl rfl
      · right
        have := HNE.out j hv
        intro e
        simp only [Option.some.injEq] at e
        omega)
    exact hk _ _ _ (hk _ _ _ (hk _ _ _ (hk _ _ _ (hk _ _ _ HO7.out))))
  · have hk : ∀ (X : World) (q : Nat) (x : Value), w.grownBy X (some g) → w.grownBy (X.setCell ⟨w.heap.size, q, none⟩ x) (some g) := fun X q x h => ⟨h.os, h.tape, h.output, by simpa using h.size, fun j hj hne => (Below.heap_setCell X ⟨w.heap.size, q, none⟩ x j (by show j ≠ w.heap.size; omega)).trans (h.block j hj hne)⟩
    exact hk _ _ _ (hk _ _ _ (hk _ _ _ (hk _ _ _ (hk _ _ _ HG7.out))))
end Go.Proofs.Ytdaccdbehjhfgaa
