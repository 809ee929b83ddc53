/- TapeKeeps, walked. -/
import Derived.Test.YtlheekbbioajpabT19
import Derived.Test.YtlheekbbioajpabD2
import Derived.Test.YtlheekbbioajpabEqualsT
import Derived.Deep.MidRow
namespace Go.Proofs.Ytlheekbbioajpab
open Go.RowKit

theorem OwnRd.dv {w : World} {B : Nat} {v : Value} {ls : List (List UInt8)} (h : OwnRd w B v ls) : ∃ ps, Dv w B B v ls.length ps ∧ ps.map (·.2) = ls := by
  obtain ⟨xs, h1, h2, h3, h4⟩ := h
  refine ⟨xs.zip ls, ⟨by rw [List.map_fst_zip (by omega)]; exact h1, fun p hp => ?_, ?_⟩, by rw [List.map_snd_zip (by omega)]⟩
  · obtain ⟨j, hj, rfl⟩ := List.getElem_of_mem hp
    rw [List.getElem_zip]
    rw [List.length_zip] at hj
    exact h3 j (by omega) (by omega)
  · refine List.pairwise_iff_getElem.2 fun i j hi hj hij a ha => ?_
    rw [List.length_zip] at hi hj
    rw [List.getElem_zip] at ha ⊢
    exact h4 i j (by omega) (by omega) hij a ha
theorem draw3 {l : List UInt8} {N : Nat} (h : 3 * N ≤ l.length) : drawCode l N [(N : Int), 0, (N : Int)] = 0 ∧ drawAt l N [(N : Int), 0, (N : Int)] = N + (N + N) ∧ drawL l N [(N : Int), 0, (N : Int)] = [(l.drop N).take N, [], (l.drop (2 * N)).take N] := by
  have hs : (nats [(N : Int), 0, (N : Int)]).sum = N + N := by simp [nats]
  have hc : drawCode l N [(N : Int), 0, (N : Int)] = 0 := by
    unfold drawCode
    rw [if_neg, if_neg]
    · rw [hs]; omega
    · rintro ⟨j, hj, hn⟩
      match j, hj, hn with
      | 0, _, hn => simp at hn; omega
      | 1, _, hn => simp at hn
      | 2, _, hn => simp at hn; omega
  refine ⟨hc, by rw [(draw_done hc).1, hs], ?_⟩
  rw [(draw_done hc).2]
  simp [nats, pcs, Nat.two_mul]
theorem Bs.front {w : World} {B : Nat} {A : Option Addr} {m c n : Nat} {l : List UInt8} (h : Bs w B (.slice A m c) l) (hn : n ≤ m) :
    ∃ D, Bs w B (.slice D n c) (l.take n) ∧ ∀ W, (Instr.slice 22 (.slice A m c) none (some (.int .i64 (n : Int))) none).run Try.prog W = .ok (.slice D n c) W := by
  obtain ⟨A', c', e, h1, h2, h3⟩ := h
  simp only [Value.slice.injEq] at e
  obtain ⟨rfl, rfl, rfl⟩ := e
  obtain ⟨D, hD, hrun⟩ := cut_h (A := A) (n := l.length) (c := c) (h := n) (by omega)
  have ht : (l.take n).length = n := by rw [List.length_take]; omega
  refine ⟨D, ⟨D, c, by rw [ht], by omega, h2, fun hp => ?_⟩, hrun⟩
  rw [ht] at hp
  obtain ⟨b, off, rfl, hb, hc⟩ := h3 (by omega)
  refine ⟨b, off, hD hp, hb, fun j hj => ?_⟩
  rw [List.getElem_take]
  exact hc j (by omega)
theorem Cur.al {w : World} {B E g k : Nat} {T : TypeId} {ex : List Value} {l : List UInt8} (h : Cur w B E g T ex l k) (o : Obj) : Cur (w.alloc o) B E g T ex l k := h.below ((Below.refl w.heap.size w).alloc (Nat.le_refl _) o) (Nat.le_refl _)
theorem k_draws {l : List UInt8} {w : World} {B E g N : Nat} {T : TypeId} {ex : List Value} (hc : Cur w B E g T ex l N) (hl : l.length ≤ 1048576) (hN : 3 * N ≤ l.length) :
    Calls Try.prog 15 #[.pointer (some ⟨g, 0, none⟩), .slice (some ⟨w.heap.size, 0, none⟩) 3 3] (w.alloc (.cells #[.int .i64 (N : Int), .int .i64 0, .int .i64 (N : Int)] 3)) fun e w' =>
      ∃ r ps, e = .returned (.tuple #[r, .int .i64 0]) ∧ Dv w' w.heap.size w.heap.size r 3 ps ∧ ps.map (·.2) = [(l.drop N).take N, [], (l.drop (2 * N)).take N] ∧ Cur w' B E g T ex l (N + (N + N)) ∧ w.grownBy w' (some g) := by
  have hw : (Lit.int .i64 (N : Int)).wf = true := by simp [Lit.wf, IntKind.min, IntKind.max, IntKind.signed, IntKind.bits]; omega
  have hi : Is (w.alloc (.cells #[.int .i64 (N : Int), .int .i64 0, .int .i64 (N : Int)] 3)) (w.heap.size + 1) (.slice (some ⟨w.heap.size, 0, none⟩) 3 3) [(N : Int), 0, (N : Int)] :=
    ⟨_, _, rfl, Nat.le_refl _, by unfold maxLen; simp, fun _ => ⟨_, 0, rfl, by omega, fun j hj => ⟨by
      rw [Nat.zero_add, cell_of_row _ _ j _ 3 (0, 0) (heap_alloc_new w _)]
      match j, hj with
      | 0, _ => rfl
      | 1, _ => rfl
      | 2, _ => rfl, by
      match j, hj with
      | 0, _ => exact hw
      | 1, _ => exact (by decide : (Lit.int .i64 0).wf = true)
      | 2, _ => exact hw⟩⟩⟩
  have C := draws_any (hc.al (.cells #[.int .i64 (N : Int), .int .i64 0, .int .i64 (N : Int)] 3)) hl (by omega) hi (by simp) (by simp)
  refine C.mono fun e w' ⟨u, h1, h2, h3, h4⟩ => ?_
  rw [(draw3 hN).1] at h1
  rw [(draw3 hN).2.2] at h2
  rw [(draw3 hN).2.1] at h3
  obtain ⟨ps, hd, hp⟩ := h2.dv
  exact ⟨u, ps, h1, hd.more (by simp) (by simp), hp, h3, ⟨h4.os, h4.tape, h4.output, by have := h4.size; simp at this; omega, fun k hk hne => (h4.block k (by simp; omega) hne).trans (heap_alloc_old w _ hk)⟩⟩
theorem Cur.gt2 {w : World} {B E g k : Nat} {T : TypeId} {ex : List Value} {l : List UInt8} (h : Cur w B E g T ex l k) : B ≤ g ∧ g < E := by
  obtain ⟨A, c, h1, h2, _⟩ := h
  exact ⟨h1, h2⟩
theorem Acc.single {w : World} {B : Nat} {v : Value} {l : List UInt8} (h : Own w B v l) : Acc w B [(v, l)] := ⟨fun p hp => by
  obtain rfl : p = (v, l) := by simpa using hp
  exact h, List.pairwise_singleton _ _⟩
theorem Own.shapeN {w : World} {B n : Nat} {v : Value} {l : List UInt8} (h : Own w B v l) (hn : l.length = n) : ∃ A c, v = .slice A n c := by
  obtain ⟨A, c, e⟩ := h.shape
  exact ⟨A, c, by rw [e, hn]⟩

theorem Dv.block {w : World} {R B n : Nat} {v : Value} {ps : List (Value × List UInt8)} (h : Dv w R B v n ps) (h0 : 0 < n) : ∃ g c, v = .slice (some ⟨g, 0, none⟩) n c ∧ R ≤ g ∧ g < w.heap.size := by
  rcases h.row.2 with ⟨_, h1⟩ | ⟨g, cap, cur, rfl, hg, hh, _⟩
  · omega
  · exact ⟨g, cap, rfl, hg, (Array.getElem?_eq_some_iff.1 hh).1⟩
theorem Dv.cells {w : World} {R B n g c : Nat} {ps : List (Value × List UInt8)} (h : Dv w R B (.slice (some ⟨g, 0, none⟩) n c) n ps) (j : Nat) (hj : j < ps.length) : w.cell? ⟨g, j, none⟩ = some ps[j].1 := by
  have := h.row.cells (g := g) rfl j ps[j].1 (by simp [hj])
  rwa [add_none, Nat.zero_add] at this
theorem three_of {ps : List (Value × List UInt8)} {a b c : List UInt8} (h : ps.map (·.2) = [a, b, c]) : ∃ x y z, ps = [(x, a), (y, b), (z, c)] := by
  match ps, h with
  | [(x, _), (y, _), (z, _)], h =>
    simp only [List.map_cons, List.map_nil, List.cons.injEq, and_true] at h
    obtain ⟨rfl, rfl, rfl⟩ := h
    exact ⟨x, y, z, rfl⟩
set_option maxRecDepth 100000 in
set_option maxHeartbeats 4000000 in
theorem tapekeeps_walk {l : List UInt8} {u : Value} {w : World} (hb : Bs w w.heap.size u l) (hl : l.length ≤ 1048576) :
    Calls Try.prog 6 #[u] w fun e w' => e = .returned (.bool true) ∧ Below w.heap.size w w' := by
  have CA := Lib.hid (awake_any w)
  obtain ⟨AA, cA, rfl⟩ := hb.shape
  have HA := Lib.hid hb
  obtain ⟨N, hN⟩ : ∃ N : Nat, N = l.length / 3 := ⟨_, rfl⟩
  have hN3 : 3 * N ≤ l.length := by omega
  have hdl : decide ((1048576 : Int) < (l.length : Int)) = false := by simp; omega
  have hq : Int.tdiv (l.length : Int) 3 = (N : Int) := by rw [hN]; rfl
  have HF := HA.out.front (n := N) (by omega)
  obtain ⟨DF, hDF, runF⟩ := HF
  have HP := HA.out.piece (lo := 2 * N) (hi := 3 * N) (by omega) (by omega)
  obtain ⟨DP, hDP, runP⟩ := HP
  rw [show 3 * N - 2 * N = N by omega] at hDP runP
  rw [show ((2 * N : Nat) : Int) = 2 * (N : Int) by omega, show ((3 * N : Nat) : Int) = 3 * (N : Int) by omega] at runP
  have HDF := Lib.hid hDF; have HDP := Lib.hid hDP
  obtain ⟨TF, hTF⟩ : ∃ TF, TF = l.take N := ⟨_, rfl⟩
  obtain ⟨TP, hTP⟩ : ∃ TP, TP = (l.drop (2 * N)).take N := ⟨_, rfl⟩
  have hTFl : TF.length = N := by rw [hTF, List.length_take]; omega
  have hTPl : TP.length = N := by rw [hTP, List.length_take, List.length_drop]; omega
  obtain ⟨TQ, hTQ⟩ : ∃ TQ, TQ = (l.drop N).take N := ⟨_, rfl⟩
  have HTQL : Hid (TQ.length = N) := Lib.hid (by rw [hTQ, List.length_take, List.length_drop]; omega)
  have HTQ := Lib.hid hTQ
  have HDF2 := HDF.out
  have HDP2 := HDP.out
  rw [← hTF] at HDF2
  rw [← hTP] at HDP2
  have HDF2 := Lib.hid HDF2; have HDP2 := Lib.hid HDP2
  clear HDF HDP hTQ
  have HTF := Lib.hid hTF; have HTP := Lib.hid hTP; have HTFL := Lib.hid hTFl; have HTPL := Lib.hid hTPl
  clear hb hDF hDP hN hTF hTP hTFl hTPl
  go_enter Try.func6, Try.ntmps6
  go_wp2_with fail
  with_reducible refine (CA.out).mono ?_
  rintro e0 w0 ⟨rfl, hb0⟩
  have hz0 := hb0.size
  have HB0 := Lib.hid hb0
  have C1 := Lib.hid (spare_any (HA.out.below hb0 (Nat.le_refl _)) hz0 (by omega))
  clear hb0 CA
  go_wp2_with fail
  with_reducible refine (C1.out).mono ?_
  rintro e1 w1 ⟨gX, rfl, hgx, hox, hb1⟩
  have hz1 := hb1.size
  have X1 : Hid (K1 w gX l w1) := Lib.hid ⟨HB0.out.trans (hb1.mono hz0), hox.more hz0⟩
  have hgx1 : gX < w1.heap.size := X1.out.ltX
  have h01 : w.heap.size ≤ w1.heap.size := by omega
  have C3 := Lib.hid (newtape_any X1.out.bx (Nat.le_refl _) (by omega))
  clear hox hb1 C1 HB0
  go_wp2_with fail
  with_reducible refine (C3.out).mono ?_
  rintro e2 w2 ⟨g, rfl, hc2, hb2⟩
  have hz2 := hb2.size
  have hg2 := hc2.gt2
  have X2 := Lib.hid (X1.out.below hb2)
  have C4 := Lib.hid (newfeed_any X2.out.bx (Nat.le_refl _) hl)
  have T2 := Lib.hid hc2
  clear hc2 hb2 C3 X1
  go_wp2_with fail
  with_reducible refine (C4.out).mono ?_
  rintro e3 w3 ⟨gf, ex, rfl, hc3, hb3⟩
  have hz3 := hb3.size
  have hg3 := hc3.gt2
  have X3 := Lib.hid (X2.out.below hb3)
  have F3 := Lib.hid hc3
  have C5 := draw_ok (N := N) (T2.out.below hb3 (Nat.le_refl _)) (by omega) (by omega)
  rw [List.drop_zero, ← HTF.out, Nat.zero_add] at C5
  have C5 := Lib.hid C5
  clear hc3 hb3 C4 X2 T2
  go_wp2_with fail
  with_reducible refine (C5.out).mono ?_
  rintro e4 w4 ⟨u1, rfl, ho4, hc4, hg4⟩
  have hz4 := hg4.size
  obtain ⟨A4, c4, rfl⟩ := ho4.shapeN HTFL.out
  have X4 := Lib.hid (X3.out.grown hg4 (by omega) (by omega))
  have F4 := Lib.hid (F3.out.grown hg4 (fun j hj => by simp only [Option.some.injEq] at hj; omega))
  have O4 := Lib.hid ho4
  have C6 := k_draws hc4 hl hN3
  rw [← HTP.out, ← HTQ.out] at C6
  have C6 := Lib.hid C6
  clear ho4 hc4 hg4 C5 X3 F3
  go_wp2_with fail
  with_reducible refine (C6.out).mono ?_
  rintro e5 w5 ⟨r5, p5, rfl, hd5, hp5, hc5, hg5⟩
  have hz5 := hg5.size
  obtain ⟨gr, cr, rfl, hgr0, hgr5⟩ := hd5.block (by omega)
  obtain ⟨v0, v1, v2, rfl⟩ := three_of hp5
  obtain ⟨E0, d0, rfl⟩ := (hd5.acc.own (v0, TQ) (by simp) : Own w5 w4.heap.size v0 TQ).shapeN HTQL.out
  obtain ⟨E1, d1, rfl⟩ := (hd5.acc.own (v1, []) (by simp) : Own w5 w4.heap.size v1 []).shapeN (n := 0) rfl
  obtain ⟨E2, d2, rfl⟩ := (hd5.acc.own (v2, TP) (by simp) : Own w5 w4.heap.size v2 TP).shapeN HTPL.out
  have U5 : Hid (∀ p ∈ [((.slice E0 N d0 : Value), TQ), (.slice E1 0 d1, []), (.slice E2 N d2, TP)], ∀ j, p.1.ownBlock = some j → j < w5.heap.size) := Lib.hid (fun p hp j hj => (ownLt (hd5.acc.own p hp) hj).2)
  have X5 := Lib.hid (X4.out.grown hg5 (by omega) (by omega))
  have F5 := Lib.hid (F4.out.grown hg5 (fun j hj => by simp only [Option.some.injEq] at hj; omega))
  have O5 := Lib.hid (O4.out.kept hg5 (.inr (fun e => by have := (ownLt O4.out e).1; omega)))
  have D5 := Lib.hid hd5
  have C7 := draw_ok (N := N) F5.out (by omega) (by omega)
  rw [List.drop_zero, ← HTF.out, Nat.zero_add] at C7
  have C7 := Lib.hid C7
  clear hd5 hp5 hc5 hg5 C6 X4 F4
  go_wp2_with fail
  with_reducible refine (C7.out).mono ?_
  rintro e6 w6 ⟨u6, rfl, ho6, _, hg6⟩
  have hz6 := hg6.size
  obtain ⟨A6, c6, rfl⟩ := ho6.shapeN HTFL.out
  have X6 := Lib.hid (X5.out.grown hg6 (by omega) (by omega))
  have O6 := Lib.hid (O5.out.kept hg6 (.inr (fun e => by have := (ownLt O4.out e).1; omega)))
  have D6 := Lib.hid (D5.out.kept hg6 (fun j hj => by
    simp only [Option.some.injEq] at hj
    exact ⟨by omega, fun e => by have := (D5.out.lt e).1; omega⟩))
  have T6 := Lib.hid ho6
  have V2 : Hid (Own w6 w4.heap.size (.slice E2 N d2) TP) := Lib.hid (D6.out.acc.own (.slice E2 N d2, TP) (by simp))
  have hbd : Below w6.heap.size w6 w6.drew := (Below.refl _ _).drew
  have hgr : gr < w6.heap.size := by omega
  have RC : Hid (w6.cell? ⟨gr, 2, none⟩ = some (.slice E2 N d2)) := Lib.hid (D6.out.cells 2 (by simp))
  have CE1 := Lib.hid (equal_same (O6.out.below hbd (Nat.le_refl _)).bs (HDF2.out.below (X6.out.bel.trans (hbd.mono X6.out.bel.size)) (Nat.le_refl _)))
  have hw2 : IntKind.i64.wrap (2 * (N : Int)) = 2 * (N : Int) := IntWalk.i64_in _ (by omega)
  have hw3 : IntKind.i64.wrap (3 * (N : Int)) = 3 * (N : Int) := IntWalk.i64_in _ (by omega)
  clear ho6 hg6 C7 D5 O5 X5 F5
  go_wp2_with fail
  refine wp_region_held_drew (S := fun w' => w'.cell? ⟨gr, 2, none⟩ = some (.slice E2 N d2)) (by kernel_rfl) ?_ (fun hHeld => ?_)
  · exact RC.out
  refine takeD (i := 0) (oi := _) (d := some 65) (v := ?_) rfl (by kernel_rfl) (by kernel_rfl) (by kernel_rfl) (by kernel_rfl) (fun _ _ _ h => h) (Or.inl ⟨by kernel_rfl, ?_⟩) (by assumption) ?_
  rotate_left
  focus (intro w' hSw; (try dsimp only at hSw); go_simp <;> with_reducible rfl)
  try simp only [Act.put, List.setIfInBounds_toArray, List.set_cons_zero, List.set_cons_succ]
  refine takeD (i := 1) (oi := _) (d := some 66) (v := ?_) rfl (by kernel_rfl) (by kernel_rfl) (by kernel_rfl) (by kernel_rfl) (fun _ _ _ h => h) (Or.inl ⟨by kernel_rfl, ?_⟩) (by assumption) ?_
  rotate_left
  focus (intro w' hSw; (try dsimp only at hSw); go_simp <;> with_reducible rfl)
  try simp only [Act.put, List.setIfInBounds_toArray, List.set_cons_zero, List.set_cons_succ]
  refine takeD (i := 2) (oi := _) (d := some 67) (v := ?_) rfl (by kernel_rfl) (by kernel_rfl) (by kernel_rfl) (by kernel_rfl) (fun _ _ _ h => h) (Or.inl ⟨by kernel_rfl, ?_⟩) (by assumption) ?_
  rotate_left
  focus (intro w' hSw; (try dsimp only at hSw); go_simp <;> with_reducible rfl)
  try simp only [Act.put, List.setIfInBounds_toArray, List.set_cons_zero, List.set_cons_succ]
  refine takeD (i := 3) (oi := _) (d := some 68) (v := ?_) rfl (by kernel_rfl) (by kernel_rfl) (by kernel_rfl) (by kernel_rfl) (fun _ _ _ h => h) (Or.inl ⟨by kernel_rfl, ?_⟩) (by assumption) ?_
  rotate_left
  focus (intro w' hSw; (try dsimp only at hSw); go_simp <;> with_reducible rfl)
  try simp only [Act.put, List.setIfInBounds_toArray, List.set_cons_zero, List.set_cons_succ]
  refine takeD (i := 4) (oi := _) (d := some 69) (v := ?_) rfl (by kernel_rfl) (by kernel_rfl) (by kernel_rfl) (by kernel_rfl) (fun _ _ _ h => h) (Or.inl ⟨by kernel_rfl, ?_⟩) (by assumption) ?_
  rotate_left
  focus (intro w' hSw; (try dsimp only at hSw); go_simp <;> with_reducible rfl)
  try simp only [Act.put, List.setIfInBounds_toArray, List.set_cons_zero, List.set_cons_succ]
  refine takeD (i := 5) (oi := _) (d := some 70) (v := ?_) rfl (by kernel_rfl) (by kernel_rfl) (by kernel_rfl) (by kernel_rfl) (fun _ _ _ h => h) (Or.inl ⟨by kernel_rfl, ?_⟩) (by assumption) ?_
  rotate_left
  focus (intro w' hSw; (try dsimp only at hSw); go_simp <;> with_reducible rfl)
  try simp only [Act.put, List.setIfInBounds_toArray, List.set_cons_zero, List.set_cons_succ]
  refine takeD (i := 6) (oi := _) (d := some 71) (v := ?_) rfl (by kernel_rfl) (by kernel_rfl) (by kernel_rfl) (by kernel_rfl) (fun _ _ _ h => h) (Or.inl ⟨by kernel_rfl, ?_⟩) (by assumption) ?_
  rotate_left
  focus (intro w' hSw; (try dsimp only at hSw); go_simp <;> with_reducible rfl)
  try simp only [Act.put, List.setIfInBounds_toArray, List.set_cons_zero, List.set_cons_succ]
  refine takeD (i := 7) (oi := _) (d := some 72) (v := ?_) rfl (by kernel_rfl) (by kernel_rfl) (by kernel_rfl) (by kernel_rfl) (fun _ _ _ h => h) (Or.inl ⟨by kernel_rfl, ?_⟩) (by assumption) ?_
  rotate_left
  focus (intro w' hSw; (try dsimp only at hSw); go_simp <;> with_reducible rfl)
  try simp only [Act.put, List.setIfInBounds_toArray, List.set_cons_zero, List.set_cons_succ]
  refine wpAnyH_ready (rs := [8]) (by kernel_rfl) (by simp) ?_
  refine AllReadyH.cons (o := _) rfl (fun K hK => ?_) AllReadyH.nil
  go_simp
  with_reducible refine (CE1.out).mono ?_
  rintro e7 w7 ⟨rfl, hr7⟩
  have HB7 := Lib.hid (hbd.trans (hr7.below w6.heap.size))
  clear hr7
  have CE2 := Lib.hid (equal_same (T6.out.below HB7.out (Nat.le_refl _)).bs (HDF2.out.below (X6.out.bel.trans (HB7.out.mono X6.out.bel.size)) (Nat.le_refl _)))
  have RC7 := (HB7.out.cell (p := ⟨gr, 2, none⟩) hgr).trans RC.out
  clear CE1
  refine hK.out _ _ ?_ (fun hHeld => ?_)
  · exact RC7
  clear hK K
  try simp only [Act.put, List.setIfInBounds_toArray, List.set_cons_zero, List.set_cons_succ]
  refine takeD (i := 9) (oi := _) (d := some 74) (v := ?_) rfl (by kernel_rfl) (by kernel_rfl) (by kernel_rfl) (by kernel_rfl) (fun _ _ _ h => h) (Or.inl ⟨by kernel_rfl, ?_⟩) (by assumption) ?_
  rotate_left
  focus (intro w' hSw; (try dsimp only at hSw); go_simp <;> with_reducible rfl)
  try simp only [Act.put, List.setIfInBounds_toArray, List.set_cons_zero, List.set_cons_succ]
  refine takeD (i := 10) (oi := _) (d := some 75) (v := ?_) rfl (by kernel_rfl) (by kernel_rfl) (by kernel_rfl) (by kernel_rfl) (fun _ _ _ h => h) (Or.inl ⟨by kernel_rfl, ?_⟩) (by assumption) ?_
  rotate_left
  focus (intro w' hSw; (try dsimp only at hSw); go_simp <;> with_reducible rfl)
  try simp only [Act.put, List.setIfInBounds_toArray, List.set_cons_zero, List.set_cons_succ]
  refine takeD (i := 11) (oi := _) (d := some 76) (v := ?_) rfl (by kernel_rfl) (by kernel_rfl) (by kernel_rfl) (by kernel_rfl) (fun _ _ _ h => h) (Or.inl ⟨by kernel_rfl, ?_⟩) (by assumption) ?_
  rotate_left
  focus (intro w' hSw; (try dsimp only at hSw); go_simp <;> with_reducible rfl)
  try simp only [Act.put, List.setIfInBounds_toArray, List.set_cons_zero, List.set_cons_succ]
  refine takeD (i := 12) (oi := _) (d := some 77) (v := ?_) rfl (by kernel_rfl) (by kernel_rfl) (by kernel_rfl) (by kernel_rfl) (fun _ _ _ h => h) (Or.inl ⟨by kernel_rfl, ?_⟩) (by assumption) ?_
  rotate_left
  focus (intro w' hSw; (try dsimp only at hSw); go_simp <;> with_reducible rfl)
  try simp only [Act.put, List.setIfInBounds_toArray, List.set_cons_zero, List.set_cons_succ]
  refine takeD (i := 13) (oi := _) (d := some 78) (v := ?_) rfl (by kernel_rfl) (by kernel_rfl) (by kernel_rfl) (by kernel_rfl) (fun _ _ _ h => h) (Or.inl ⟨by kernel_rfl, ?_⟩) (by assumption) ?_
  rotate_left
  focus (intro w' hSw; (try dsimp only at hSw); go_simp <;> with_reducible rfl)
  try simp only [Act.put, List.setIfInBounds_toArray, List.set_cons_zero, List.set_cons_succ]
  refine takeD (i := 14) (oi := _) (d := some 79) (v := ?_) rfl (by kernel_rfl) (by kernel_rfl) (by kernel_rfl) (by kernel_rfl) (fun _ _ _ h => h) (Or.inl ⟨by kernel_rfl, ?_⟩) (by assumption) ?_
  rotate_left
  focus (intro w' hSw; (try dsimp only at hSw); go_simp <;> with_reducible rfl)
  try simp only [Act.put, List.setIfInBounds_toArray, List.set_cons_zero, List.set_cons_succ]
  refine takeD (i := 15) (oi := _) (d := some 80) (v := ?_) rfl (by kernel_rfl) (by kernel_rfl) (by kernel_rfl) (by kernel_rfl) (fun _ _ _ h => h) (Or.inl ⟨by kernel_rfl, ?_⟩) (by assumption) ?_
  rotate_left
  focus (intro w' hSw; (try dsimp only at hSw); go_simp <;> with_reducible rfl)
  try simp only [Act.put, List.setIfInBounds_toArray, List.set_cons_zero, List.set_cons_succ]
  refine wpAnyH_ready (rs := [16]) (by kernel_rfl) (by simp) ?_
  refine AllReadyH.cons (o := _) rfl (fun K hK => ?_) AllReadyH.nil
  go_simp
  with_reducible refine (CE2.out).mono ?_
  rintro e8 w8 ⟨rfl, hr8⟩
  have HB8 := Lib.hid (HB7.out.trans (hr8.below w6.heap.size))
  clear hr8
  have CE3 := Lib.hid (equal_same (V2.out.below HB8.out (Nat.le_refl _)).bs (HDP2.out.below (X6.out.bel.trans (HB8.out.mono X6.out.bel.size)) (Nat.le_refl _)))
  have RC8 := (HB8.out.cell (p := ⟨gr, 2, none⟩) hgr).trans RC.out
  clear CE2
  refine hK.out _ _ ?_ (fun hHeld => ?_)
  · exact RC8
  clear hK K
  try simp only [Act.put, List.setIfInBounds_toArray, List.set_cons_zero, List.set_cons_succ]
  refine takeD (i := 17) (oi := _) (d := some 82) (v := ?_) rfl (by kernel_rfl) (by kernel_rfl) (by kernel_rfl) (by kernel_rfl) (fun _ _ _ h => h) (Or.inl ⟨by kernel_rfl, ?_⟩) (by assumption) ?_
  rotate_left
  focus (intro w' hSw; (try dsimp only at hSw); go_simp <;> with_reducible rfl)
  try simp only [Act.put, List.setIfInBounds_toArray, List.set_cons_zero, List.set_cons_succ]
  refine takeD (i := 18) (oi := _) (d := some 83) (v := ?_) rfl (by kernel_rfl) (by kernel_rfl) (by kernel_rfl) (by kernel_rfl) (fun _ _ _ h => h) (Or.inl ⟨by kernel_rfl, ?_⟩) (by assumption) ?_
  rotate_left
  focus (intro w' hSw; (try dsimp only at hSw); go_simp <;> with_reducible rfl)
  try simp only [Act.put, List.setIfInBounds_toArray, List.set_cons_zero, List.set_cons_succ]
  refine takeD (i := 19) (oi := _) (d := some 84) (v := ?_) rfl (by kernel_rfl) (by kernel_rfl) (by kernel_rfl) (by kernel_rfl) (fun _ _ _ h => h) (Or.inl ⟨by kernel_rfl, ?_⟩) (by assumption) ?_
  rotate_left
  focus (intro w' hSw; (try dsimp only at hSw); go_simp <;> with_reducible rfl)
  try simp only [Act.put, List.setIfInBounds_toArray, List.set_cons_zero, List.set_cons_succ]
  refine takeD (i := 20) (oi := _) (d := some 85) (v := ?_) rfl (by kernel_rfl) (by kernel_rfl) (by kernel_rfl) (by kernel_rfl) (fun _ _ _ h => h) (Or.inl ⟨by kernel_rfl, ?_⟩) (by assumption) ?_
  rotate_left
  focus (intro w' hSw; (try dsimp only at hSw); go_simp <;> with_reducible rfl)
  try simp only [Act.put, List.setIfInBounds_toArray, List.set_cons_zero, List.set_cons_succ]
  refine takeD (i := 21) (oi := _) (d := some 86) (v := ?_) rfl (by kernel_rfl) (by kernel_rfl) (by kernel_rfl) (by kernel_rfl) (fun _ _ _ h => h) (Or.inl ⟨by kernel_rfl, ?_⟩) (by assumption) ?_
  rotate_left
  focus (intro w' hSw; (try dsimp only at hSw); go_simp <;> with_reducible rfl)
  try simp only [Act.put, List.setIfInBounds_toArray, List.set_cons_zero, List.set_cons_succ]
  refine takeD (i := 22) (oi := _) (d := some 87) (v := ?_) rfl (by kernel_rfl) (by kernel_rfl) (by kernel_rfl) (by kernel_rfl) (fun _ _ _ h => h) (Or.inl ⟨by kernel_rfl, ?_⟩) (by assumption) ?_
  rotate_left
  focus (intro w' hSw; (try dsimp only at hSw); go_simp <;> with_reducible rfl)
  try simp only [Act.put, List.setIfInBounds_toArray, List.set_cons_zero, List.set_cons_succ]
  refine takeD (i := 23) (oi := _) (d := some 88) (v := ?_) rfl (by kernel_rfl) (by kernel_rfl) (by kernel_rfl) (by kernel_rfl) (fun _ _ _ h => h) (Or.inl ⟨by kernel_rfl, ?_⟩) (by assumption) ?_
  rotate_left
  focus (intro w' hSw; (try dsimp only at hSw); go_simp <;> with_reducible rfl)
  try simp only [Act.put, List.setIfInBounds_toArray, List.set_cons_zero, List.set_cons_succ]
  refine takeD (i := 24) (oi := _) (d := some 89) (v := ?_) rfl (by kernel_rfl) (by kernel_rfl) (by kernel_rfl) (by kernel_rfl) (fun _ _ _ h => h) (Or.inl ⟨by kernel_rfl, ?_⟩) (by assumption) ?_
  rotate_left
  focus (intro w' hSw; (try dsimp only at hSw); go_simp <;> with_reducible rfl)
  try simp only [Act.put, List.setIfInBounds_toArray, List.set_cons_zero, List.set_cons_succ]
  refine takeD (i := 25) (oi := _) (d := some 90) (v := ?_) rfl (by kernel_rfl) (by kernel_rfl) (by kernel_rfl) (by kernel_rfl) (fun _ _ _ h => h) (Or.inl ⟨by kernel_rfl, ?_⟩) (by assumption) ?_
  rotate_left
  focus (intro w' hSw; (try dsimp only at hSw); go_simp <;> with_reducible rfl)
  try simp only [Act.put, List.setIfInBounds_toArray, List.set_cons_zero, List.set_cons_succ]
  refine takeD (i := 26) (oi := _) (d := some 91) (v := ?_) rfl (by kernel_rfl) (by kernel_rfl) (by kernel_rfl) (by kernel_rfl) (fun _ _ _ h => h) (Or.inl ⟨by kernel_rfl, ?_⟩) (by assumption) ?_
  rotate_left
  focus (intro w' hSw; (try dsimp only at hSw); go_simp <;> with_reducible rfl)
  try simp only [Act.put, List.setIfInBounds_toArray, List.set_cons_zero, List.set_cons_succ]
  refine takeD (i := 27) (oi := _) (d := some 92) (v := ?_) rfl (by kernel_rfl) (by kernel_rfl) (by kernel_rfl) (by kernel_rfl) (fun _ _ _ h => h) (Or.inl ⟨by kernel_rfl, ?_⟩) (by assumption) ?_
  rotate_left
  focus (intro w' hSw; (try dsimp only at hSw); go_simp <;> with_reducible rfl)
  try simp only [Act.put, List.setIfInBounds_toArray, List.set_cons_zero, List.set_cons_succ]
  refine takeD (i := 28) (oi := _) (d := some 93) (v := ?_) rfl (by kernel_rfl) (by kernel_rfl) (by kernel_rfl) (by kernel_rfl) (fun _ _ _ h => h) (Or.inl ⟨by kernel_rfl, ?_⟩) (by assumption) ?_
  rotate_left
  focus (intro w' hSw; (try dsimp only at hSw); go_simp <;> with_reducible rfl)
  try simp only [Act.put, List.setIfInBounds_toArray, List.set_cons_zero, List.set_cons_succ]
  refine wpAnyH_ready (rs := [29]) (by kernel_rfl) (by simp) ?_
  refine AllReadyH.cons (o := _) rfl (fun K hK => ?_) AllReadyH.nil
  go_simp
  with_reducible refine (CE3.out).mono ?_
  rintro e9 w9 ⟨rfl, hr9⟩
  have HB9 := Lib.hid (HB8.out.trans (hr9.below w6.heap.size))
  clear hr9
  have CK := Lib.hid (kept_any (X6.out.below HB9.out).X.bs (HA.out.below (X6.out.below HB9.out).bel (Nat.le_refl _)) (by omega))
  have RC9 := (HB9.out.cell (p := ⟨gr, 2, none⟩) hgr).trans RC.out
  clear CE3
  refine hK.out _ _ ?_ (fun hHeld => ?_)
  · exact RC9
  clear hK K
  try simp only [Act.put, List.setIfInBounds_toArray, List.set_cons_zero, List.set_cons_succ]
  refine takeD (i := 30) (oi := _) (d := some 95) (v := ?_) rfl (by kernel_rfl) (by kernel_rfl) (by kernel_rfl) (by kernel_rfl) (fun _ _ _ h => h) (Or.inl ⟨by kernel_rfl, ?_⟩) (by assumption) ?_
  rotate_left
  focus (intro w' hSw; (try dsimp only at hSw); go_simp <;> with_reducible rfl)
  try simp only [Act.put, List.setIfInBounds_toArray, List.set_cons_zero, List.set_cons_succ]
  refine takeD (i := 31) (oi := _) (d := some 96) (v := ?_) rfl (by kernel_rfl) (by kernel_rfl) (by kernel_rfl) (by kernel_rfl) (fun _ _ _ h => h) (Or.inl ⟨by kernel_rfl, ?_⟩) (by assumption) ?_
  rotate_left
  focus (intro w' hSw; (try dsimp only at hSw); go_simp <;> with_reducible rfl)
  try simp only [Act.put, List.setIfInBounds_toArray, List.set_cons_zero, List.set_cons_succ]
  refine takeD (i := 32) (oi := _) (d := some 97) (v := ?_) rfl (by kernel_rfl) (by kernel_rfl) (by kernel_rfl) (by kernel_rfl) (fun _ _ _ h => h) (Or.inl ⟨by kernel_rfl, ?_⟩) (by assumption) ?_
  rotate_left
  focus (intro w' hSw; (try dsimp only at hSw); go_simp <;> with_reducible rfl)
  try simp only [Act.put, List.setIfInBounds_toArray, List.set_cons_zero, List.set_cons_succ]
  refine takeD (i := 33) (oi := _) (d := some 98) (v := ?_) rfl (by kernel_rfl) (by kernel_rfl) (by kernel_rfl) (by kernel_rfl) (fun _ _ _ h => h) (Or.inl ⟨by kernel_rfl, ?_⟩) (by assumption) ?_
  rotate_left
  focus (intro w' hSw; (try dsimp only at hSw); go_simp <;> with_reducible rfl)
  try simp only [Act.put, List.setIfInBounds_toArray, List.set_cons_zero, List.set_cons_succ]
  refine takeD (i := 34) (oi := _) (d := some 99) (v := ?_) rfl (by kernel_rfl) (by kernel_rfl) (by kernel_rfl) (by kernel_rfl) (fun _ _ _ h => h) (Or.inl ⟨by kernel_rfl, ?_⟩) (by assumption) ?_
  rotate_left
  focus (intro w' hSw; (try dsimp only at hSw); go_simp <;> with_reducible rfl)
  try simp only [Act.put, List.setIfInBounds_toArray, List.set_cons_zero, List.set_cons_succ]
  refine wpAnyH_ready (rs := [35]) (by kernel_rfl) (by simp) ?_
  refine AllReadyH.cons (o := _) rfl (fun K hK => ?_) AllReadyH.nil
  go_simp
  with_reducible refine (CK.out).mono ?_
  rintro e10 w10 ⟨rfl, hr10⟩
  have HB10 := Lib.hid (HB9.out.trans (hr10.below w6.heap.size))
  clear hr10
  have RC10 := (HB10.out.cell (p := ⟨gr, 2, none⟩) hgr).trans RC.out
  clear CK
  refine hK.out _ _ ?_ (fun hHeld => ?_)
  · exact RC10
  clear hK K
  try simp only [Act.put, List.setIfInBounds_toArray, List.set_cons_zero, List.set_cons_succ]
  refine takeD (i := 36) (oi := _) (d := some 101) (v := ?_) rfl (by kernel_rfl) (by kernel_rfl) (by kernel_rfl) (by kernel_rfl) (fun _ _ _ h => h) (Or.inl ⟨by kernel_rfl, ?_⟩) (by assumption) ?_
  rotate_left
  focus (intro w' hSw; (try dsimp only at hSw); go_simp <;> with_reducible rfl)
  try simp only [Act.put, List.setIfInBounds_toArray, List.set_cons_zero, List.set_cons_succ]
  refine takeD (i := 37) (oi := _) (d := some 102) (v := ?_) rfl (by kernel_rfl) (by kernel_rfl) (by kernel_rfl) (by kernel_rfl) (fun _ _ _ h => h) (Or.inl ⟨by kernel_rfl, ?_⟩) (by assumption) ?_
  rotate_left
  focus (intro w' hSw; (try dsimp only at hSw); go_simp <;> with_reducible rfl)
  try simp only [Act.put, List.setIfInBounds_toArray, List.set_cons_zero, List.set_cons_succ]
  refine wpAnyH_done (by kernel_rfl) ?_ _
  have hbe : Below w6.heap.size w6 w10.drew := HB10.out.trans ((Below.refl w6.heap.size w10).drew)
  have X10 := X6.out.below hbe
  have a1 := (Acc.single X10.X).app (Acc.single (O6.out.below hbe (Nat.le_refl _))) (fun p hp j hj => by
    obtain rfl : p = (_, _) := by simpa using hp
    simp only [Value.ownBlock, Option.some.injEq] at hj
    omega) (by omega)
  have a2 := a1.app (D6.out.acc.below hbe) (fun p hp j hj => by
    simp only [List.cons_append, List.nil_append, List.mem_cons, List.not_mem_nil, or_false] at hp
    rcases hp with rfl | rfl
    · simp only [Value.ownBlock, Option.some.injEq] at hj
      omega
    · exact (ownLt O4.out hj).2) (by omega)
  have a3 := a2.app (Acc.single (T6.out.below hbe (Nat.le_refl _))) (fun p hp j hj => by
    rcases List.mem_append.1 hp with hp | hp
    · simp only [List.cons_append, List.nil_append, List.mem_cons, List.not_mem_nil, or_false] at hp
      rcases hp with rfl | rfl
      · simp only [Value.ownBlock, Option.some.injEq] at hj
        omega
      · have := (ownLt O4.out hj).2
        omega
    · exact U5.out p hp j hj) (by omega)
  have hB10 := X10.bel
  have hz10 : w6.heap.size ≤ w10.drew.heap.size := hbe.size
  have CAP : Calls Try.prog 35 #[.slice (some ⟨w10.drew.heap.size, 0, none⟩) 6 6] (w10.drew.alloc (.cells #[.slice (some ⟨gX, 0, none⟩) (l.length + 40) (l.length + 40), .slice A4 N c4, .slice E0 N d0, .slice E1 0 d1, .slice E2 N d2, .slice A6 N c6] 22)) fun e w' => e = .returned (.bool true) ∧ Below w.heap.size w10.drew w' := by
    refine apart_new (ps := [(.slice (some ⟨gX, 0, none⟩) (l.length + 40) (l.length + 40), fullS l), (.slice A4 N c4, TF), (.slice E0 N d0, TQ), (.slice E1 0 d1, []), (.slice E2 N d2, TP), (.slice A6 N c6, TF)]) rfl hB10.size (by omega) (fun p hp => ?_) (fun p hp => a3.own p hp) (List.Pairwise.imp (fun h => h.or) a3.dis)
    simp only [List.mem_cons, List.not_mem_nil, or_false] at hp
    rcases hp with rfl | rfl | rfl | rfl | rfl | rfl
    · show (fullS l).length ≤ _; rw [fullS_len]; omega
    · show TF.length ≤ _; rw [HTFL.out]; omega
    · show TQ.length ≤ _; rw [HTQL.out]; omega
    · show 0 ≤ _; omega
    · show TP.length ≤ _; rw [HTPL.out]; omega
    · show TF.length ≤ _; rw [HTFL.out]; omega
  have q0 : w10.drew.cell? ⟨gr, 0, none⟩ = some (.slice E0 N d0) := (hbe.cell (p := ⟨gr, 0, none⟩) hgr).trans (D6.out.cells 0 (by simp))
  have q1 : w10.drew.cell? ⟨gr, 1, none⟩ = some (.slice E1 0 d1) := (hbe.cell (p := ⟨gr, 1, none⟩) hgr).trans (D6.out.cells 1 (by simp))
  have q2 : w10.drew.cell? ⟨gr, 2, none⟩ = some (.slice E2 N d2) := (hbe.cell (p := ⟨gr, 2, none⟩) hgr).trans (D6.out.cells 2 (by simp))
  have CAP2 : Calls Try.prog 35 #[.slice (some ⟨w10.heap.size, 0, none⟩) 6 6] (w10.alloc (.cells #[.slice (some ⟨gX, 0, none⟩) (l.length + 40) (l.length + 40), .slice A4 N c4, .slice E0 N d0, .slice E1 0 d1, .slice E2 N d2, .slice A6 N c6] 22)).drew fun e w' => e = .returned (.bool true) ∧ Below w.heap.size w10.drew w' := CAP
  have CAP := Lib.hid CAP2
  have HB10d := Lib.hid hB10
  clear CAP2 hbe X10 a1 a2 a3 hB10 hHeld HB7 HB8 HB9 HB10 RC7 RC8 RC9 RC10 hw2 hw3 runF runP
  go_wp2_with fail
  go_region_with (first
    | (go_at_call 35; with_reducible refine (CAP.out).mono ?_; rintro e11 w11 ⟨rfl, hb11⟩)
    | fail)
  all_goals
    go_wp2
    go_ret
    exact ⟨rfl, HB10d.out.trans hb11⟩
end Go.Proofs.Ytlheekbbioajpab
