/- The clock's Due. -/
import Derived.Test.YtlheekbbioajpabT5
namespace Go.Proofs.Ytlheekbbioajpab
open Go.RowKit

set_option maxRecDepth 100000 in
set_option maxHeartbeats 4000000 in
theorem due_no {w : World} {g o m : Nat} {T : TypeId} {cs : List Value} {now u : Int} {ts : List (Int × Int)} (h : Clk w g T o cs now ts) (hm : FirstMin ts ts.length m) (hn : ∀ h : m < ts.length, u < ts[m].1) :
    Calls Try.prog 21 #[.pointer (some ⟨g, o, none⟩), .int .i64 u] w fun e w' => e = .returned (.tuple #[.int .i64 0, .bool false]) ∧ Below w.heap.size w w' := by
  have c := first_any h hm
  have C := Lib.hid c
  have HH := Lib.hid h
  have hl := h.len
  clear c h
  rcases Nat.eq_zero_or_pos ts.length with h0 | hp
  · rw [show decide (0 < ts.length) = false by simp [h0]] at C
    clear h0
    go_enter Try.func21, Try.ntmps21
    go_wp2_with fail
    refine (C.out).mono ?_
    rintro e w1 ⟨rfl, hb1⟩
    go_wp2
    go_ret2
    exact ⟨rfl, hb1⟩
  · rw [show decide (0 < ts.length) = true by simp [hp]] at C
    have hml := hm.lt hp
    have hu := hn hml
    obtain ⟨x, hx⟩ : ∃ x, ts[m].1 = x := ⟨_, rfl⟩
    rw [hx] at hu
    have HX := Lib.hid hx
    have hm64 : (m : Int) < 64 := by omega
    have hm0 : (0 : Int) ≤ (m : Int) := by omega
    clear hx hn hm
    go_enter Try.func21, Try.ntmps21
    go_wp2_with fail
    refine (C.out).mono ?_
    rintro e w1 ⟨rfl, hb1⟩
    have k0 := (HH.out.grown (grown_of_below hb1 none) (by simp)).at0 hml
    rw [HX.out] at k0
    have HB := Lib.hid hb1
    clear hb1
    go_wp2
    go_ret2
    exact ⟨rfl, HB.out⟩

set_option maxRecDepth 100000 in
set_option maxHeartbeats 4000000 in
theorem due_yes {w : World} {g o m : Nat} {T : TypeId} {cs : List Value} {now u x y : Int} {ts : List (Int × Int)} (h : Clk w g T o cs now ts) (hm : FirstMin ts ts.length m) (hml : m < ts.length) (hx : ts[m].1 = x) (hy : ts[m].2 = y) (hu : x ≤ u) :
    Calls Try.prog 21 #[.pointer (some ⟨g, o, none⟩), .int .i64 u] w fun e w' => e = .returned (.tuple #[.int .i64 y, .bool true]) ∧ ClkOut w g T o cs (if now < x then x else now) (ts.eraseIdx m) w' := by
  have c := first_any h hm
  have C := Lib.hid c
  have HH := Lib.hid h
  have hl := h.len
  rw [show decide (0 < ts.length) = true by simp; omega] at C
  have HX := Lib.hid hx
  have HY := Lib.hid hy
  have hm64 : (m : Int) < 64 := by omega
  have hm0 : (0 : Int) ≤ (m : Int) := by omega
  have hd : decide (u < x) = false := by simpa using hu
  clear hx hy hm c h hu
  go_enter Try.func21, Try.ntmps21
  go_wp2_with fail
  refine (C.out).mono ?_
  rintro e w1 ⟨rfl, hb1⟩
  have hk := (HH.out.grown (grown_of_below hb1 none) (by simp))
  have k0 := hk.at0 hml
  have k1 := hk.at1 hml
  rw [HX.out] at k0
  rw [HY.out] at k1
  have HB := Lib.hid hb1
  have hgl := hk.lt
  have c2 := Lib.hid (remove_any (hk.grown (grown_of_below ((Below.refl _ w1).alloc (Nat.le_refl _) (.cells #[.int .i64 x, .int .i64 y] 48)) none) (by simp)) hml)
  clear hb1 hk
  go_wp2_with fail
  refine (c2.out).mono ?_
  rintro e w2 ⟨rfl, cs2, hk2, hl2, hs2, hg2⟩
  have n0 : w2.cell? ⟨w1.heap.size, 0, none⟩ = some (.int .i64 x) := by
    have e := hg2.block w1.heap.size (by simp) (fun e => by simp only [Option.some.injEq] at e; omega)
    rw [cell_of_row w2 _ _ _ _ _ (e.trans (heap_alloc_new w1 _))]; rfl
  have n1 : w2.cell? ⟨w1.heap.size, 1, none⟩ = some (.int .i64 y) := by
    have e := hg2.block w1.heap.size (by simp) (fun e => by simp only [Option.some.injEq] at e; omega)
    rw [cell_of_row w2 _ _ _ _ _ (e.trans (heap_alloc_new w1 _))]; rfl
  have c1 : w2.cell? ⟨g, o, none⟩ = some (.int .i64 now) := hk2.cell hk2.now
  have f1 : w2.frozen? ⟨g, o, none⟩ = false := frozen_of_row w2 g _ _ _ hk2.heap
  obtain ⟨nw, hnw⟩ : ∃ nw, nw = (if now < x then x else now) := ⟨_, rfl⟩
  have hfin : ClkOut w g T o cs nw (ts.eraseIdx m) (w2.setCell ⟨g, o, none⟩ (.int .i64 nw)).drew := by
    obtain ⟨cs3, hk3, hl3, hs3, hg3⟩ := hk2.tick nw
    refine ⟨cs3, hk3.grown (drew_grew1 _ none) (by simp), by omega, fun i hi => (hs3 i hi).trans (hs2 i hi), ?_⟩
    exact grew_trans (grew_trans (grew_trans (grew_trans (grown_of_below HB.out _) (grown_of_below ((Below.refl _ w1).alloc (Nat.le_refl _) _) _)) hg2) hg3) (drew_grew1 _ _)
  have HF := Lib.hid hfin
  have n1' : (w2.setCell ⟨g, o, none⟩ (.int .i64 nw)).cell? ⟨w1.heap.size, 1, none⟩ = some (.int .i64 y) := by
    rw [← n1]
    have e := (set_grew w2 g o (.int .i64 nw)).block w1.heap.size (Nat.lt_of_lt_of_le (by simp) hg2.size) (fun e => by simp only [Option.some.injEq] at e; omega)
    simp only [World.cell?, e]
  have N1 := Lib.hid n1'
  have NW := Lib.hid hnw
  clear hk2 hl2 hs2 hg2 hfin c2 n1' k0 k1
  by_cases hlt : now < x
  · rw [if_pos hlt] at hnw
    subst hnw
    go_wp2_with fail
    go_still_tail 10, (by kernel_rfl)
    show wpList _ _ _ _ _ w2.drew
    go_wp2_with fail
    have n2 := N1.out
    go_wp2
    go_ret2
    exact ⟨rfl, NW.out ▸ HF.out⟩
  · rw [if_neg hlt] at hnw
    subst hnw
    have hd2 : ¬ (x > nw) := hlt
    go_wp2_with fail
    go_still_tail 10, (by kernel_rfl)
    show wpList _ _ _ _ _ w2.drew
    go_wp2_with fail
    have n2 := N1.out
    go_wp2
    go_ret2
    exact ⟨rfl, NW.out ▸ HF.out⟩
end Go.Proofs.Ytlheekbbioajpab
