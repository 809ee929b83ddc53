/- CurveMults, walked. -/
import Derived.Test.YtgkglielcbgpiaaV9
import Derived.Test.YtgkglielcbgpiaaRefCopyB
namespace Go.Proofs.Ytgkglielcbgpiaa
open Go.RowKit

/-- what Clamp answers, whatever it gets -/
def clL (k : List UInt8) : List UInt8 := if k.length = 32 then clampL k else zs 32
def clC (k : List UInt8) : Int := if k.length = 32 then 0 else 2
theorem clL_len (k : List UInt8) : (clL k).length = 32 := by
  unfold clL
  split
  · rw [clampL_len]; assumption
  · simp [zs]
theorem clamp_any {k : List UInt8} {v : Value} {w : World} (hk : Bs w w.heap.size v k) : Calls Try.prog 30 #[v] w fun e w' => e = .returned (.tuple #[.agg ((clL k).map vb).toArray, .int .i64 (clC k)]) ∧ Below w.heap.size w w' := by
  unfold clL clC
  by_cases h : k.length = 32
  · rw [if_pos h, if_pos h]; exact clamp_ok hk h
  · rw [if_neg h, if_neg h]; exact clamp_no hk h
theorem refclamp_any {k : List UInt8} {v : Value} {w : World} (hk : Bs w w.heap.size v k) : Calls Try.prog 32 #[v] w fun e w' => e = .returned (.tuple #[.agg ((clL k).map vb).toArray, .int .i64 (clC k)]) ∧ Below w.heap.size w w' := by
  unfold clL clC
  by_cases h : k.length = 32
  · rw [if_pos h, if_pos h]; exact refclamp_ok hk h
  · rw [if_neg h, if_neg h]; exact refclamp_no hk h
/-- an array of 32 bytes as an opaque row -/
structure Arr32 (us : Array Value) : Prop where
  hi : (Try.prog.info? 50).map (·.size) = some us.size
  ho : us.all (·.oneCell') = true
  hz : (#[.int .u8 0, .int .u8 0, .int .u8 0, .int .u8 0, .int .u8 0, .int .u8 0, .int .u8 0, .int .u8 0, .int .u8 0, .int .u8 0, .int .u8 0, .int .u8 0, .int .u8 0, .int .u8 0, .int .u8 0, .int .u8 0, .int .u8 0, .int .u8 0, .int .u8 0, .int .u8 0, .int .u8 0, .int .u8 0, .int .u8 0, .int .u8 0, .int .u8 0, .int .u8 0, .int .u8 0, .int .u8 0, .int .u8 0, .int .u8 0, .int .u8 0, .int .u8 0] : Array Value).size = us.size
  ne : ∀ W, (binOp .neq 50 (.agg us) (.agg us)).run Try.prog W = .ok (.bool false) W
  eq : ∀ W, (binOp .eql 50 (.agg us) (.agg us)).run Try.prog W = .ok (.bool true) W
theorem arr32_of {l : List UInt8} (h : l.length = 32) {us : Array Value} (e : us = (l.map vb).toArray) : Arr32 us := by
  subst e
  refine ⟨by simp only [List.size_toArray, List.length_map, h]; kernel_rfl, one_bytes _, by simp only [List.size_toArray, List.length_map, h]; rfl, fun W => ?_, fun W => ?_⟩
  · rw [run_neq32 h h W, decide_eq_true rfl]; rfl
  · rw [run_eql32 h h W, decide_eq_true rfl]
theorem row_up {w w' : World} {g : Nat} {o : Obj} (h : w.heap[g]? = some o) (hb : Below w.heap.size w w') : w'.heap[g]? = some o := (hb.block g (Array.getElem?_eq_some_iff.1 h).1).trans h
set_option maxRecDepth 100000 in
set_option maxHeartbeats 4000000 in
theorem cmults_walk {k u : List UInt8} {vk vu : Value} {w : World} (hk : Bs w w.heap.size vk k) (hu : Bs w w.heap.size vu u) (hkl : k.length ≤ 140737488351232) (hul : u.length ≤ 140737488351232) :
    Calls Try.prog 5 #[vk, vu] w fun e w' => e = .returned (.bool true) ∧ Below w.heap.size w w' := by
  obtain ⟨AU, cU, rfl⟩ := hu.shape
  obtain ⟨AK, cK, rfl⟩ := hk.shape
  obtain ⟨cu, hcu⟩ : ∃ cu, cu = ((clL k).map vb).toArray := ⟨_, rfl⟩
  obtain ⟨mu, hmu⟩ : ∃ mu, mu = ((mulL k u).map vb).toArray := ⟨_, rfl⟩
  obtain ⟨cc, hcc⟩ : ∃ cc, cc = clC k := ⟨_, rfl⟩
  obtain ⟨mc, hmc⟩ : ∃ mc, mc = mulC k u := ⟨_, rfl⟩
  have AC := Lib.hid (arr32_of (clL_len k) hcu)
  have AM := Lib.hid (arr32_of (mulL_len k u) hmu)
  have KC : Hid (∀ (v : Value) (W : World), Bs W W.heap.size v k → Calls Try.prog 30 #[v] W fun e w' => e = .returned (.tuple #[.agg cu, .int .i64 cc]) ∧ Below W.heap.size W w') := Lib.hid (fun v W h => by rw [hcu, hcc]; exact clamp_any h)
  have KR : Hid (∀ (v : Value) (W : World), Bs W W.heap.size v k → Calls Try.prog 32 #[v] W fun e w' => e = .returned (.tuple #[.agg cu, .int .i64 cc]) ∧ Below W.heap.size W w') := Lib.hid (fun v W h => by rw [hcu, hcc]; exact refclamp_any h)
  have KM : Hid (∀ (v v2 : Value) (W : World), Bs W W.heap.size v k → Bs W W.heap.size v2 u → Calls Try.prog 33 #[v, v2] W fun e w' => e = .returned (.tuple #[.agg mu, .int .i64 mc]) ∧ Below W.heap.size W w') := Lib.hid (fun v v2 W h h2 => by rw [hmu, hmc]; exact mult_any h h2)
  have KN : Hid (∀ (v v2 : Value) (W : World), Bs W W.heap.size v k → Bs W W.heap.size v2 u → Calls Try.prog 34 #[v, v2] W fun e w' => e = .returned (.tuple #[.agg mu, .int .i64 mc]) ∧ Below W.heap.size W w') := Lib.hid (fun v v2 W h h2 => by rw [hmu, hmc]; exact refmult_any h h2)
  have CA := Lib.hid (fun W => awake06_any W)
  have HK := Lib.hid hk; have HU := Lib.hid hu
  clear hk hu hcu hmu hcc hmc
  go_enter Try.func5, Try.ntmps5
  go_wp2_with fail
  with_reducible refine ((CA.out) _).mono ?_
  rintro e1 w1 ⟨rfl, hb⟩
  have HK1 := Lib.hid (bs_up HK.out hb); have HU1 := Lib.hid (bs_up HU.out hb); have HB1 := Lib.hid hb
  have C := Lib.hid (copy_any HK1.out (Nat.le_refl _) (by omega))
  clear hb HK HU CA
  go_wp2_with fail
  with_reducible refine (C.out).mono ?_
  rintro e2 w2 ⟨u2, rfl, ho, hb⟩
  have HK2 := Lib.hid (bs_up HK1.out hb); have HU2 := Lib.hid (bs_up HU1.out hb); have HB2 := Lib.hid (HB1.out.trans (hb.mono HB1.out.size))
  have C2 := Lib.hid (KC.out u2 w2 ho.bs)
  clear hb ho C HK1 HU1 HB1
  go_wp2_with fail
  with_reducible refine (C2.out).mono ?_
  rintro e3 v3 ⟨rfl, hb⟩
  have hz2 := heap_alloc_new v3 (.cells #[.int .u8 0, .int .u8 0, .int .u8 0, .int .u8 0, .int .u8 0, .int .u8 0, .int .u8 0, .int .u8 0, .int .u8 0, .int .u8 0, .int .u8 0, .int .u8 0, .int .u8 0, .int .u8 0, .int .u8 0, .int .u8 0, .int .u8 0, .int .u8 0, .int .u8 0, .int .u8 0, .int .u8 0, .int .u8 0, .int .u8 0, .int .u8 0, .int .u8 0, .int .u8 0, .int .u8 0, .int .u8 0, .int .u8 0, .int .u8 0, .int .u8 0, .int .u8 0] 50)
  have HZ2 := Lib.hid hz2
  clear hz2
  go_upto_region 4 with (first | (with_reducible refine wpList_store_row rfl 50 (.tmp 5) (.tmp 17) rfl (v3.heap.size) cu rfl rfl 50 _ HZ2.out AC.out.hi AC.out.hz AC.out.ho ?_) | fail)
  rw [World.setRow_alloc_new]
  obtain ⟨W4, hW⟩ : ∃ W4, W4 = v3.alloc (.cells cu 50) := ⟨_, rfl⟩
  obtain ⟨g5, hg⟩ : ∃ g5, g5 = v3.heap.size := ⟨_, rfl⟩
  have ha : Below v3.heap.size v3 W4 := by rw [hW]; exact (Below.refl _ _).alloc (Nat.le_refl _) _
  have hc := hb.trans (ha.mono hb.size)
  have r5 : Hid (W4.heap[g5]? = some (.cells cu 50 (0, 0))) := Lib.hid (by rw [hW, hg]; exact heap_alloc_new _ _)
  rw [← hW, ← hg]
  have HK3 := Lib.hid (bs_up HK2.out hc); have HU3 := Lib.hid (bs_up HU2.out hc); have HB3 := Lib.hid (HB2.out.trans (hc.mono HB2.out.size))
  have C3 := Lib.hid (KR.out _ W4 HK3.out)
  clear hb ha hc hW hg HZ2 C2 HK2 HU2 HB2
  go_wp2_with fail
  with_reducible refine (C3.out).mono ?_
  rintro e4 v4 ⟨rfl, hb⟩
  have hz2 := heap_alloc_new v4 (.cells #[.int .u8 0, .int .u8 0, .int .u8 0, .int .u8 0, .int .u8 0, .int .u8 0, .int .u8 0, .int .u8 0, .int .u8 0, .int .u8 0, .int .u8 0, .int .u8 0, .int .u8 0, .int .u8 0, .int .u8 0, .int .u8 0, .int .u8 0, .int .u8 0, .int .u8 0, .int .u8 0, .int .u8 0, .int .u8 0, .int .u8 0, .int .u8 0, .int .u8 0, .int .u8 0, .int .u8 0, .int .u8 0, .int .u8 0, .int .u8 0, .int .u8 0, .int .u8 0] 50)
  have HZ2 := Lib.hid hz2
  clear hz2
  go_upto_region 5 with (first | (with_reducible refine wpList_store_row rfl 50 (.tmp 7) (.tmp 22) rfl (v4.heap.size) cu rfl rfl 50 _ HZ2.out AC.out.hi AC.out.hz AC.out.ho ?_) | fail)
  rw [World.setRow_alloc_new]
  obtain ⟨W5, hW⟩ : ∃ W5, W5 = v4.alloc (.cells cu 50) := ⟨_, rfl⟩
  obtain ⟨g7, hg⟩ : ∃ g7, g7 = v4.heap.size := ⟨_, rfl⟩
  have ha : Below v4.heap.size v4 W5 := by rw [hW]; exact (Below.refl _ _).alloc (Nat.le_refl _) _
  have hc := hb.trans (ha.mono hb.size)
  have r7 : Hid (W5.heap[g7]? = some (.cells cu 50 (0, 0))) := Lib.hid (by rw [hW, hg]; exact heap_alloc_new _ _)
  rw [← hW, ← hg]
  have HK4 := Lib.hid (bs_up HK3.out hc); have HU4 := Lib.hid (bs_up HU3.out hc); have HB4 := Lib.hid (HB3.out.trans (hc.mono HB3.out.size))
  replace r5 := Lib.hid (row_up r5.out hc)
  have hne := AC.out.ne
  clear hb ha hc hW hg HZ2 C3 HK3 HU3 HB3
  go_upto_region 7 with (first | (with_reducible refine wpList_load_row rfl 50 (.tmp 5) rfl (g5) rfl 50 cu (0, 0) _ r5.out Try.underlying50 rfl AC.out.hi ?_) | (with_reducible refine wpList_load_row rfl 50 (.tmp 7) rfl (g7) rfl 50 cu (0, 0) _ r7.out Try.underlying50 rfl AC.out.hi ?_) | fail)
  clear hne
  have C := Lib.hid (copy_any HK4.out (Nat.le_refl _) (by omega))
  go_wp2_with fail
  with_reducible refine (C.out).mono ?_
  rintro e5 w5 ⟨u5, rfl, ho, hb⟩
  have HK5 := Lib.hid (bs_up HK4.out hb); have HU5 := Lib.hid (bs_up HU4.out hb); have HB5 := Lib.hid (HB4.out.trans (hb.mono HB4.out.size))
  have HX5 := Lib.hid ho.bs
  have C2 := Lib.hid (copy_any HU5.out (Nat.le_refl _) (by omega))
  clear hb ho C HK4 HU4 HB4 r5 r7
  go_wp2_with fail
  with_reducible refine (C2.out).mono ?_
  rintro e6 w6 ⟨u6, rfl, ho, hb⟩
  have HK6 := Lib.hid (bs_up HK5.out hb); have HU6 := Lib.hid (bs_up HU5.out hb); have HB6 := Lib.hid (HB5.out.trans (hb.mono HB5.out.size))
  have C := Lib.hid (KM.out u5 u6 w6 (bs_up HX5.out hb) ho.bs)
  clear hb ho C2 HK5 HU5 HB5 HX5
  go_wp2_with fail
  with_reducible refine (C.out).mono ?_
  rintro e7 v7 ⟨rfl, hb⟩
  have hz2 := heap_alloc_new v7 (.cells #[.int .u8 0, .int .u8 0, .int .u8 0, .int .u8 0, .int .u8 0, .int .u8 0, .int .u8 0, .int .u8 0, .int .u8 0, .int .u8 0, .int .u8 0, .int .u8 0, .int .u8 0, .int .u8 0, .int .u8 0, .int .u8 0, .int .u8 0, .int .u8 0, .int .u8 0, .int .u8 0, .int .u8 0, .int .u8 0, .int .u8 0, .int .u8 0, .int .u8 0, .int .u8 0, .int .u8 0, .int .u8 0, .int .u8 0, .int .u8 0, .int .u8 0, .int .u8 0] 50)
  have HZ2 := Lib.hid hz2
  clear hz2
  go_upto_region 8 with (first | (with_reducible refine wpList_store_row rfl 50 (.tmp 9) (.tmp 38) rfl (v7.heap.size) mu rfl rfl 50 _ HZ2.out AM.out.hi AM.out.hz AM.out.ho ?_) | fail)
  rw [World.setRow_alloc_new]
  obtain ⟨W8, hW⟩ : ∃ W8, W8 = v7.alloc (.cells mu 50) := ⟨_, rfl⟩
  obtain ⟨g9, hg⟩ : ∃ g9, g9 = v7.heap.size := ⟨_, rfl⟩
  have ha : Below v7.heap.size v7 W8 := by rw [hW]; exact (Below.refl _ _).alloc (Nat.le_refl _) _
  have hc := hb.trans (ha.mono hb.size)
  have r9 : Hid (W8.heap[g9]? = some (.cells mu 50 (0, 0))) := Lib.hid (by rw [hW, hg]; exact heap_alloc_new _ _)
  rw [← hW, ← hg]
  have HK7 := Lib.hid (bs_up HK6.out hc); have HU7 := Lib.hid (bs_up HU6.out hc); have HB7 := Lib.hid (HB6.out.trans (hc.mono HB6.out.size))
  have C3 := Lib.hid (KN.out _ _ W8 HK7.out HU7.out)
  clear hb ha hc hW hg HZ2 C HK6 HU6 HB6
  go_wp2_with fail
  with_reducible refine (C3.out).mono ?_
  rintro e8 v8 ⟨rfl, hb⟩
  have hz2 := heap_alloc_new v8 (.cells #[.int .u8 0, .int .u8 0, .int .u8 0, .int .u8 0, .int .u8 0, .int .u8 0, .int .u8 0, .int .u8 0, .int .u8 0, .int .u8 0, .int .u8 0, .int .u8 0, .int .u8 0, .int .u8 0, .int .u8 0, .int .u8 0, .int .u8 0, .int .u8 0, .int .u8 0, .int .u8 0, .int .u8 0, .int .u8 0, .int .u8 0, .int .u8 0, .int .u8 0, .int .u8 0, .int .u8 0, .int .u8 0, .int .u8 0, .int .u8 0, .int .u8 0, .int .u8 0] 50)
  have HZ2 := Lib.hid hz2
  clear hz2
  go_upto_region 9 with (first | (with_reducible refine wpList_store_row rfl 50 (.tmp 10) (.tmp 44) rfl (v8.heap.size) mu rfl rfl 50 _ HZ2.out AM.out.hi AM.out.hz AM.out.ho ?_) | fail)
  rw [World.setRow_alloc_new]
  obtain ⟨W9, hW⟩ : ∃ W9, W9 = v8.alloc (.cells mu 50) := ⟨_, rfl⟩
  obtain ⟨g10, hg⟩ : ∃ g10, g10 = v8.heap.size := ⟨_, rfl⟩
  have ha : Below v8.heap.size v8 W9 := by rw [hW]; exact (Below.refl _ _).alloc (Nat.le_refl _) _
  have hc := hb.trans (ha.mono hb.size)
  have r10 : Hid (W9.heap[g10]? = some (.cells mu 50 (0, 0))) := Lib.hid (by rw [hW, hg]; exact heap_alloc_new _ _)
  rw [← hW, ← hg]
  have HK8 := Lib.hid (bs_up HK7.out hc); have HU8 := Lib.hid (bs_up HU7.out hc); have HB8 := Lib.hid (HB7.out.trans (hc.mono HB7.out.size))
  replace r9 := Lib.hid (row_up r9.out hc)
  have heq := AM.out.eq
  clear hb ha hc hW hg HZ2 C3 HK7 HU7 HB7
  go_wp2_with (first | (with_reducible refine wpList_load_row rfl 50 (.tmp 9) rfl (g9) rfl 50 mu (0, 0) _ r9.out Try.underlying50 rfl AM.out.hi ?_) | (with_reducible refine wpList_load_row rfl 50 (.tmp 10) rfl (g10) rfl 50 mu (0, 0) _ r10.out Try.underlying50 rfl AM.out.hi ?_) | fail)
  go_ret
  exact ⟨rfl, HB8.out⟩
end Go.Proofs.Ytgkglielcbgpiaa
