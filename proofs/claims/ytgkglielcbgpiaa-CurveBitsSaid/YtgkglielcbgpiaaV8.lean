/- Both Mults, whatever they get. -/
import Derived.Test.YtgkglielcbgpiaaV7
namespace Go.Proofs.Ytgkglielcbgpiaa
open Go.RowKit


set_option maxRecDepth 100000 in
set_option maxHeartbeats 4000000 in
theorem mult_nok {k u : List UInt8} {vk vu : Value} {w : World} (hk : Bs w w.heap.size vk k) (hu : Bs w w.heap.size vu u) (hkl : k.length ≠ 32) :
    Calls Try.prog 33 #[vk, vu] w fun e w' => e = .returned (.tuple #[.agg ((zs 32).map vb).toArray, .int .i64 2]) ∧ Below w.heap.size w w' := by
  obtain ⟨AU, cU, rfl⟩ := hu.shape
  obtain ⟨AK, cK, rfl⟩ := hk.shape
  obtain ⟨us, hus⟩ : ∃ us : Array Value, us = #[.int .u8 0, .int .u8 0, .int .u8 0, .int .u8 0, .int .u8 0, .int .u8 0, .int .u8 0, .int .u8 0, .int .u8 0, .int .u8 0, .int .u8 0, .int .u8 0, .int .u8 0, .int .u8 0, .int .u8 0, .int .u8 0, .int .u8 0, .int .u8 0, .int .u8 0, .int .u8 0, .int .u8 0, .int .u8 0, .int .u8 0, .int .u8 0, .int .u8 0, .int .u8 0, .int .u8 0, .int .u8 0, .int .u8 0, .int .u8 0, .int .u8 0, .int .u8 0] := ⟨_, rfl⟩
  obtain ⟨W1, hW1⟩ : ∃ W1, W1 = w.alloc (.cells #[.int .u8 0, .int .u8 0, .int .u8 0, .int .u8 0, .int .u8 0, .int .u8 0, .int .u8 0, .int .u8 0, .int .u8 0, .int .u8 0, .int .u8 0, .int .u8 0, .int .u8 0, .int .u8 0, .int .u8 0, .int .u8 0, .int .u8 0, .int .u8 0, .int .u8 0, .int .u8 0, .int .u8 0, .int .u8 0, .int .u8 0, .int .u8 0, .int .u8 0, .int .u8 0, .int .u8 0, .int .u8 0, .int .u8 0, .int .u8 0, .int .u8 0, .int .u8 0] 50) := ⟨_, rfl⟩
  have hb1 : Below w.heap.size w W1 := by rw [hW1]; exact (Below.refl _ _).alloc (Nat.le_refl _) _
  obtain ⟨g4, hg4⟩ : ∃ g4, g4 = w.heap.size := ⟨_, rfl⟩
  have k4 : RowL W1 g4 ((zs 32).map vb) 50 := by rw [hW1, hg4]; exact RowL.new w _ _
  have C1 : Hid (Calls Try.prog 30 #[.slice AK k.length cK] W1 fun e w' => e = .returned (.tuple #[.agg us, .int .i64 2]) ∧ Below W1.heap.size W1 w') := Lib.hid (by rw [hus]; exact clamp_no (bs_up hk hb1) hkl)
  have hi : Hid ((Try.prog.info? 50).map (·.size) = some us.size) := Lib.hid (by rw [hus]; kernel_rfl)
  have ho : Hid (us.all (·.oneCell') = true) := Lib.hid (by rw [hus]; kernel_rfl)
  have hz : Hid ((#[.int .u8 0, .int .u8 0, .int .u8 0, .int .u8 0, .int .u8 0, .int .u8 0, .int .u8 0, .int .u8 0, .int .u8 0, .int .u8 0, .int .u8 0, .int .u8 0, .int .u8 0, .int .u8 0, .int .u8 0, .int .u8 0, .int .u8 0, .int .u8 0, .int .u8 0, .int .u8 0, .int .u8 0, .int .u8 0, .int .u8 0, .int .u8 0, .int .u8 0, .int .u8 0, .int .u8 0, .int .u8 0, .int .u8 0, .int .u8 0, .int .u8 0, .int .u8 0] : Array Value).size = us.size) := Lib.hid (by rw [hus])
  have HB1 := Lib.hid hb1; have K4 := Lib.hid k4; have HW1 := Lib.hid hW1; have HG4 := Lib.hid hg4
  clear hk hu hkl hus hW1 hb1 k4 hg4 
  go_enter Try.func33, Try.ntmps33
  go_upto_region 1 with fail
  rw [show _ = W1 from HW1.out.symm, show _ = g4 from HG4.out.symm]
  clear HW1
  go_wp2_with fail
  with_reducible refine (C1.out).mono ?_
  rintro e1 v1 ⟨rfl, hb1⟩
  have hz2 := heap_alloc_new v1 (.cells #[.int .u8 0, .int .u8 0, .int .u8 0, .int .u8 0, .int .u8 0, .int .u8 0, .int .u8 0, .int .u8 0, .int .u8 0, .int .u8 0, .int .u8 0, .int .u8 0, .int .u8 0, .int .u8 0, .int .u8 0, .int .u8 0, .int .u8 0, .int .u8 0, .int .u8 0, .int .u8 0, .int .u8 0, .int .u8 0, .int .u8 0, .int .u8 0, .int .u8 0, .int .u8 0, .int .u8 0, .int .u8 0, .int .u8 0, .int .u8 0, .int .u8 0, .int .u8 0] 50)
  have HZ2 := Lib.hid hz2
  clear hz2
  go_upto_region 2 with (first | (with_reducible refine wpList_store_row rfl 50 (.tmp 6) (.tmp 13) rfl (v1.heap.size) us rfl rfl 50 _ HZ2.out hi.out hz.out ho.out ?_) | fail)
  rw [World.setRow_alloc_new]
  obtain ⟨W2, hW2⟩ : ∃ W2, W2 = v1.alloc (.cells us 50) := ⟨_, rfl⟩
  have ha2 : Below v1.heap.size v1 W2 := by rw [hW2]; exact (Below.refl _ _).alloc (Nat.le_refl _) _
  have hc2 : Below W1.heap.size W1 W2 := hb1.trans (ha2.mono hb1.size)
  have K4b := Lib.hid (K4.out.upS hc2)
  have HB2 := Lib.hid (HB1.out.trans (hc2.mono HB1.out.size))
  have U_g4 : Hid (w.heap.size ≤ g4) := Lib.hid (Nat.le_of_eq HG4.out.symm)
  rw [← hW2]
  clear hb1 ha2 hc2 hW2 K4 HB1 HZ2 C1 hi ho hz 
  go_upto_region 3 with fail
  refine wp_region ?_
  rw [show List.range _ = [0, 1, 2, 3] from rfl]
  refine seq_cons (op_val rfl rfl (w' := W2) (v := .agg #[.int .u8 0, .int .u8 0, .int .u8 0, .int .u8 0, .int .u8 0, .int .u8 0, .int .u8 0, .int .u8 0, .int .u8 0, .int .u8 0, .int .u8 0, .int .u8 0, .int .u8 0, .int .u8 0, .int .u8 0, .int .u8 0, .int .u8 0, .int .u8 0, .int .u8 0, .int .u8 0, .int .u8 0, .int .u8 0, .int .u8 0, .int .u8 0, .int .u8 0, .int .u8 0, .int .u8 0, .int .u8 0, .int .u8 0, .int .u8 0, .int .u8 0, .int .u8 0]) (by kernel_rfl) 17 rfl ?_)
  simp only [Act.put, List.setIfInBounds_toArray, List.set_cons_zero, List.set_cons_succ]
  refine seq_cons (op_assign rfl rfl (.tmp 7) (.inl rfl) (v := .int .i64 2) (by kernel_rfl) 18 rfl ?_)
  simp only [Act.put, List.setIfInBounds_toArray, List.set_cons_zero, List.set_cons_succ]
  refine seq_cons (op_store rfl rfl rfl 50 (.tmp 4) (.tmp 17) rfl g4 ([.int .u8 0, .int .u8 0, .int .u8 0, .int .u8 0, .int .u8 0, .int .u8 0, .int .u8 0, .int .u8 0, .int .u8 0, .int .u8 0, .int .u8 0, .int .u8 0, .int .u8 0, .int .u8 0, .int .u8 0, .int .u8 0, .int .u8 0, .int .u8 0, .int .u8 0, .int .u8 0, .int .u8 0, .int .u8 0, .int .u8 0, .int .u8 0, .int .u8 0, .int .u8 0, .int .u8 0, .int .u8 0, .int .u8 0, .int .u8 0, .int .u8 0, .int .u8 0] : List Value).toArray (by kernel_rfl) (by kernel_rfl) _ _ K4b.out (by kernel_rfl) rfl (by kernel_rfl) ?_)
  have F4 := Lib.hid (RowL.set K4b.out ([.int .u8 0, .int .u8 0, .int .u8 0, .int .u8 0, .int .u8 0, .int .u8 0, .int .u8 0, .int .u8 0, .int .u8 0, .int .u8 0, .int .u8 0, .int .u8 0, .int .u8 0, .int .u8 0, .int .u8 0, .int .u8 0, .int .u8 0, .int .u8 0, .int .u8 0, .int .u8 0, .int .u8 0, .int .u8 0, .int .u8 0, .int .u8 0, .int .u8 0, .int .u8 0, .int .u8 0, .int .u8 0, .int .u8 0, .int .u8 0, .int .u8 0, .int .u8 0]))
  have FB := Lib.hid (set_below HB2.out U_g4.out ([.int .u8 0, .int .u8 0, .int .u8 0, .int .u8 0, .int .u8 0, .int .u8 0, .int .u8 0, .int .u8 0, .int .u8 0, .int .u8 0, .int .u8 0, .int .u8 0, .int .u8 0, .int .u8 0, .int .u8 0, .int .u8 0, .int .u8 0, .int .u8 0, .int .u8 0, .int .u8 0, .int .u8 0, .int .u8 0, .int .u8 0, .int .u8 0, .int .u8 0, .int .u8 0, .int .u8 0, .int .u8 0, .int .u8 0, .int .u8 0, .int .u8 0, .int .u8 0] : List Value).toArray)
  generalize (W2).setRow g4 ([.int .u8 0, .int .u8 0, .int .u8 0, .int .u8 0, .int .u8 0, .int .u8 0, .int .u8 0, .int .u8 0, .int .u8 0, .int .u8 0, .int .u8 0, .int .u8 0, .int .u8 0, .int .u8 0, .int .u8 0, .int .u8 0, .int .u8 0, .int .u8 0, .int .u8 0, .int .u8 0, .int .u8 0, .int .u8 0, .int .u8 0, .int .u8 0, .int .u8 0, .int .u8 0, .int .u8 0, .int .u8 0, .int .u8 0, .int .u8 0, .int .u8 0, .int .u8 0] : List Value).toArray = W9 at *
  refine seq_cons (op_assign rfl rfl (.tmp 18) (.inr rfl) (v := .int .i64 2) (by kernel_rfl) 5 rfl ?_)
  simp only [Act.put, List.setIfInBounds_toArray, List.set_cons_zero, List.set_cons_succ]
  refine seq_end ?_
  go_wp2
  refine bodyPost_ret (results_cell_tmp rfl _ _ g4 50 ([.int .u8 0, .int .u8 0, .int .u8 0, .int .u8 0, .int .u8 0, .int .u8 0, .int .u8 0, .int .u8 0, .int .u8 0, .int .u8 0, .int .u8 0, .int .u8 0, .int .u8 0, .int .u8 0, .int .u8 0, .int .u8 0, .int .u8 0, .int .u8 0, .int .u8 0, .int .u8 0, .int .u8 0, .int .u8 0, .int .u8 0, .int .u8 0, .int .u8 0, .int .u8 0, .int .u8 0, .int .u8 0, .int .u8 0, .int .u8 0, .int .u8 0, .int .u8 0] : List Value).toArray (0, 0) _ (.int .i64 2) (by kernel_rfl) (by kernel_rfl) F4.out Try.underlying50 rfl (by kernel_rfl)) rfl ⟨rfl, FB.out⟩
set_option maxRecDepth 100000 in
set_option maxHeartbeats 4000000 in
theorem mult_nou {k u : List UInt8} {vk vu : Value} {w : World} (hk : Bs w w.heap.size vk k) (hu : Bs w w.heap.size vu u) (hkl : k.length = 32) (hul : u.length ≠ 32) :
    Calls Try.prog 33 #[vk, vu] w fun e w' => e = .returned (.tuple #[.agg ((zs 32).map vb).toArray, .int .i64 2]) ∧ Below w.heap.size w w' := by
  obtain ⟨AU, cU, rfl⟩ := hu.shape
  obtain ⟨AK, cK, rfl⟩ := hk.shape
  obtain ⟨us, hus⟩ : ∃ us : Array Value, us = ((clampL k).map vb).toArray := ⟨_, rfl⟩
  obtain ⟨W1, hW1⟩ : ∃ W1, W1 = w.alloc (.cells #[.int .u8 0, .int .u8 0, .int .u8 0, .int .u8 0, .int .u8 0, .int .u8 0, .int .u8 0, .int .u8 0, .int .u8 0, .int .u8 0, .int .u8 0, .int .u8 0, .int .u8 0, .int .u8 0, .int .u8 0, .int .u8 0, .int .u8 0, .int .u8 0, .int .u8 0, .int .u8 0, .int .u8 0, .int .u8 0, .int .u8 0, .int .u8 0, .int .u8 0, .int .u8 0, .int .u8 0, .int .u8 0, .int .u8 0, .int .u8 0, .int .u8 0, .int .u8 0] 50) := ⟨_, rfl⟩
  have hb1 : Below w.heap.size w W1 := by rw [hW1]; exact (Below.refl _ _).alloc (Nat.le_refl _) _
  obtain ⟨g4, hg4⟩ : ∃ g4, g4 = w.heap.size := ⟨_, rfl⟩
  have k4 : RowL W1 g4 ((zs 32).map vb) 50 := by rw [hW1, hg4]; exact RowL.new w _ _
  have C1 : Hid (Calls Try.prog 30 #[.slice AK k.length cK] W1 fun e w' => e = .returned (.tuple #[.agg us, .int .i64 0]) ∧ Below W1.heap.size W1 w') := Lib.hid (by rw [hus]; exact clamp_ok (bs_up hk hb1) hkl)
  have hi : Hid ((Try.prog.info? 50).map (·.size) = some us.size) := Lib.hid (by rw [hus]; simp only [List.size_toArray, List.length_map, clampL_len, hkl]; kernel_rfl)
  have ho : Hid (us.all (·.oneCell') = true) := Lib.hid (by rw [hus]; exact one_bytes _)
  have hz : Hid ((#[.int .u8 0, .int .u8 0, .int .u8 0, .int .u8 0, .int .u8 0, .int .u8 0, .int .u8 0, .int .u8 0, .int .u8 0, .int .u8 0, .int .u8 0, .int .u8 0, .int .u8 0, .int .u8 0, .int .u8 0, .int .u8 0, .int .u8 0, .int .u8 0, .int .u8 0, .int .u8 0, .int .u8 0, .int .u8 0, .int .u8 0, .int .u8 0, .int .u8 0, .int .u8 0, .int .u8 0, .int .u8 0, .int .u8 0, .int .u8 0, .int .u8 0, .int .u8 0] : Array Value).size = us.size) := Lib.hid (by rw [hus]; simp only [List.size_toArray, List.length_map, clampL_len, hkl]; rfl)
  have HU1 := Lib.hid (bs_up hu hb1)
  have HUL := Lib.hid hul
  have HB1 := Lib.hid hb1; have K4 := Lib.hid k4; have HW1 := Lib.hid hW1; have HG4 := Lib.hid hg4
  clear hk hu hkl hus hW1 hb1 k4 hg4 hul
  go_enter Try.func33, Try.ntmps33
  go_upto_region 1 with fail
  rw [show _ = W1 from HW1.out.symm, show _ = g4 from HG4.out.symm]
  clear HW1
  go_wp2_with fail
  with_reducible refine (C1.out).mono ?_
  rintro e1 v1 ⟨rfl, hb1⟩
  have hz2 := heap_alloc_new v1 (.cells #[.int .u8 0, .int .u8 0, .int .u8 0, .int .u8 0, .int .u8 0, .int .u8 0, .int .u8 0, .int .u8 0, .int .u8 0, .int .u8 0, .int .u8 0, .int .u8 0, .int .u8 0, .int .u8 0, .int .u8 0, .int .u8 0, .int .u8 0, .int .u8 0, .int .u8 0, .int .u8 0, .int .u8 0, .int .u8 0, .int .u8 0, .int .u8 0, .int .u8 0, .int .u8 0, .int .u8 0, .int .u8 0, .int .u8 0, .int .u8 0, .int .u8 0, .int .u8 0] 50)
  have HZ2 := Lib.hid hz2
  clear hz2
  go_upto_region 2 with (first | (with_reducible refine wpList_store_row rfl 50 (.tmp 6) (.tmp 13) rfl (v1.heap.size) us rfl rfl 50 _ HZ2.out hi.out hz.out ho.out ?_) | fail)
  rw [World.setRow_alloc_new]
  obtain ⟨W2, hW2⟩ : ∃ W2, W2 = v1.alloc (.cells us 50) := ⟨_, rfl⟩
  have ha2 : Below v1.heap.size v1 W2 := by rw [hW2]; exact (Below.refl _ _).alloc (Nat.le_refl _) _
  have hc2 : Below W1.heap.size W1 W2 := hb1.trans (ha2.mono hb1.size)
  have K4b := Lib.hid (K4.out.upS hc2)
  have HB2 := Lib.hid (HB1.out.trans (hc2.mono HB1.out.size))
  have U_g4 : Hid (w.heap.size ≤ g4) := Lib.hid (Nat.le_of_eq HG4.out.symm)
  have C2 := Lib.hid (fread_no (bs_up HU1.out hc2) HUL.out)
  rw [← hW2]
  clear hb1 ha2 hc2 hW2 K4 HB1 HZ2 C1 hi ho hz HU1
  go_wp2_with fail
  with_reducible refine (C2.out).mono ?_
  rintro e2 v2 ⟨rfl, hb2⟩
  go_upto_region 6 with fail
  obtain ⟨W3, hW3⟩ : ∃ W3, W3 = v2.alloc (.cells ([.int .u64 (l0 (0) : Int), .int .u64 (l1 (0) : Int), .int .u64 (l2 (0) : Int), .int .u64 (l3 (0) : Int)] : List Value).toArray 26) := ⟨_, rfl⟩
  have ha3 : Below v2.heap.size v2 W3 := by rw [hW3]; exact (Below.refl _ _).alloc (Nat.le_refl _) _
  have hc3 : Below W2.heap.size W2 W3 := hb2.trans (ha3.mono hb2.size)
  have R4 := Lib.hid (K4b.out.upS hc3)
  have HB3 := Lib.hid (HB2.out.trans (hc3.mono HB2.out.size))
  have HW3 := Lib.hid hW3
  clear hb2 ha3 hc3 hW3 K4b HB2 C2
  rw [show _ = W3 from HW3.out.symm]
  clear HW3
  refine wp_region ?_
  rw [show List.range _ = [0, 1, 2, 3] from rfl]
  refine seq_cons (op_val rfl rfl (w' := W3) (v := .agg #[.int .u8 0, .int .u8 0, .int .u8 0, .int .u8 0, .int .u8 0, .int .u8 0, .int .u8 0, .int .u8 0, .int .u8 0, .int .u8 0, .int .u8 0, .int .u8 0, .int .u8 0, .int .u8 0, .int .u8 0, .int .u8 0, .int .u8 0, .int .u8 0, .int .u8 0, .int .u8 0, .int .u8 0, .int .u8 0, .int .u8 0, .int .u8 0, .int .u8 0, .int .u8 0, .int .u8 0, .int .u8 0, .int .u8 0, .int .u8 0, .int .u8 0, .int .u8 0]) (by kernel_rfl) 26 rfl ?_)
  simp only [Act.put, List.setIfInBounds_toArray, List.set_cons_zero, List.set_cons_succ]
  refine seq_cons (op_assign rfl rfl (.tmp 7) (.inl rfl) (v := .int .i64 2) (by kernel_rfl) 27 rfl ?_)
  simp only [Act.put, List.setIfInBounds_toArray, List.set_cons_zero, List.set_cons_succ]
  refine seq_cons (op_store rfl rfl rfl 50 (.tmp 4) (.tmp 26) rfl g4 ([.int .u8 0, .int .u8 0, .int .u8 0, .int .u8 0, .int .u8 0, .int .u8 0, .int .u8 0, .int .u8 0, .int .u8 0, .int .u8 0, .int .u8 0, .int .u8 0, .int .u8 0, .int .u8 0, .int .u8 0, .int .u8 0, .int .u8 0, .int .u8 0, .int .u8 0, .int .u8 0, .int .u8 0, .int .u8 0, .int .u8 0, .int .u8 0, .int .u8 0, .int .u8 0, .int .u8 0, .int .u8 0, .int .u8 0, .int .u8 0, .int .u8 0, .int .u8 0] : List Value).toArray (by kernel_rfl) (by kernel_rfl) _ _ R4.out (by kernel_rfl) rfl (by kernel_rfl) ?_)
  have F4 := Lib.hid (RowL.set R4.out ([.int .u8 0, .int .u8 0, .int .u8 0, .int .u8 0, .int .u8 0, .int .u8 0, .int .u8 0, .int .u8 0, .int .u8 0, .int .u8 0, .int .u8 0, .int .u8 0, .int .u8 0, .int .u8 0, .int .u8 0, .int .u8 0, .int .u8 0, .int .u8 0, .int .u8 0, .int .u8 0, .int .u8 0, .int .u8 0, .int .u8 0, .int .u8 0, .int .u8 0, .int .u8 0, .int .u8 0, .int .u8 0, .int .u8 0, .int .u8 0, .int .u8 0, .int .u8 0]))
  have FB := Lib.hid (set_below HB3.out U_g4.out ([.int .u8 0, .int .u8 0, .int .u8 0, .int .u8 0, .int .u8 0, .int .u8 0, .int .u8 0, .int .u8 0, .int .u8 0, .int .u8 0, .int .u8 0, .int .u8 0, .int .u8 0, .int .u8 0, .int .u8 0, .int .u8 0, .int .u8 0, .int .u8 0, .int .u8 0, .int .u8 0, .int .u8 0, .int .u8 0, .int .u8 0, .int .u8 0, .int .u8 0, .int .u8 0, .int .u8 0, .int .u8 0, .int .u8 0, .int .u8 0, .int .u8 0, .int .u8 0] : List Value).toArray)
  generalize (W3).setRow g4 ([.int .u8 0, .int .u8 0, .int .u8 0, .int .u8 0, .int .u8 0, .int .u8 0, .int .u8 0, .int .u8 0, .int .u8 0, .int .u8 0, .int .u8 0, .int .u8 0, .int .u8 0, .int .u8 0, .int .u8 0, .int .u8 0, .int .u8 0, .int .u8 0, .int .u8 0, .int .u8 0, .int .u8 0, .int .u8 0, .int .u8 0, .int .u8 0, .int .u8 0, .int .u8 0, .int .u8 0, .int .u8 0, .int .u8 0, .int .u8 0, .int .u8 0, .int .u8 0] : List Value).toArray = W9 at *
  refine seq_cons (op_assign rfl rfl (.tmp 27) (.inr rfl) (v := .int .i64 2) (by kernel_rfl) 5 rfl ?_)
  simp only [Act.put, List.setIfInBounds_toArray, List.set_cons_zero, List.set_cons_succ]
  refine seq_end ?_
  go_wp2
  refine bodyPost_ret (results_cell_tmp rfl _ _ g4 50 ([.int .u8 0, .int .u8 0, .int .u8 0, .int .u8 0, .int .u8 0, .int .u8 0, .int .u8 0, .int .u8 0, .int .u8 0, .int .u8 0, .int .u8 0, .int .u8 0, .int .u8 0, .int .u8 0, .int .u8 0, .int .u8 0, .int .u8 0, .int .u8 0, .int .u8 0, .int .u8 0, .int .u8 0, .int .u8 0, .int .u8 0, .int .u8 0, .int .u8 0, .int .u8 0, .int .u8 0, .int .u8 0, .int .u8 0, .int .u8 0, .int .u8 0, .int .u8 0] : List Value).toArray (0, 0) _ (.int .i64 2) (by kernel_rfl) (by kernel_rfl) F4.out Try.underlying50 rfl (by kernel_rfl)) rfl ⟨rfl, FB.out⟩
set_option maxRecDepth 100000 in
set_option maxHeartbeats 4000000 in
theorem refmult_nok {k u : List UInt8} {vk vu : Value} {w : World} (hk : Bs w w.heap.size vk k) (hu : Bs w w.heap.size vu u) (hkl : k.length ≠ 32) :
    Calls Try.prog 34 #[vk, vu] w fun e w' => e = .returned (.tuple #[.agg ((zs 32).map vb).toArray, .int .i64 2]) ∧ Below w.heap.size w w' := by
  obtain ⟨AU, cU, rfl⟩ := hu.shape
  obtain ⟨AK, cK, rfl⟩ := hk.shape
  obtain ⟨us, hus⟩ : ∃ us : Array Value, us = #[.int .u8 0, .int .u8 0, .int .u8 0, .int .u8 0, .int .u8 0, .int .u8 0, .int .u8 0, .int .u8 0, .int .u8 0, .int .u8 0, .int .u8 0, .int .u8 0, .int .u8 0, .int .u8 0, .int .u8 0, .int .u8 0, .int .u8 0, .int .u8 0, .int .u8 0, .int .u8 0, .int .u8 0, .int .u8 0, .int .u8 0, .int .u8 0, .int .u8 0, .int .u8 0, .int .u8 0, .int .u8 0, .int .u8 0, .int .u8 0, .int .u8 0, .int .u8 0] := ⟨_, rfl⟩
  obtain ⟨W1, hW1⟩ : ∃ W1, W1 = w.alloc (.cells #[.int .u8 0, .int .u8 0, .int .u8 0, .int .u8 0, .int .u8 0, .int .u8 0, .int .u8 0, .int .u8 0, .int .u8 0, .int .u8 0, .int .u8 0, .int .u8 0, .int .u8 0, .int .u8 0, .int .u8 0, .int .u8 0, .int .u8 0, .int .u8 0, .int .u8 0, .int .u8 0, .int .u8 0, .int .u8 0, .int .u8 0, .int .u8 0, .int .u8 0, .int .u8 0, .int .u8 0, .int .u8 0, .int .u8 0, .int .u8 0, .int .u8 0, .int .u8 0] 50) := ⟨_, rfl⟩
  have hb1 : Below w.heap.size w W1 := by rw [hW1]; exact (Below.refl _ _).alloc (Nat.le_refl _) _
  obtain ⟨g4, hg4⟩ : ∃ g4, g4 = w.heap.size := ⟨_, rfl⟩
  have k4 : RowL W1 g4 ((zs 32).map vb) 50 := by rw [hW1, hg4]; exact RowL.new w _ _
  have C1 : Hid (Calls Try.prog 32 #[.slice AK k.length cK] W1 fun e w' => e = .returned (.tuple #[.agg us, .int .i64 2]) ∧ Below W1.heap.size W1 w') := Lib.hid (by rw [hus]; exact refclamp_no (bs_up hk hb1) hkl)
  have hi : Hid ((Try.prog.info? 50).map (·.size) = some us.size) := Lib.hid (by rw [hus]; kernel_rfl)
  have ho : Hid (us.all (·.oneCell') = true) := Lib.hid (by rw [hus]; kernel_rfl)
  have hz : Hid ((#[.int .u8 0, .int .u8 0, .int .u8 0, .int .u8 0, .int .u8 0, .int .u8 0, .int .u8 0, .int .u8 0, .int .u8 0, .int .u8 0, .int .u8 0, .int .u8 0, .int .u8 0, .int .u8 0, .int .u8 0, .int .u8 0, .int .u8 0, .int .u8 0, .int .u8 0, .int .u8 0, .int .u8 0, .int .u8 0, .int .u8 0, .int .u8 0, .int .u8 0, .int .u8 0, .int .u8 0, .int .u8 0, .int .u8 0, .int .u8 0, .int .u8 0, .int .u8 0] : Array Value).size = us.size) := Lib.hid (by rw [hus])
  have HB1 := Lib.hid hb1; have K4 := Lib.hid k4; have HW1 := Lib.hid hW1; have HG4 := Lib.hid hg4
  clear hk hu hkl hus hW1 hb1 k4 hg4 
  go_enter Try.func34, Try.ntmps34
  go_upto_region 1 with fail
  rw [show _ = W1 from HW1.out.symm, show _ = g4 from HG4.out.symm]
  clear HW1
  go_wp2_with fail
  with_reducible refine (C1.out).mono ?_
  rintro e1 v1 ⟨rfl, hb1⟩
  have hz2 := heap_alloc_new v1 (.cells #[.int .u8 0, .int .u8 0, .int .u8 0, .int .u8 0, .int .u8 0, .int .u8 0, .int .u8 0, .int .u8 0, .int .u8 0, .int .u8 0, .int .u8 0, .int .u8 0, .int .u8 0, .int .u8 0, .int .u8 0, .int .u8 0, .int .u8 0, .int .u8 0, .int .u8 0, .int .u8 0, .int .u8 0, .int .u8 0, .int .u8 0, .int .u8 0, .int .u8 0, .int .u8 0, .int .u8 0, .int .u8 0, .int .u8 0, .int .u8 0, .int .u8 0, .int .u8 0] 50)
  have HZ2 := Lib.hid hz2
  clear hz2
  go_upto_region 2 with (first | (with_reducible refine wpList_store_row rfl 50 (.tmp 6) (.tmp 28) rfl (v1.heap.size) us rfl rfl 50 _ HZ2.out hi.out hz.out ho.out ?_) | fail)
  rw [World.setRow_alloc_new]
  obtain ⟨W2, hW2⟩ : ∃ W2, W2 = v1.alloc (.cells us 50) := ⟨_, rfl⟩
  have ha2 : Below v1.heap.size v1 W2 := by rw [hW2]; exact (Below.refl _ _).alloc (Nat.le_refl _) _
  have hc2 : Below W1.heap.size W1 W2 := hb1.trans (ha2.mono hb1.size)
  have K4b := Lib.hid (K4.out.upS hc2)
  have HB2 := Lib.hid (HB1.out.trans (hc2.mono HB1.out.size))
  have U_g4 : Hid (w.heap.size ≤ g4) := Lib.hid (Nat.le_of_eq HG4.out.symm)
  rw [← hW2]
  clear hb1 ha2 hc2 hW2 K4 HB1 HZ2 C1 hi ho hz 
  go_upto_region 3 with fail
  refine wp_region ?_
  rw [show List.range _ = [0, 1, 2, 3] from rfl]
  refine seq_cons (op_val rfl rfl (w' := W2) (v := .agg #[.int .u8 0, .int .u8 0, .int .u8 0, .int .u8 0, .int .u8 0, .int .u8 0, .int .u8 0, .int .u8 0, .int .u8 0, .int .u8 0, .int .u8 0, .int .u8 0, .int .u8 0, .int .u8 0, .int .u8 0, .int .u8 0, .int .u8 0, .int .u8 0, .int .u8 0, .int .u8 0, .int .u8 0, .int .u8 0, .int .u8 0, .int .u8 0, .int .u8 0, .int .u8 0, .int .u8 0, .int .u8 0, .int .u8 0, .int .u8 0, .int .u8 0, .int .u8 0]) (by kernel_rfl) 32 rfl ?_)
  simp only [Act.put, List.setIfInBounds_toArray, List.set_cons_zero, List.set_cons_succ]
  refine seq_cons (op_assign rfl rfl (.tmp 7) (.inl rfl) (v := .int .i64 2) (by kernel_rfl) 33 rfl ?_)
  simp only [Act.put, List.setIfInBounds_toArray, List.set_cons_zero, List.set_cons_succ]
  refine seq_cons (op_store rfl rfl rfl 50 (.tmp 4) (.tmp 32) rfl g4 ([.int .u8 0, .int .u8 0, .int .u8 0, .int .u8 0, .int .u8 0, .int .u8 0, .int .u8 0, .int .u8 0, .int .u8 0, .int .u8 0, .int .u8 0, .int .u8 0, .int .u8 0, .int .u8 0, .int .u8 0, .int .u8 0, .int .u8 0, .int .u8 0, .int .u8 0, .int .u8 0, .int .u8 0, .int .u8 0, .int .u8 0, .int .u8 0, .int .u8 0, .int .u8 0, .int .u8 0, .int .u8 0, .int .u8 0, .int .u8 0, .int .u8 0, .int .u8 0] : List Value).toArray (by kernel_rfl) (by kernel_rfl) _ _ K4b.out (by kernel_rfl) rfl (by kernel_rfl) ?_)
  have F4 := Lib.hid (RowL.set K4b.out ([.int .u8 0, .int .u8 0, .int .u8 0, .int .u8 0, .int .u8 0, .int .u8 0, .int .u8 0, .int .u8 0, .int .u8 0, .int .u8 0, .int .u8 0, .int .u8 0, .int .u8 0, .int .u8 0, .int .u8 0, .int .u8 0, .int .u8 0, .int .u8 0, .int .u8 0, .int .u8 0, .int .u8 0, .int .u8 0, .int .u8 0, .int .u8 0, .int .u8 0, .int .u8 0, .int .u8 0, .int .u8 0, .int .u8 0, .int .u8 0, .int .u8 0, .int .u8 0]))
  have FB := Lib.hid (set_below HB2.out U_g4.out ([.int .u8 0, .int .u8 0, .int .u8 0, .int .u8 0, .int .u8 0, .int .u8 0, .int .u8 0, .int .u8 0, .int .u8 0, .int .u8 0, .int .u8 0, .int .u8 0, .int .u8 0, .int .u8 0, .int .u8 0, .int .u8 0, .int .u8 0, .int .u8 0, .int .u8 0, .int .u8 0, .int .u8 0, .int .u8 0, .int .u8 0, .int .u8 0, .int .u8 0, .int .u8 0, .int .u8 0, .int .u8 0, .int .u8 0, .int .u8 0, .int .u8 0, .int .u8 0] : List Value).toArray)
  generalize (W2).setRow g4 ([.int .u8 0, .int .u8 0, .int .u8 0, .int .u8 0, .int .u8 0, .int .u8 0, .int .u8 0, .int .u8 0, .int .u8 0, .int .u8 0, .int .u8 0, .int .u8 0, .int .u8 0, .int .u8 0, .int .u8 0, .int .u8 0, .int .u8 0, .int .u8 0, .int .u8 0, .int .u8 0, .int .u8 0, .int .u8 0, .int .u8 0, .int .u8 0, .int .u8 0, .int .u8 0, .int .u8 0, .int .u8 0, .int .u8 0, .int .u8 0, .int .u8 0, .int .u8 0] : List Value).toArray = W9 at *
  refine seq_cons (op_assign rfl rfl (.tmp 33) (.inr rfl) (v := .int .i64 2) (by kernel_rfl) 5 rfl ?_)
  simp only [Act.put, List.setIfInBounds_toArray, List.set_cons_zero, List.set_cons_succ]
  refine seq_end ?_
  go_wp2
  refine bodyPost_ret (results_cell_tmp rfl _ _ g4 50 ([.int .u8 0, .int .u8 0, .int .u8 0, .int .u8 0, .int .u8 0, .int .u8 0, .int .u8 0, .int .u8 0, .int .u8 0, .int .u8 0, .int .u8 0, .int .u8 0, .int .u8 0, .int .u8 0, .int .u8 0, .int .u8 0, .int .u8 0, .int .u8 0, .int .u8 0, .int .u8 0, .int .u8 0, .int .u8 0, .int .u8 0, .int .u8 0, .int .u8 0, .int .u8 0, .int .u8 0, .int .u8 0, .int .u8 0, .int .u8 0, .int .u8 0, .int .u8 0] : List Value).toArray (0, 0) _ (.int .i64 2) (by kernel_rfl) (by kernel_rfl) F4.out Try.underlying50 rfl (by kernel_rfl)) rfl ⟨rfl, FB.out⟩
set_option maxRecDepth 100000 in
set_option maxHeartbeats 4000000 in
theorem refmult_nou {k u : List UInt8} {vk vu : Value} {w : World} (hk : Bs w w.heap.size vk k) (hu : Bs w w.heap.size vu u) (hkl : k.length = 32) (hul : u.length ≠ 32) :
    Calls Try.prog 34 #[vk, vu] w fun e w' => e = .returned (.tuple #[.agg ((zs 32).map vb).toArray, .int .i64 2]) ∧ Below w.heap.size w w' := by
  obtain ⟨AU, cU, rfl⟩ := hu.shape
  obtain ⟨AK, cK, rfl⟩ := hk.shape
  obtain ⟨us, hus⟩ : ∃ us : Array Value, us = ((clampL k).map vb).toArray := ⟨_, rfl⟩
  obtain ⟨W1, hW1⟩ : ∃ W1, W1 = w.alloc (.cells #[.int .u8 0, .int .u8 0, .int .u8 0, .int .u8 0, .int .u8 0, .int .u8 0, .int .u8 0, .int .u8 0, .int .u8 0, .int .u8 0, .int .u8 0, .int .u8 0, .int .u8 0, .int .u8 0, .int .u8 0, .int .u8 0, .int .u8 0, .int .u8 0, .int .u8 0, .int .u8 0, .int .u8 0, .int .u8 0, .int .u8 0, .int .u8 0, .int .u8 0, .int .u8 0, .int .u8 0, .int .u8 0, .int .u8 0, .int .u8 0, .int .u8 0, .int .u8 0] 50) := ⟨_, rfl⟩
  have hb1 : Below w.heap.size w W1 := by rw [hW1]; exact (Below.refl _ _).alloc (Nat.le_refl _) _
  obtain ⟨g4, hg4⟩ : ∃ g4, g4 = w.heap.size := ⟨_, rfl⟩
  have k4 : RowL W1 g4 ((zs 32).map vb) 50 := by rw [hW1, hg4]; exact RowL.new w _ _
  have C1 : Hid (Calls Try.prog 32 #[.slice AK k.length cK] W1 fun e w' => e = .returned (.tuple #[.agg us, .int .i64 0]) ∧ Below W1.heap.size W1 w') := Lib.hid (by rw [hus]; exact refclamp_ok (bs_up hk hb1) hkl)
  have hi : Hid ((Try.prog.info? 50).map (·.size) = some us.size) := Lib.hid (by rw [hus]; simp only [List.size_toArray, List.length_map, clampL_len, hkl]; kernel_rfl)
  have ho : Hid (us.all (·.oneCell') = true) := Lib.hid (by rw [hus]; exact one_bytes _)
  have hz : Hid ((#[.int .u8 0, .int .u8 0, .int .u8 0, .int .u8 0, .int .u8 0, .int .u8 0, .int .u8 0, .int .u8 0, .int .u8 0, .int .u8 0, .int .u8 0, .int .u8 0, .int .u8 0, .int .u8 0, .int .u8 0, .int .u8 0, .int .u8 0, .int .u8 0, .int .u8 0, .int .u8 0, .int .u8 0, .int .u8 0, .int .u8 0, .int .u8 0, .int .u8 0, .int .u8 0, .int .u8 0, .int .u8 0, .int .u8 0, .int .u8 0, .int .u8 0, .int .u8 0] : Array Value).size = us.size) := Lib.hid (by rw [hus]; simp only [List.size_toArray, List.length_map, clampL_len, hkl]; rfl)
  have HU1 := Lib.hid (bs_up hu hb1)
  have HUL := Lib.hid hul
  have HB1 := Lib.hid hb1; have K4 := Lib.hid k4; have HW1 := Lib.hid hW1; have HG4 := Lib.hid hg4
  clear hk hu hkl hus hW1 hb1 k4 hg4 hul
  go_enter Try.func34, Try.ntmps34
  go_upto_region 1 with fail
  rw [show _ = W1 from HW1.out.symm, show _ = g4 from HG4.out.symm]
  clear HW1
  go_wp2_with fail
  with_reducible refine (C1.out).mono ?_
  rintro e1 v1 ⟨rfl, hb1⟩
  have hz2 := heap_alloc_new v1 (.cells #[.int .u8 0, .int .u8 0, .int .u8 0, .int .u8 0, .int .u8 0, .int .u8 0, .int .u8 0, .int .u8 0, .int .u8 0, .int .u8 0, .int .u8 0, .int .u8 0, .int .u8 0, .int .u8 0, .int .u8 0, .int .u8 0, .int .u8 0, .int .u8 0, .int .u8 0, .int .u8 0, .int .u8 0, .int .u8 0, .int .u8 0, .int .u8 0, .int .u8 0, .int .u8 0, .int .u8 0, .int .u8 0, .int .u8 0, .int .u8 0, .int .u8 0, .int .u8 0] 50)
  have HZ2 := Lib.hid hz2
  clear hz2
  go_upto_region 2 with (first | (with_reducible refine wpList_store_row rfl 50 (.tmp 6) (.tmp 28) rfl (v1.heap.size) us rfl rfl 50 _ HZ2.out hi.out hz.out ho.out ?_) | fail)
  rw [World.setRow_alloc_new]
  obtain ⟨W2, hW2⟩ : ∃ W2, W2 = v1.alloc (.cells us 50) := ⟨_, rfl⟩
  have ha2 : Below v1.heap.size v1 W2 := by rw [hW2]; exact (Below.refl _ _).alloc (Nat.le_refl _) _
  have hc2 : Below W1.heap.size W1 W2 := hb1.trans (ha2.mono hb1.size)
  have K4b := Lib.hid (K4.out.upS hc2)
  have HB2 := Lib.hid (HB1.out.trans (hc2.mono HB1.out.size))
  have U_g4 : Hid (w.heap.size ≤ g4) := Lib.hid (Nat.le_of_eq HG4.out.symm)
  have C2 := Lib.hid (rread_no (bs_up HU1.out hc2) HUL.out)
  rw [← hW2]
  clear hb1 ha2 hc2 hW2 K4 HB1 HZ2 C1 hi ho hz HU1
  go_wp2_with fail
  with_reducible refine (C2.out).mono ?_
  rintro e2 v2 ⟨rfl, hb2⟩
  go_upto_region 6 with fail
  obtain ⟨W3, hW3⟩ : ∃ W3, W3 = v2.alloc (.cells ([.int .u32 (dig (0) 0 : Int), .int .u32 (dig (0) 1 : Int), .int .u32 (dig (0) 2 : Int), .int .u32 (dig (0) 3 : Int), .int .u32 (dig (0) 4 : Int), .int .u32 (dig (0) 5 : Int), .int .u32 (dig (0) 6 : Int), .int .u32 (dig (0) 7 : Int)] : List Value).toArray 34) := ⟨_, rfl⟩
  have ha3 : Below v2.heap.size v2 W3 := by rw [hW3]; exact (Below.refl _ _).alloc (Nat.le_refl _) _
  have hc3 : Below W2.heap.size W2 W3 := hb2.trans (ha3.mono hb2.size)
  have R4 := Lib.hid (K4b.out.upS hc3)
  have HB3 := Lib.hid (HB2.out.trans (hc3.mono HB2.out.size))
  have HW3 := Lib.hid hW3
  clear hb2 ha3 hc3 hW3 K4b HB2 C2
  rw [show _ = W3 from HW3.out.symm]
  clear HW3
  refine wp_region ?_
  rw [show List.range _ = [0, 1, 2, 3] from rfl]
  refine seq_cons (op_val rfl rfl (w' := W3) (v := .agg #[.int .u8 0, .int .u8 0, .int .u8 0, .int .u8 0, .int .u8 0, .int .u8 0, .int .u8 0, .int .u8 0, .int .u8 0, .int .u8 0, .int .u8 0, .int .u8 0, .int .u8 0, .int .u8 0, .int .u8 0, .int .u8 0, .int .u8 0, .int .u8 0, .int .u8 0, .int .u8 0, .int .u8 0, .int .u8 0, .int .u8 0, .int .u8 0, .int .u8 0, .int .u8 0, .int .u8 0, .int .u8 0, .int .u8 0, .int .u8 0, .int .u8 0, .int .u8 0]) (by kernel_rfl) 41 rfl ?_)
  simp only [Act.put, List.setIfInBounds_toArray, List.set_cons_zero, List.set_cons_succ]
  refine seq_cons (op_assign rfl rfl (.tmp 7) (.inl rfl) (v := .int .i64 2) (by kernel_rfl) 42 rfl ?_)
  simp only [Act.put, List.setIfInBounds_toArray, List.set_cons_zero, List.set_cons_succ]
  refine seq_cons (op_store rfl rfl rfl 50 (.tmp 4) (.tmp 41) rfl g4 ([.int .u8 0, .int .u8 0, .int .u8 0, .int .u8 0, .int .u8 0, .int .u8 0, .int .u8 0, .int .u8 0, .int .u8 0, .int .u8 0, .int .u8 0, .int .u8 0, .int .u8 0, .int .u8 0, .int .u8 0, .int .u8 0, .int .u8 0, .int .u8 0, .int .u8 0, .int .u8 0, .int .u8 0, .int .u8 0, .int .u8 0, .int .u8 0, .int .u8 0, .int .u8 0, .int .u8 0, .int .u8 0, .int .u8 0, .int .u8 0, .int .u8 0, .int .u8 0] : List Value).toArray (by kernel_rfl) (by kernel_rfl) _ _ R4.out (by kernel_rfl) rfl (by kernel_rfl) ?_)
  have F4 := Lib.hid (RowL.set R4.out ([.int .u8 0, .int .u8 0, .int .u8 0, .int .u8 0, .int .u8 0, .int .u8 0, .int .u8 0, .int .u8 0, .int .u8 0, .int .u8 0, .int .u8 0, .int .u8 0, .int .u8 0, .int .u8 0, .int .u8 0, .int .u8 0, .int .u8 0, .int .u8 0, .int .u8 0, .int .u8 0, .int .u8 0, .int .u8 0, .int .u8 0, .int .u8 0, .int .u8 0, .int .u8 0, .int .u8 0, .int .u8 0, .int .u8 0, .int .u8 0, .int .u8 0, .int .u8 0]))
  have FB := Lib.hid (set_below HB3.out U_g4.out ([.int .u8 0, .int .u8 0, .int .u8 0, .int .u8 0, .int .u8 0, .int .u8 0, .int .u8 0, .int .u8 0, .int .u8 0, .int .u8 0, .int .u8 0, .int .u8 0, .int .u8 0, .int .u8 0, .int .u8 0, .int .u8 0, .int .u8 0, .int .u8 0, .int .u8 0, .int .u8 0, .int .u8 0, .int .u8 0, .int .u8 0, .int .u8 0, .int .u8 0, .int .u8 0, .int .u8 0, .int .u8 0, .int .u8 0, .int .u8 0, .int .u8 0, .int .u8 0] : List Value).toArray)
  generalize (W3).setRow g4 ([.int .u8 0, .int .u8 0, .int .u8 0, .int .u8 0, .int .u8 0, .int .u8 0, .int .u8 0, .int .u8 0, .int .u8 0, .int .u8 0, .int .u8 0, .int .u8 0, .int .u8 0, .int .u8 0, .int .u8 0, .int .u8 0, .int .u8 0, .int .u8 0, .int .u8 0, .int .u8 0, .int .u8 0, .int .u8 0, .int .u8 0, .int .u8 0, .int .u8 0, .int .u8 0, .int .u8 0, .int .u8 0, .int .u8 0, .int .u8 0, .int .u8 0, .int .u8 0] : List Value).toArray = W9 at *
  refine seq_cons (op_assign rfl rfl (.tmp 42) (.inr rfl) (v := .int .i64 2) (by kernel_rfl) 5 rfl ?_)
  simp only [Act.put, List.setIfInBounds_toArray, List.set_cons_zero, List.set_cons_succ]
  refine seq_end ?_
  go_wp2
  refine bodyPost_ret (results_cell_tmp rfl _ _ g4 50 ([.int .u8 0, .int .u8 0, .int .u8 0, .int .u8 0, .int .u8 0, .int .u8 0, .int .u8 0, .int .u8 0, .int .u8 0, .int .u8 0, .int .u8 0, .int .u8 0, .int .u8 0, .int .u8 0, .int .u8 0, .int .u8 0, .int .u8 0, .int .u8 0, .int .u8 0, .int .u8 0, .int .u8 0, .int .u8 0, .int .u8 0, .int .u8 0, .int .u8 0, .int .u8 0, .int .u8 0, .int .u8 0, .int .u8 0, .int .u8 0, .int .u8 0, .int .u8 0] : List Value).toArray (0, 0) _ (.int .i64 2) (by kernel_rfl) (by kernel_rfl) F4.out Try.underlying50 rfl (by kernel_rfl)) rfl ⟨rfl, FB.out⟩
/-- what a multiplication answers, whatever it gets -/
def mulL (k u : List UInt8) : List UInt8 := if k.length = 32 ∧ u.length = 32 then multL k u else zs 32
def mulC (k u : List UInt8) : Int := if k.length = 32 ∧ u.length = 32 then multC k u else 2
theorem mulL_len (k u : List UInt8) : (mulL k u).length = 32 := by
  unfold mulL multL
  split
  · split
    · simp [zs]
    · exact leBytes_len _ _
  · simp [zs]
theorem mult_any {k u : List UInt8} {vk vu : Value} {w : World} (hk : Bs w w.heap.size vk k) (hu : Bs w w.heap.size vu u) :
    Calls Try.prog 33 #[vk, vu] w fun e w' => e = .returned (.tuple #[.agg ((mulL k u).map vb).toArray, .int .i64 (mulC k u)]) ∧ Below w.heap.size w w' := by
  unfold mulL mulC
  by_cases h : k.length = 32 ∧ u.length = 32
  · rw [if_pos h, if_pos h]; exact mult_ok hk hu h.1 h.2
  · rw [if_neg h, if_neg h]
    by_cases h1 : k.length = 32
    · exact mult_nou hk hu h1 (fun e => h ⟨h1, e⟩)
    · exact mult_nok hk hu h1
theorem refmult_any {k u : List UInt8} {vk vu : Value} {w : World} (hk : Bs w w.heap.size vk k) (hu : Bs w w.heap.size vu u) :
    Calls Try.prog 34 #[vk, vu] w fun e w' => e = .returned (.tuple #[.agg ((mulL k u).map vb).toArray, .int .i64 (mulC k u)]) ∧ Below w.heap.size w w' := by
  unfold mulL mulC
  by_cases h : k.length = 32 ∧ u.length = 32
  · rw [if_pos h, if_pos h]; exact refmult_ok hk hu h.1 h.2
  · rw [if_neg h, if_neg h]
    by_cases h1 : k.length = 32
    · exact refmult_nou hk hu h1 (fun e => h ⟨h1, e⟩)
    · exact refmult_nok hk hu h1
end Go.Proofs.Ytgkglielcbgpiaa
