/- FieldLaws, walked. -/
import Derived.Test.YtgkglielcbgpiaaFL2
namespace Go.Proofs.Ytgkglielcbgpiaa
open Go.RowKit

theorem bs_up {w w' : World} {v : Value} {l : List UInt8} (h : Bs w w.heap.size v l) (hb : Below w.heap.size w w') : Bs w' w'.heap.size v l := (h.below hb (Nat.le_refl _)).more hb.size
theorem RowL.far_cell {w : World} {g : Nat} {cs : List Value} {T : TypeId} (h : RowL w g cs T) {k : Nat} (hn : g ≠ k) (j : Nat) (v : Value) : RowL (w.setCell ⟨k, j, none⟩ v) g cs T := (Below.heap_setCell w ⟨k, j, none⟩ v g hn).trans h
def ffs (k : Nat) : List UInt8 := List.replicate k 255 ++ zs (32 - k)
theorem ffs_len (k : Nat) (hk : k ≤ 32) : (ffs k).length = 32 := by simp [ffs, zs]; omega
theorem ffs_set (k : Nat) (hk : k < 32) : (ffs k).set k 255 = ffs (k + 1) := by
  unfold ffs
  rw [List.set_append_right (h := by simp), List.length_replicate, Nat.sub_self, show 32 - k = (32 - (k + 1)) + 1 by omega]
  have e : zs (32 - (k + 1) + 1) = 0 :: zs (32 - (k + 1)) := rfl
  rw [e, List.set_cons_zero, List.replicate_succ', List.append_assoc]
  rfl
theorem ffs_end : ((ffs 32).set 0 236).set 31 127 = eFer := by decide
theorem mk32 (W : World) : (Instr.makeSlice 47 (.int .i64 32) (.int .i64 32)).run Try.prog W = .ok (.slice (some ⟨W.heap.size, 0, none⟩) 32 32) (W.alloc (.cells (madeCells #[Value.int .u8 0] 32) 5)) :=
  run_make_row' (P := Try.prog) 47 5 (.int .u8 0) 1 Try.underlying47 u8info rfl .i64 .i64 32 (by omega) (by omega) W
theorem bw32 (W : World) : Bw (W.alloc (.cells (madeCells #[Value.int .u8 0] 32) 5)) W.heap.size 5 (ffs 0) := by
  unfold Bw
  rw [heap_alloc_new W _, show madeCells #[Value.int .u8 0] 32 = ((ffs 0).map vb).toArray by kernel_rfl]
theorem listf6 (l : List Value) (h : l.length = 6) : ∃ v0 v1 v2 v3 v4 v5, l = [v0, v1, v2, v3, v4, v5] := by
  match l, h with
  | v0 :: v1 :: v2 :: v3 :: v4 :: v5 :: [], _ => exact ⟨_, _, _, _, _, _, rfl⟩
theorem listf15 (l : List Value) (h : l.length = 15) : ∃ v0 v1 v2 v3 v4 v5 v6 v7 v8 v9 v10 v11 v12 v13 v14, l = [v0, v1, v2, v3, v4, v5, v6, v7, v8, v9, v10, v11, v12, v13, v14] := by
  match l, h with
  | v0 :: v1 :: v2 :: v3 :: v4 :: v5 :: v6 :: v7 :: v8 :: v9 :: v10 :: v11 :: v12 :: v13 :: v14 :: [], _ => exact ⟨_, _, _, _, _, _, _, _, _, _, _, _, _, _, _, rfl⟩
theorem listf21 (l : List Value) (h : l.length = 21) : ∃ v0 v1 v2 v3 v4 v5 v6 v7 v8 v9 v10 v11 v12 v13 v14 v15 v16 v17 v18 v19 v20, l = [v0, v1, v2, v3, v4, v5, v6, v7, v8, v9, v10, v11, v12, v13, v14, v15, v16, v17, v18, v19, v20] := by
  match l, h with
  | v0 :: v1 :: v2 :: v3 :: v4 :: v5 :: v6 :: v7 :: v8 :: v9 :: v10 :: v11 :: v12 :: v13 :: v14 :: v15 :: v16 :: v17 :: v18 :: v19 :: v20 :: [], _ => exact ⟨_, _, _, _, _, _, _, _, _, _, _, _, _, _, _, _, _, _, _, _, _, rfl⟩
theorem listf40 (l : List Value) (h : l.length = 40) : ∃ v0 v1 v2 v3 v4 v5 v6 v7 v8 v9 v10 v11 v12 v13 v14 v15 v16 v17 v18 v19 v20 v21 v22 v23 v24 v25 v26 v27 v28 v29 v30 v31 v32 v33 v34 v35 v36 v37 v38 v39, l = [v0, v1, v2, v3, v4, v5, v6, v7, v8, v9, v10, v11, v12, v13, v14, v15, v16, v17, v18, v19, v20, v21, v22, v23, v24, v25, v26, v27, v28, v29, v30, v31, v32, v33, v34, v35, v36, v37, v38, v39] := by
  match l, h with
  | v0 :: v1 :: v2 :: v3 :: v4 :: v5 :: v6 :: v7 :: v8 :: v9 :: v10 :: v11 :: v12 :: v13 :: v14 :: v15 :: v16 :: v17 :: v18 :: v19 :: v20 :: v21 :: v22 :: v23 :: v24 :: v25 :: v26 :: v27 :: v28 :: v29 :: v30 :: v31 :: v32 :: v33 :: v34 :: v35 :: v36 :: v37 :: v38 :: v39 :: [], _ => exact ⟨_, _, _, _, _, _, _, _, _, _, _, _, _, _, _, _, _, _, _, _, _, _, _, _, _, _, _, _, _, _, _, _, _, _, _, _, _, _, _, _, rfl⟩
theorem listf50 (l : List Value) (h : l.length = 50) : ∃ v0 v1 v2 v3 v4 v5 v6 v7 v8 v9 v10 v11 v12 v13 v14 v15 v16 v17 v18 v19 v20 v21 v22 v23 v24 v25 v26 v27 v28 v29 v30 v31 v32 v33 v34 v35 v36 v37 v38 v39 v40 v41 v42 v43 v44 v45 v46 v47 v48 v49, l = [v0, v1, v2, v3, v4, v5, v6, v7, v8, v9, v10, v11, v12, v13, v14, v15, v16, v17, v18, v19, v20, v21, v22, v23, v24, v25, v26, v27, v28, v29, v30, v31, v32, v33, v34, v35, v36, v37, v38, v39, v40, v41, v42, v43, v44, v45, v46, v47, v48, v49] := by
  match l, h with
  | v0 :: v1 :: v2 :: v3 :: v4 :: v5 :: v6 :: v7 :: v8 :: v9 :: v10 :: v11 :: v12 :: v13 :: v14 :: v15 :: v16 :: v17 :: v18 :: v19 :: v20 :: v21 :: v22 :: v23 :: v24 :: v25 :: v26 :: v27 :: v28 :: v29 :: v30 :: v31 :: v32 :: v33 :: v34 :: v35 :: v36 :: v37 :: v38 :: v39 :: v40 :: v41 :: v42 :: v43 :: v44 :: v45 :: v46 :: v47 :: v48 :: v49 :: [], _ => exact ⟨_, _, _, _, _, _, _, _, _, _, _, _, _, _, _, _, _, _, _, _, _, _, _, _, _, _, _, _, _, _, _, _, _, _, _, _, _, _, _, _, _, _, _, _, _, _, _, _, _, _, rfl⟩

set_option maxRecDepth 100000 in
set_option maxHeartbeats 4000000 in
theorem fieldlaws_walk {x y z : Nat} (hx : x < W4) (hy : y < W4) (hz : z < W4) (w : World) : Calls Try.prog 4 #[.agg #[.int .u64 (l0 (x) : Int), .int .u64 (l1 (x) : Int), .int .u64 (l2 (x) : Int), .int .u64 (l3 (x) : Int)], .agg #[.int .u64 (l0 (y) : Int), .int .u64 (l1 (y) : Int), .int .u64 (l2 (y) : Int), .int .u64 (l3 (y) : Int)], .agg #[.int .u64 (l0 (z) : Int), .int .u64 (l1 (z) : Int), .int .u64 (l2 (z) : Int), .int .u64 (l3 (z) : Int)]] w fun e w' => e = .returned (.bool true) ∧ Below w.heap.size w w' := by
  obtain ⟨S1, qS1⟩ : ∃ S1, S1 = sumP [x, y] := ⟨_, rfl⟩
  obtain ⟨P1, qP1⟩ : ∃ P1, P1 = prodP [x, y] := ⟨_, rfl⟩
  obtain ⟨S3, qS3⟩ : ∃ S3, S3 = sumP [S1, z] := ⟨_, rfl⟩
  obtain ⟨P3, qP3⟩ : ∃ P3, P3 = prodP [P1, z] := ⟨_, rfl⟩
  obtain ⟨S2, qS2⟩ : ∃ S2, S2 = sumP [y, z] := ⟨_, rfl⟩
  obtain ⟨D, qD⟩ : ∃ D, D = prodP [x, S2] := ⟨_, rfl⟩
  obtain ⟨P2, qP2⟩ : ∃ P2, P2 = prodP [x, z] := ⟨_, rfl⟩
  obtain ⟨N, qN⟩ : ∃ N, N = x % PP := ⟨_, rfl⟩
  obtain ⟨B1, qB1⟩ : ∃ B1, B1 = subN x y := ⟨_, rfl⟩
  obtain ⟨Q, qQ⟩ : ∃ Q, Q = x * x % PP := ⟨_, rfl⟩
  obtain ⟨J, qJ⟩ : ∃ J, J = invP x := ⟨_, rfl⟩
  obtain ⟨O1, qO1⟩ : ∃ O1, O1 = 1 := ⟨_, rfl⟩
  have ZS1 : Hid (S1 < W4) := Lib.hid (by rw [qS1]; exact sumP_lt4 _)
  have ZP1 : Hid (P1 < W4) := Lib.hid (by rw [qP1]; exact prodP_lt4 _)
  have ZS3 : Hid (S3 < W4) := Lib.hid (by rw [qS3]; exact sumP_lt4 _)
  have ZP3 : Hid (P3 < W4) := Lib.hid (by rw [qP3]; exact prodP_lt4 _)
  have ZS2 : Hid (S2 < W4) := Lib.hid (by rw [qS2]; exact sumP_lt4 _)
  have ZD : Hid (D < W4) := Lib.hid (by rw [qD]; exact prodP_lt4 _)
  have ZP2 : Hid (P2 < W4) := Lib.hid (by rw [qP2]; exact prodP_lt4 _)
  have ZN : Hid (N < W4) := Lib.hid (by rw [qN]; exact mod_lt4 _)
  have ZB1 : Hid (B1 < W4) := Lib.hid (by rw [qB1]; exact subN_lt _ _)
  have ZQ : Hid (Q < W4) := Lib.hid (by rw [qQ]; exact mod_lt4 _)
  have ZJ : Hid (J < W4) := Lib.hid (by rw [qJ]; exact invP_lt _)
  have ZO1 : Hid (O1 < W4) := Lib.hid (by rw [qO1]; exact by decide)
  have E21 : Hid (S1 = sumP [x, y]) := Lib.hid (qS1)
  have E25 : Hid (S1 = sumP [y, x]) := Lib.hid (qS1.trans (fl_sumc x y))
  have E31 : Hid (P1 = prodP [x, y]) := Lib.hid (qP1)
  have E35 : Hid (P1 = prodP [y, x]) := Lib.hid (qP1.trans (fl_prodc x y))
  have E42 : Hid (S1 = sumP [x, y]) := Lib.hid (qS1)
  have E45 : Hid (S3 = sumP [S1, z]) := Lib.hid (qS3)
  have E50 : Hid (S3 = sumP [x, y, z]) := Lib.hid (by rw [qS3, qS1]; exact fl_sum3 x y z)
  have E57 : Hid (P1 = prodP [x, y]) := Lib.hid (qP1)
  have E60 : Hid (P3 = prodP [P1, z]) := Lib.hid (qP3)
  have E65 : Hid (P3 = prodP [x, y, z]) := Lib.hid (by rw [qP3, qP1]; exact fl_prod3 x y z)
  have E72 : Hid (S2 = sumP [y, z]) := Lib.hid (qS2)
  have E74 : Hid (D = prodP [x, S2]) := Lib.hid (qD)
  have E78 : Hid (P1 = prodP [x, y]) := Lib.hid (qP1)
  have E82 : Hid (P2 = prodP [x, z]) := Lib.hid (qP2)
  have E84 : Hid (D = sumP [P1, P2]) := Lib.hid (by rw [qD, qS2, qP1, qP2]; exact fl_dist x y z)
  have E90 : Hid (S1 = sumP [x, y]) := Lib.hid (qS1)
  have E92 : Hid (N = subN S1 y) := Lib.hid (by rw [qN, qS1]; exact (fl_addsub x y).symm)
  have E94 : Hid (N = x % PP) := Lib.hid (qN)
  have E100 : Hid (B1 = subN x y) := Lib.hid (qB1)
  have E103 : Hid (N = sumP [B1, y]) := Lib.hid (by rw [qN, qB1]; exact (fl_subadd x y).symm)
  have E105 : Hid (N = x % PP) := Lib.hid (qN)
  have E109 : Hid (Q = x * x % PP) := Lib.hid (qQ)
  have E113 : Hid (Q = prodP [x, x]) := Lib.hid (by rw [qQ]; exact fl_sq x)
  have E117 : Hid (N = x % PP) := Lib.hid (qN)
  have E118 : Hid (N = N % PP) := Lib.hid (by rw [qN, Nat.mod_mod])
  have E120 : Hid (N = x % PP) := Lib.hid (qN)
  have E124 : Hid (J = invP x) := Lib.hid (qJ)
  have QN := Lib.hid qN; have QJ := Lib.hid qJ; have QO1 := Lib.hid qO1
  have Zx := Lib.hid hx; have Zy := Lib.hid hy; have Zz := Lib.hid hz
  have CA := Lib.hid (fun W => awakeE W)
  clear qS1 qP1 qS3 qP3 qS2 qD qP2 qN qB1 qQ qJ qO1 hx hy hz
  obtain ⟨V0, hV0⟩ : ∃ V0, V0 = ((w.alloc (.cells ([.int .u64 (l0 (x) : Int), .int .u64 (l1 (x) : Int), .int .u64 (l2 (x) : Int), .int .u64 (l3 (x) : Int)] : List Value).toArray 35)).alloc (.cells ([.int .u64 (l0 (y) : Int), .int .u64 (l1 (y) : Int), .int .u64 (l2 (y) : Int), .int .u64 (l3 (y) : Int)] : List Value).toArray 35)).alloc (.cells ([.int .u64 (l0 (z) : Int), .int .u64 (l1 (z) : Int), .int .u64 (l2 (z) : Int), .int .u64 (l3 (z) : Int)] : List Value).toArray 35) := ⟨_, rfl⟩
  have hb0 : Below w.heap.size w V0 := by rw [hV0]; exact (((Below.refl _ _).alloc (Nat.le_refl _) _).alloc (by simp) _).alloc (by simp; omega) _
  have k0 : RowL V0 w.heap.size [.int .u64 (l0 (x) : Int), .int .u64 (l1 (x) : Int), .int .u64 (l2 (x) : Int), .int .u64 (l3 (x) : Int)] 35 := by rw [hV0]; exact ((RowL.new w _ _).alloc _).alloc _
  have k1 : RowL V0 (w.heap.size + 1) [.int .u64 (l0 (y) : Int), .int .u64 (l1 (y) : Int), .int .u64 (l2 (y) : Int), .int .u64 (l3 (y) : Int)] 35 := by rw [hV0]; have h := (RowL.new (w.alloc (.cells ([.int .u64 (l0 (x) : Int), .int .u64 (l1 (x) : Int), .int .u64 (l2 (x) : Int), .int .u64 (l3 (x) : Int)] : List Value).toArray 35)) [.int .u64 (l0 (y) : Int), .int .u64 (l1 (y) : Int), .int .u64 (l2 (y) : Int), .int .u64 (l3 (y) : Int)] 35).alloc (.cells ([.int .u64 (l0 (z) : Int), .int .u64 (l1 (z) : Int), .int .u64 (l2 (z) : Int), .int .u64 (l3 (z) : Int)] : List Value).toArray 35); simpa using h
  have k2 : RowL V0 (w.heap.size + 1 + 1) [.int .u64 (l0 (z) : Int), .int .u64 (l1 (z) : Int), .int .u64 (l2 (z) : Int), .int .u64 (l3 (z) : Int)] 35 := by rw [hV0]; have h := RowL.new ((w.alloc (.cells ([.int .u64 (l0 (x) : Int), .int .u64 (l1 (x) : Int), .int .u64 (l2 (x) : Int), .int .u64 (l3 (x) : Int)] : List Value).toArray 35)).alloc (.cells ([.int .u64 (l0 (y) : Int), .int .u64 (l1 (y) : Int), .int .u64 (l2 (y) : Int), .int .u64 (l3 (y) : Int)] : List Value).toArray 35)) [.int .u64 (l0 (z) : Int), .int .u64 (l1 (z) : Int), .int .u64 (l2 (z) : Int), .int .u64 (l3 (z) : Int)] 35; simpa using h
  have HB := Lib.hid hb0; have K0 := Lib.hid k0; have K1 := Lib.hid k1; have K2 := Lib.hid k2; have HV0 := Lib.hid hV0
  clear hb0 k0 k1 k2 hV0
  go_enter Try.func4, Try.ntmps4
  go_upto_region 1 with fail
  rw [show _ = V0 from HV0.out.symm]
  clear HV0
  go_wp2_with fail
  with_reducible refine ((CA.out) _).mono ?_
  rintro e1 W1 ⟨rfl, hb1⟩
  have R0 := Lib.hid (K0.out.upS hb1); have R1 := Lib.hid (K1.out.upS hb1); have R2 := Lib.hid (K2.out.upS hb1); have HB1 := Lib.hid (HB.out.trans (hb1.mono HB.out.size))
  clear hb1 K0 K1 K2 HB CA
  go_upto_region 3 with fail
  refine wp_region_held_drew (S := fun w' => RowL w' (w.heap.size) ([.int .u64 (l0 (x) : Int), .int .u64 (l1 (x) : Int), .int .u64 (l2 (x) : Int), .int .u64 (l3 (x) : Int)]) 35 ∧ RowL w' ((w.heap.size + 1)) ([.int .u64 (l0 (y) : Int), .int .u64 (l1 (y) : Int), .int .u64 (l2 (y) : Int), .int .u64 (l3 (y) : Int)]) 35 ∧ RowL w' ((w.heap.size + 1 + 1)) ([.int .u64 (l0 (z) : Int), .int .u64 (l1 (z) : Int), .int .u64 (l2 (z) : Int), .int .u64 (l3 (z) : Int)]) 35) (by kernel_rfl) ⟨R0.out, R1.out, R2.out⟩ (fun hHeld => ?_)
  refine takeD (i := 0) (oi := _) (d := some 15) (v := _) rfl (by kernel_rfl) (by kernel_rfl) (by kernel_rfl) (by kernel_rfl) (fun _ _ _ h => h) (yieldsIf_load_mid (by kernel_rfl) 35 (.tmp 3) rfl (w.heap.size) 0 (by kernel_rfl) ([.int .u64 (l0 (x) : Int), .int .u64 (l1 (x) : Int), .int .u64 (l2 (x) : Int), .int .u64 (l3 (x) : Int)]) _ (fun w' h => (h.1).range 0 _ rfl) undFo rfl (by kernel_rfl)) (by assumption) ?_
  refine takeD (i := 1) (oi := _) (d := some 16) (v := _) rfl (by kernel_rfl) (by kernel_rfl) (by kernel_rfl) (by kernel_rfl) (fun _ _ _ h => h) (yieldsIf_load_mid (by kernel_rfl) 35 (.tmp 4) rfl ((w.heap.size + 1)) 0 (by kernel_rfl) ([.int .u64 (l0 (y) : Int), .int .u64 (l1 (y) : Int), .int .u64 (l2 (y) : Int), .int .u64 (l3 (y) : Int)]) _ (fun w' h => (h.2.1).range 0 _ rfl) undFo rfl (by kernel_rfl)) (by assumption) ?_
  refine takeD (i := 2) (oi := _) (d := some 17) (v := _) rfl (by kernel_rfl) (by kernel_rfl) (by kernel_rfl) (by kernel_rfl) (fun _ _ _ h => h) (yieldsIf_load_mid (by kernel_rfl) 35 (.tmp 5) rfl ((w.heap.size + 1 + 1)) 0 (by kernel_rfl) ([.int .u64 (l0 (z) : Int), .int .u64 (l1 (z) : Int), .int .u64 (l2 (z) : Int), .int .u64 (l3 (z) : Int)]) _ (fun w' h => (h.2.2).range 0 _ rfl) undFo rfl (by kernel_rfl)) (by assumption) ?_
  simp only [Act.put, List.setIfInBounds_toArray, List.set_cons_zero, List.set_cons_succ]
  refine wpAnyH_pre (fun w w' h hb => ⟨(h.1).upS hb, (h.2.1).upS hb, (h.2.2).upS hb⟩) 3 6 [15, 16, 17, 7, 8, 9] (phi [IsV (.agg #[.int .u64 (l0 (x) : Int), .int .u64 (l1 (x) : Int), .int .u64 (l2 (x) : Int), .int .u64 (l3 (x) : Int)]), IsV (.agg #[.int .u64 (l0 (y) : Int), .int .u64 (l1 (y) : Int), .int .u64 (l2 (y) : Int), .int .u64 (l3 (y) : Int)]), IsV (.agg #[.int .u64 (l0 (z) : Int), .int .u64 (l1 (z) : Int), .int .u64 (l2 (z) : Int), .int .u64 (l3 (z) : Int)]), IsR W1.drew.heap.size ([.int .u64 0, .int .u64 0, .int .u64 0, .int .u64 0]) 26, IsR W1.drew.heap.size ([.int .u64 0, .int .u64 0, .int .u64 0, .int .u64 0]) 26, IsR W1.drew.heap.size ([.int .u64 0, .int .u64 0, .int .u64 0, .int .u64 0]) 26]) [3, 4, 5] rfl (by kernel_rfl) hHeld rfl rfl rfl (by kernel_rfl) rfl (by kernel_rfl) (by kernel_rfl) (phi_mono (by repeat (first | exact mono_v _ | exact mono_r _ _ _ | exact mono_s _ _ _ | exact trivial | refine ⟨?_, ?_⟩))) ?_ ?_ ?_
  · intro i d hi hd
    rcases (show i = 0 ∨ i = 1 ∨ i = 2 by omega) with rfl | rfl | rfl
    · obtain rfl : 15 = d := by simpa using hd
      exact ⟨_, rfl, rfl⟩
    · obtain rfl : 16 = d := by simpa using hd
      exact ⟨_, rfl, rfl⟩
    · obtain rfl : 17 = d := by simpa using hd
      exact ⟨_, rfl, rfl⟩
  · intro i hi
    rcases (show i = 0 ∨ i = 1 ∨ i = 2 ∨ i = 3 ∨ i = 4 ∨ i = 5 by omega) with rfl | rfl | rfl | rfl | rfl | rfl
    · intro ac W hB hst hdep
      have e3 : ac.tmps[3]? = some (.pointer (some ⟨w.heap.size, 0, none⟩)) := hst 3 (by decide)
      exact st_load rfl (wanted_no rfl) 35 (.tmp 3) rfl (eval_of e3) ([.int .u64 (l0 (x) : Int), .int .u64 (l1 (x) : Int), .int .u64 (l2 (x) : Int), .int .u64 (l3 (x) : Int)]) _ ((RowL.upS (w := W1.drew) R0.out hB).range 0 _ rfl) undFo rfl (by kernel_rfl) rfl (notE rfl)
    · intro ac W hB hst hdep
      have e4 : ac.tmps[4]? = some (.pointer (some ⟨(w.heap.size + 1), 0, none⟩)) := hst 4 (by decide)
      exact st_load rfl (wanted_no rfl) 35 (.tmp 4) rfl (eval_of e4) ([.int .u64 (l0 (y) : Int), .int .u64 (l1 (y) : Int), .int .u64 (l2 (y) : Int), .int .u64 (l3 (y) : Int)]) _ ((RowL.upS (w := W1.drew) R1.out hB).range 0 _ rfl) undFo rfl (by kernel_rfl) rfl (notE rfl)
    · intro ac W hB hst hdep
      have e5 : ac.tmps[5]? = some (.pointer (some ⟨(w.heap.size + 1 + 1), 0, none⟩)) := hst 5 (by decide)
      exact st_load rfl (wanted_no rfl) 35 (.tmp 5) rfl (eval_of e5) ([.int .u64 (l0 (z) : Int), .int .u64 (l1 (z) : Int), .int .u64 (l2 (z) : Int), .int .u64 (l3 (z) : Int)]) _ ((RowL.upS (w := W1.drew) R2.out hB).range 0 _ rfl) undFo rfl (by kernel_rfl) rfl (notE rfl)
    · intro ac W hB hst hdep
      exact st_alloc rfl (wanted_no rfl) 26 rfl allocEl ⟨_, rfl, hB.size, heap_alloc_new _ _⟩
    · intro ac W hB hst hdep
      exact st_alloc rfl (wanted_no rfl) 26 rfl allocEl ⟨_, rfl, hB.size, heap_alloc_new _ _⟩
    · intro ac W hB hst hdep
      exact st_alloc rfl (wanted_no rfl) 26 rfl allocEl ⟨_, rfl, hB.size, heap_alloc_new _ _⟩
  intro vs hvs wn hbr0 hv hne hSn
  have hbr : Below W1.heap.size W1 wn := ⟨hbr0.os, hbr0.tape, hbr0.output, hbr0.size, hbr0.block⟩
  obtain ⟨v15, v16, v17, v7, v8, v9, rfl⟩ := listf6 vs hvs
  obtain rfl : v15 = .agg #[.int .u64 (l0 (x) : Int), .int .u64 (l1 (x) : Int), .int .u64 (l2 (x) : Int), .int .u64 (l3 (x) : Int)] := hv 0 _ rfl
  obtain rfl : v16 = .agg #[.int .u64 (l0 (y) : Int), .int .u64 (l1 (y) : Int), .int .u64 (l2 (y) : Int), .int .u64 (l3 (y) : Int)] := hv 1 _ rfl
  obtain rfl : v17 = .agg #[.int .u64 (l0 (z) : Int), .int .u64 (l1 (z) : Int), .int .u64 (l2 (z) : Int), .int .u64 (l3 (z) : Int)] := hv 2 _ rfl
  obtain ⟨g7, hg7, hB7, hr7⟩ : IsR W1.heap.size ([.int .u64 0, .int .u64 0, .int .u64 0, .int .u64 0]) 26 v7 wn := hv 3 _ rfl
  obtain ⟨g8, hg8, hB8, hr8⟩ : IsR W1.heap.size ([.int .u64 0, .int .u64 0, .int .u64 0, .int .u64 0]) 26 v8 wn := hv 4 _ rfl
  obtain ⟨g9, hg9, hB9, hr9⟩ : IsR W1.heap.size ([.int .u64 0, .int .u64 0, .int .u64 0, .int .u64 0]) 26 v9 wn := hv 5 _ rfl
  have ne7_8 : g7 ≠ g8 := fun e => hne 3 (memE rfl) 4 (memE rfl) (by decide) (by subst hg7; subst hg8; subst e; rfl)
  have ne7_9 : g7 ≠ g9 := fun e => hne 3 (memE rfl) 5 (memE rfl) (by decide) (by subst hg7; subst hg9; subst e; rfl)
  have ne8_9 : g8 ≠ g9 := fun e => hne 4 (memE rfl) 5 (memE rfl) (by decide) (by subst hg8; subst hg9; subst e; rfl)
  subst hg7
  subst hg8
  subst hg9
  clear hvs hv hne
  simp only [List.zip_cons_cons, List.zip_nil_right, List.zip_nil_left, puts, Act.put, List.setIfInBounds_toArray, List.set_cons_zero, List.set_cons_succ]
  have hz : W1.heap.size ≤ wn.heap.size := hbr.size
  have nB_W3 := Lib.hid (HB1.out.trans (hbr.mono HB1.out.size))
  refine tail_storeH (k := 6) (by kernel_rfl) rfl rfl rfl 26 (.tmp 7) (.tmp 15) rfl g7 ([.int .u64 (l0 (x) : Int), .int .u64 (l1 (x) : Int), .int .u64 (l2 (x) : Int), .int .u64 (l3 (x) : Int)] : List Value).toArray (by kernel_rfl) (by kernel_rfl) _ _ hr7 (by kernel_rfl) rfl (by kernel_rfl) ⟨RowL.set_ne (hSn.1) ([.int .u64 (l0 (x) : Int), .int .u64 (l1 (x) : Int), .int .u64 (l2 (x) : Int), .int .u64 (l3 (x) : Int)] : List Value).toArray (Nat.ne_of_lt (Nat.lt_of_lt_of_le R0.out.lt hB7)), RowL.set_ne (hSn.2.1) ([.int .u64 (l0 (x) : Int), .int .u64 (l1 (x) : Int), .int .u64 (l2 (x) : Int), .int .u64 (l3 (x) : Int)] : List Value).toArray (Nat.ne_of_lt (Nat.lt_of_lt_of_le R1.out.lt hB7)), RowL.set_ne (hSn.2.2) ([.int .u64 (l0 (x) : Int), .int .u64 (l1 (x) : Int), .int .u64 (l2 (x) : Int), .int .u64 (l3 (x) : Int)] : List Value).toArray (Nat.ne_of_lt (Nat.lt_of_lt_of_le R2.out.lt hB7))⟩ ?_
  replace hSn :=  (And.intro (RowL.set_ne (hSn.1) ([.int .u64 (l0 (x) : Int), .int .u64 (l1 (x) : Int), .int .u64 (l2 (x) : Int), .int .u64 (l3 (x) : Int)] : List Value).toArray (Nat.ne_of_lt (Nat.lt_of_lt_of_le R0.out.lt hB7))) (And.intro (RowL.set_ne (hSn.2.1) ([.int .u64 (l0 (x) : Int), .int .u64 (l1 (x) : Int), .int .u64 (l2 (x) : Int), .int .u64 (l3 (x) : Int)] : List Value).toArray (Nat.ne_of_lt (Nat.lt_of_lt_of_le R1.out.lt hB7))) (RowL.set_ne (hSn.2.2) ([.int .u64 (l0 (x) : Int), .int .u64 (l1 (x) : Int), .int .u64 (l2 (x) : Int), .int .u64 (l3 (x) : Int)] : List Value).toArray (Nat.ne_of_lt (Nat.lt_of_lt_of_le R2.out.lt hB7)))))
  replace hr7 := hr7.set ([.int .u64 (l0 (x) : Int), .int .u64 (l1 (x) : Int), .int .u64 (l2 (x) : Int), .int .u64 (l3 (x) : Int)])
  replace hr8 := hr8.set_ne ([.int .u64 (l0 (x) : Int), .int .u64 (l1 (x) : Int), .int .u64 (l2 (x) : Int), .int .u64 (l3 (x) : Int)] : List Value).toArray ne7_8.symm
  replace hr9 := hr9.set_ne ([.int .u64 (l0 (x) : Int), .int .u64 (l1 (x) : Int), .int .u64 (l2 (x) : Int), .int .u64 (l3 (x) : Int)] : List Value).toArray ne7_9.symm
  replace nB_W3 := Lib.hid (set_below nB_W3.out (Nat.le_trans HB1.out.size hB7) ([.int .u64 (l0 (x) : Int), .int .u64 (l1 (x) : Int), .int .u64 (l2 (x) : Int), .int .u64 (l3 (x) : Int)] : List Value).toArray)
  refine tail_storeH (k := 7) (by kernel_rfl) rfl rfl rfl 26 (.tmp 8) (.tmp 16) rfl g8 ([.int .u64 (l0 (y) : Int), .int .u64 (l1 (y) : Int), .int .u64 (l2 (y) : Int), .int .u64 (l3 (y) : Int)] : List Value).toArray (by kernel_rfl) (by kernel_rfl) _ _ hr8 (by kernel_rfl) rfl (by kernel_rfl) ⟨RowL.set_ne (hSn.1) ([.int .u64 (l0 (y) : Int), .int .u64 (l1 (y) : Int), .int .u64 (l2 (y) : Int), .int .u64 (l3 (y) : Int)] : List Value).toArray (Nat.ne_of_lt (Nat.lt_of_lt_of_le R0.out.lt hB8)), RowL.set_ne (hSn.2.1) ([.int .u64 (l0 (y) : Int), .int .u64 (l1 (y) : Int), .int .u64 (l2 (y) : Int), .int .u64 (l3 (y) : Int)] : List Value).toArray (Nat.ne_of_lt (Nat.lt_of_lt_of_le R1.out.lt hB8)), RowL.set_ne (hSn.2.2) ([.int .u64 (l0 (y) : Int), .int .u64 (l1 (y) : Int), .int .u64 (l2 (y) : Int), .int .u64 (l3 (y) : Int)] : List Value).toArray (Nat.ne_of_lt (Nat.lt_of_lt_of_le R2.out.lt hB8))⟩ ?_
  replace hSn :=  (And.intro (RowL.set_ne (hSn.1) ([.int .u64 (l0 (y) : Int), .int .u64 (l1 (y) : Int), .int .u64 (l2 (y) : Int), .int .u64 (l3 (y) : Int)] : List Value).toArray (Nat.ne_of_lt (Nat.lt_of_lt_of_le R0.out.lt hB8))) (And.intro (RowL.set_ne (hSn.2.1) ([.int .u64 (l0 (y) : Int), .int .u64 (l1 (y) : Int), .int .u64 (l2 (y) : Int), .int .u64 (l3 (y) : Int)] : List Value).toArray (Nat.ne_of_lt (Nat.lt_of_lt_of_le R1.out.lt hB8))) (RowL.set_ne (hSn.2.2) ([.int .u64 (l0 (y) : Int), .int .u64 (l1 (y) : Int), .int .u64 (l2 (y) : Int), .int .u64 (l3 (y) : Int)] : List Value).toArray (Nat.ne_of_lt (Nat.lt_of_lt_of_le R2.out.lt hB8)))))
  replace hr7 := hr7.set_ne ([.int .u64 (l0 (y) : Int), .int .u64 (l1 (y) : Int), .int .u64 (l2 (y) : Int), .int .u64 (l3 (y) : Int)] : List Value).toArray ne7_8
  replace hr8 := hr8.set ([.int .u64 (l0 (y) : Int), .int .u64 (l1 (y) : Int), .int .u64 (l2 (y) : Int), .int .u64 (l3 (y) : Int)])
  replace hr9 := hr9.set_ne ([.int .u64 (l0 (y) : Int), .int .u64 (l1 (y) : Int), .int .u64 (l2 (y) : Int), .int .u64 (l3 (y) : Int)] : List Value).toArray ne8_9.symm
  replace nB_W3 := Lib.hid (set_below nB_W3.out (Nat.le_trans HB1.out.size hB8) ([.int .u64 (l0 (y) : Int), .int .u64 (l1 (y) : Int), .int .u64 (l2 (y) : Int), .int .u64 (l3 (y) : Int)] : List Value).toArray)
  refine tail_storeH (k := 8) (by kernel_rfl) rfl rfl rfl 26 (.tmp 9) (.tmp 17) rfl g9 ([.int .u64 (l0 (z) : Int), .int .u64 (l1 (z) : Int), .int .u64 (l2 (z) : Int), .int .u64 (l3 (z) : Int)] : List Value).toArray (by kernel_rfl) (by kernel_rfl) _ _ hr9 (by kernel_rfl) rfl (by kernel_rfl) ⟨RowL.set_ne (hSn.1) ([.int .u64 (l0 (z) : Int), .int .u64 (l1 (z) : Int), .int .u64 (l2 (z) : Int), .int .u64 (l3 (z) : Int)] : List Value).toArray (Nat.ne_of_lt (Nat.lt_of_lt_of_le R0.out.lt hB9)), RowL.set_ne (hSn.2.1) ([.int .u64 (l0 (z) : Int), .int .u64 (l1 (z) : Int), .int .u64 (l2 (z) : Int), .int .u64 (l3 (z) : Int)] : List Value).toArray (Nat.ne_of_lt (Nat.lt_of_lt_of_le R1.out.lt hB9)), RowL.set_ne (hSn.2.2) ([.int .u64 (l0 (z) : Int), .int .u64 (l1 (z) : Int), .int .u64 (l2 (z) : Int), .int .u64 (l3 (z) : Int)] : List Value).toArray (Nat.ne_of_lt (Nat.lt_of_lt_of_le R2.out.lt hB9))⟩ ?_
  replace hSn :=  (And.intro (RowL.set_ne (hSn.1) ([.int .u64 (l0 (z) : Int), .int .u64 (l1 (z) : Int), .int .u64 (l2 (z) : Int), .int .u64 (l3 (z) : Int)] : List Value).toArray (Nat.ne_of_lt (Nat.lt_of_lt_of_le R0.out.lt hB9))) (And.intro (RowL.set_ne (hSn.2.1) ([.int .u64 (l0 (z) : Int), .int .u64 (l1 (z) : Int), .int .u64 (l2 (z) : Int), .int .u64 (l3 (z) : Int)] : List Value).toArray (Nat.ne_of_lt (Nat.lt_of_lt_of_le R1.out.lt hB9))) (RowL.set_ne (hSn.2.2) ([.int .u64 (l0 (z) : Int), .int .u64 (l1 (z) : Int), .int .u64 (l2 (z) : Int), .int .u64 (l3 (z) : Int)] : List Value).toArray (Nat.ne_of_lt (Nat.lt_of_lt_of_le R2.out.lt hB9)))))
  replace hr7 := hr7.set_ne ([.int .u64 (l0 (z) : Int), .int .u64 (l1 (z) : Int), .int .u64 (l2 (z) : Int), .int .u64 (l3 (z) : Int)] : List Value).toArray ne7_9
  replace hr8 := hr8.set_ne ([.int .u64 (l0 (z) : Int), .int .u64 (l1 (z) : Int), .int .u64 (l2 (z) : Int), .int .u64 (l3 (z) : Int)] : List Value).toArray ne8_9
  replace hr9 := hr9.set ([.int .u64 (l0 (z) : Int), .int .u64 (l1 (z) : Int), .int .u64 (l2 (z) : Int), .int .u64 (l3 (z) : Int)])
  replace nB_W3 := Lib.hid (set_below nB_W3.out (Nat.le_trans HB1.out.size hB9) ([.int .u64 (l0 (z) : Int), .int .u64 (l1 (z) : Int), .int .u64 (l2 (z) : Int), .int .u64 (l3 (z) : Int)] : List Value).toArray)
  refine wpAnyH_done (by kernel_rfl) ?_ _
  have Hg7 := Lib.hid hr7
  have Hg8 := Lib.hid hr8
  have Hg9 := Lib.hid hr9
  have M7 : Hid (W1.heap.size ≤ g7) := Lib.hid hB7
  have M8 : Hid (W1.heap.size ≤ g8) := Lib.hid hB8
  have M9 : Hid (W1.heap.size ≤ g9) := Lib.hid hB9
  clear hbr hbr0 hSn hHeld hz hr7 hr8 hr9 hB7 hB8 hB9 ne7_8 ne7_9 ne8_9 
  generalize (((wn.setRow g7 ([.int .u64 (l0 (x) : Int), .int .u64 (l1 (x) : Int), .int .u64 (l2 (x) : Int), .int .u64 (l3 (x) : Int)] : List Value).toArray).setRow g8 ([.int .u64 (l0 (y) : Int), .int .u64 (l1 (y) : Int), .int .u64 (l2 (y) : Int), .int .u64 (l3 (y) : Int)] : List Value).toArray).setRow g9 ([.int .u64 (l0 (z) : Int), .int .u64 (l1 (z) : Int), .int .u64 (l2 (z) : Int), .int .u64 (l3 (z) : Int)] : List Value).toArray) = W3 at *
  clear HB1 R0 R1 R2
  go_upto_region 4 with fail
  refine wp_region_mono 50 [18, 19, 20, 21, 22, 23, 24, 25, 26, 27, 28, 29, 30, 31, 32, 33, 34, 35, 36, 37, 38, 39, 40, 41, 42, 43, 44, 45, 46, 47, 48, 49, 50, 51, 52, 53, 54, 55, 56, 57, 58, 59, 60, 61, 62, 63, 64, 65, 66, 67] (phi [IsV (.agg #[.int .u64 (l0 (x) : Int), .int .u64 (l1 (x) : Int), .int .u64 (l2 (x) : Int), .int .u64 (l3 (x) : Int)]), IsV (.agg #[.int .u64 (l0 (y) : Int), .int .u64 (l1 (y) : Int), .int .u64 (l2 (y) : Int), .int .u64 (l3 (y) : Int)]), IsS 2 ([.int .u64 (l0 (x) : Int), .int .u64 (l1 (x) : Int), .int .u64 (l2 (x) : Int), .int .u64 (l3 (x) : Int), .int .u64 (l0 (y) : Int), .int .u64 (l1 (y) : Int), .int .u64 (l2 (y) : Int), .int .u64 (l3 (y) : Int)]) 26, IsV (.agg #[.int .u64 (l0 (S1) : Int), .int .u64 (l1 (S1) : Int), .int .u64 (l2 (S1) : Int), .int .u64 (l3 (S1) : Int)]), IsV (.agg #[.int .u64 (l0 (y) : Int), .int .u64 (l1 (y) : Int), .int .u64 (l2 (y) : Int), .int .u64 (l3 (y) : Int)]), IsV (.agg #[.int .u64 (l0 (x) : Int), .int .u64 (l1 (x) : Int), .int .u64 (l2 (x) : Int), .int .u64 (l3 (x) : Int)]), IsS 2 ([.int .u64 (l0 (y) : Int), .int .u64 (l1 (y) : Int), .int .u64 (l2 (y) : Int), .int .u64 (l3 (y) : Int), .int .u64 (l0 (x) : Int), .int .u64 (l1 (x) : Int), .int .u64 (l2 (x) : Int), .int .u64 (l3 (x) : Int)]) 26, IsV (.agg #[.int .u64 (l0 (S1) : Int), .int .u64 (l1 (S1) : Int), .int .u64 (l2 (S1) : Int), .int .u64 (l3 (S1) : Int)]), IsV (.bool false), IsV (.bool false), IsV (.agg #[.int .u64 (l0 (x) : Int), .int .u64 (l1 (x) : Int), .int .u64 (l2 (x) : Int), .int .u64 (l3 (x) : Int)]), IsV (.agg #[.int .u64 (l0 (y) : Int), .int .u64 (l1 (y) : Int), .int .u64 (l2 (y) : Int), .int .u64 (l3 (y) : Int)]), IsS 2 ([.int .u64 (l0 (x) : Int), .int .u64 (l1 (x) : Int), .int .u64 (l2 (x) : Int), .int .u64 (l3 (x) : Int), .int .u64 (l0 (y) : Int), .int .u64 (l1 (y) : Int), .int .u64 (l2 (y) : Int), .int .u64 (l3 (y) : Int)]) 26, IsV (.agg #[.int .u64 (l0 (P1) : Int), .int .u64 (l1 (P1) : Int), .int .u64 (l2 (P1) : Int), .int .u64 (l3 (P1) : Int)]), IsV (.agg #[.int .u64 (l0 (y) : Int), .int .u64 (l1 (y) : Int), .int .u64 (l2 (y) : Int), .int .u64 (l3 (y) : Int)]), IsV (.agg #[.int .u64 (l0 (x) : Int), .int .u64 (l1 (x) : Int), .int .u64 (l2 (x) : Int), .int .u64 (l3 (x) : Int)]), IsS 2 ([.int .u64 (l0 (y) : Int), .int .u64 (l1 (y) : Int), .int .u64 (l2 (y) : Int), .int .u64 (l3 (y) : Int), .int .u64 (l0 (x) : Int), .int .u64 (l1 (x) : Int), .int .u64 (l2 (x) : Int), .int .u64 (l3 (x) : Int)]) 26, IsV (.agg #[.int .u64 (l0 (P1) : Int), .int .u64 (l1 (P1) : Int), .int .u64 (l2 (P1) : Int), .int .u64 (l3 (P1) : Int)]), IsV (.bool false), IsV (.bool false), IsV (.bool false), IsV (.agg #[.int .u64 (l0 (x) : Int), .int .u64 (l1 (x) : Int), .int .u64 (l2 (x) : Int), .int .u64 (l3 (x) : Int)]), IsV (.agg #[.int .u64 (l0 (y) : Int), .int .u64 (l1 (y) : Int), .int .u64 (l2 (y) : Int), .int .u64 (l3 (y) : Int)]), IsS 2 ([.int .u64 (l0 (x) : Int), .int .u64 (l1 (x) : Int), .int .u64 (l2 (x) : Int), .int .u64 (l3 (x) : Int), .int .u64 (l0 (y) : Int), .int .u64 (l1 (y) : Int), .int .u64 (l2 (y) : Int), .int .u64 (l3 (y) : Int)]) 26, IsV (.agg #[.int .u64 (l0 (S1) : Int), .int .u64 (l1 (S1) : Int), .int .u64 (l2 (S1) : Int), .int .u64 (l3 (S1) : Int)]), IsV (.agg #[.int .u64 (l0 (z) : Int), .int .u64 (l1 (z) : Int), .int .u64 (l2 (z) : Int), .int .u64 (l3 (z) : Int)]), IsS 2 ([.int .u64 (l0 (S1) : Int), .int .u64 (l1 (S1) : Int), .int .u64 (l2 (S1) : Int), .int .u64 (l3 (S1) : Int), .int .u64 (l0 (z) : Int), .int .u64 (l1 (z) : Int), .int .u64 (l2 (z) : Int), .int .u64 (l3 (z) : Int)]) 26, IsV (.agg #[.int .u64 (l0 (S3) : Int), .int .u64 (l1 (S3) : Int), .int .u64 (l2 (S3) : Int), .int .u64 (l3 (S3) : Int)]), IsV (.agg #[.int .u64 (l0 (x) : Int), .int .u64 (l1 (x) : Int), .int .u64 (l2 (x) : Int), .int .u64 (l3 (x) : Int)]), IsV (.agg #[.int .u64 (l0 (y) : Int), .int .u64 (l1 (y) : Int), .int .u64 (l2 (y) : Int), .int .u64 (l3 (y) : Int)]), IsV (.agg #[.int .u64 (l0 (z) : Int), .int .u64 (l1 (z) : Int), .int .u64 (l2 (z) : Int), .int .u64 (l3 (z) : Int)]), IsS 3 ([.int .u64 (l0 (x) : Int), .int .u64 (l1 (x) : Int), .int .u64 (l2 (x) : Int), .int .u64 (l3 (x) : Int), .int .u64 (l0 (y) : Int), .int .u64 (l1 (y) : Int), .int .u64 (l2 (y) : Int), .int .u64 (l3 (y) : Int), .int .u64 (l0 (z) : Int), .int .u64 (l1 (z) : Int), .int .u64 (l2 (z) : Int), .int .u64 (l3 (z) : Int)]) 26, IsV (.agg #[.int .u64 (l0 (S3) : Int), .int .u64 (l1 (S3) : Int), .int .u64 (l2 (S3) : Int), .int .u64 (l3 (S3) : Int)]), IsV (.bool false), IsV (.bool false), IsV (.bool false), IsV (.agg #[.int .u64 (l0 (x) : Int), .int .u64 (l1 (x) : Int), .int .u64 (l2 (x) : Int), .int .u64 (l3 (x) : Int)]), IsV (.agg #[.int .u64 (l0 (y) : Int), .int .u64 (l1 (y) : Int), .int .u64 (l2 (y) : Int), .int .u64 (l3 (y) : Int)]), IsS 2 ([.int .u64 (l0 (x) : Int), .int .u64 (l1 (x) : Int), .int .u64 (l2 (x) : Int), .int .u64 (l3 (x) : Int), .int .u64 (l0 (y) : Int), .int .u64 (l1 (y) : Int), .int .u64 (l2 (y) : Int), .int .u64 (l3 (y) : Int)]) 26, IsV (.agg #[.int .u64 (l0 (P1) : Int), .int .u64 (l1 (P1) : Int), .int .u64 (l2 (P1) : Int), .int .u64 (l3 (P1) : Int)]), IsV (.agg #[.int .u64 (l0 (z) : Int), .int .u64 (l1 (z) : Int), .int .u64 (l2 (z) : Int), .int .u64 (l3 (z) : Int)]), IsS 2 ([.int .u64 (l0 (P1) : Int), .int .u64 (l1 (P1) : Int), .int .u64 (l2 (P1) : Int), .int .u64 (l3 (P1) : Int), .int .u64 (l0 (z) : Int), .int .u64 (l1 (z) : Int), .int .u64 (l2 (z) : Int), .int .u64 (l3 (z) : Int)]) 26, IsV (.agg #[.int .u64 (l0 (P3) : Int), .int .u64 (l1 (P3) : Int), .int .u64 (l2 (P3) : Int), .int .u64 (l3 (P3) : Int)]), IsV (.agg #[.int .u64 (l0 (x) : Int), .int .u64 (l1 (x) : Int), .int .u64 (l2 (x) : Int), .int .u64 (l3 (x) : Int)]), IsV (.agg #[.int .u64 (l0 (y) : Int), .int .u64 (l1 (y) : Int), .int .u64 (l2 (y) : Int), .int .u64 (l3 (y) : Int)]), IsV (.agg #[.int .u64 (l0 (z) : Int), .int .u64 (l1 (z) : Int), .int .u64 (l2 (z) : Int), .int .u64 (l3 (z) : Int)]), IsS 3 ([.int .u64 (l0 (x) : Int), .int .u64 (l1 (x) : Int), .int .u64 (l2 (x) : Int), .int .u64 (l3 (x) : Int), .int .u64 (l0 (y) : Int), .int .u64 (l1 (y) : Int), .int .u64 (l2 (y) : Int), .int .u64 (l3 (y) : Int), .int .u64 (l0 (z) : Int), .int .u64 (l1 (z) : Int), .int .u64 (l2 (z) : Int), .int .u64 (l3 (z) : Int)]) 26, IsV (.agg #[.int .u64 (l0 (P3) : Int), .int .u64 (l1 (P3) : Int), .int .u64 (l2 (P3) : Int), .int .u64 (l3 (P3) : Int)]), IsV (.bool false), IsV (.bool false)]) [] rfl (by kernel_rfl) rfl rfl (by kernel_rfl) rfl (by kernel_rfl) (by kernel_rfl) (phi_mono (by repeat (first | exact mono_v _ | exact mono_r _ _ _ | exact mono_s _ _ _ | exact trivial | refine ⟨?_, ?_⟩))) ?_ ?_
  · intro i hi
    rcases (show i = 0 ∨ i = 1 ∨ i = 2 ∨ i = 3 ∨ i = 4 ∨ i = 5 ∨ i = 6 ∨ i = 7 ∨ i = 8 ∨ i = 9 ∨ i = 10 ∨ i = 11 ∨ i = 12 ∨ i = 13 ∨ i = 14 ∨ i = 15 ∨ i = 16 ∨ i = 17 ∨ i = 18 ∨ i = 19 ∨ i = 20 ∨ i = 21 ∨ i = 22 ∨ i = 23 ∨ i = 24 ∨ i = 25 ∨ i = 26 ∨ i = 27 ∨ i = 28 ∨ i = 29 ∨ i = 30 ∨ i = 31 ∨ i = 32 ∨ i = 33 ∨ i = 34 ∨ i = 35 ∨ i = 36 ∨ i = 37 ∨ i = 38 ∨ i = 39 ∨ i = 40 ∨ i = 41 ∨ i = 42 ∨ i = 43 ∨ i = 44 ∨ i = 45 ∨ i = 46 ∨ i = 47 ∨ i = 48 ∨ i = 49 by omega) with rfl | rfl | rfl | rfl | rfl | rfl | rfl | rfl | rfl | rfl | rfl | rfl | rfl | rfl | rfl | rfl | rfl | rfl | rfl | rfl | rfl | rfl | rfl | rfl | rfl | rfl | rfl | rfl | rfl | rfl | rfl | rfl | rfl | rfl | rfl | rfl | rfl | rfl | rfl | rfl | rfl | rfl | rfl | rfl | rfl | rfl | rfl | rfl | rfl | rfl
    · intro ac W hB hst hdep
      have e7 : ac.tmps[7]? = some (.pointer (some ⟨g7, 0, none⟩)) := hst 7 (by decide)
      exact st_load rfl (wanted_no rfl) 26 (.tmp 7) rfl (eval_of e7) ([.int .u64 (l0 (x) : Int), .int .u64 (l1 (x) : Int), .int .u64 (l2 (x) : Int), .int .u64 (l3 (x) : Int)]) _ ((RowL.upS (w := W3.drew) Hg7.out hB).range 0 _ rfl) undEl rfl (by kernel_rfl) rfl (notE rfl)
    · intro ac W hB hst hdep
      have e8 : ac.tmps[8]? = some (.pointer (some ⟨g8, 0, none⟩)) := hst 8 (by decide)
      exact st_load rfl (wanted_no rfl) 26 (.tmp 8) rfl (eval_of e8) ([.int .u64 (l0 (y) : Int), .int .u64 (l1 (y) : Int), .int .u64 (l2 (y) : Int), .int .u64 (l3 (y) : Int)]) _ ((RowL.upS (w := W3.drew) Hg8.out hB).range 0 _ rfl) undEl rfl (by kernel_rfl) rfl (notE rfl)
    · intro ac W hB hst hdep
      obtain ⟨x18, e18, h18⟩ := hdep 0 (memE (by kernel_rfl)) 18 rfl
      replace h18 : x18 = .agg #[.int .u64 (l0 (x) : Int), .int .u64 (l1 (x) : Int), .int .u64 (l2 (x) : Int), .int .u64 (l3 (x) : Int)] := h18
      subst h18
      obtain ⟨x19, e19, h19⟩ := hdep 1 (memE (by kernel_rfl)) 19 rfl
      replace h19 : x19 = .agg #[.int .u64 (l0 (y) : Int), .int .u64 (l1 (y) : Int), .int .u64 (l2 (y) : Int), .int .u64 (l3 (y) : Int)] := h19
      subst h19
      exact st_bs rfl (wanted_no rfl) 86 26 2 _ rfl (show (#[(0, .tmp 18), (1, .tmp 19)] : Array (Nat × Operand)).map (fun (i, x) => (i, ac.eval x)) = #[(0, .agg #[.int .u64 (l0 (x) : Int), .int .u64 (l1 (x) : Int), .int .u64 (l2 (x) : Int), .int .u64 (l3 (x) : Int)]), (1, .agg #[.int .u64 (l0 (y) : Int), .int .u64 (l1 (y) : Int), .int .u64 (l2 (y) : Int), .int .u64 (l3 (y) : Int)])] by simp only [List.map_toArray, List.map_cons, List.map_nil, eval_of e18, eval_of e19]) (bsEl2 (x) (y)) ⟨_, rfl, heap_alloc_new _ _⟩ (notE rfl)
    · intro ac W hB hst hdep
      obtain ⟨x20, e20, h20⟩ := hdep 2 (memE (by kernel_rfl)) 20 rfl
      obtain ⟨g20, hg20, r20⟩ := (h20 : IsS 2 ([.int .u64 (l0 (x) : Int), .int .u64 (l1 (x) : Int), .int .u64 (l2 (x) : Int), .int .u64 (l3 (x) : Int), .int .u64 (l0 (y) : Int), .int .u64 (l1 (y) : Int), .int .u64 (l2 (y) : Int), .int .u64 (l3 (y) : Int)]) 26 _ _)
      subst hg20
      exact st_call rfl (wanted_no rfl) rfl (show (#[.tmp 20] : Array Operand).map ac.eval = (#[.slice (some ⟨g20, 0, none⟩) 2 2] : Array Value) by simp only [List.map_toArray, List.map_cons, List.map_nil, Act.eval_const, eval_of e20]) (fun _ => by kernel_rfl) (Calls.mono (sumK2 Zx.out Zy.out E21.out r20) fun e w' h => ⟨_, h.1, h.2, rfl⟩) (notE rfl)
    · intro ac W hB hst hdep
      have e8 : ac.tmps[8]? = some (.pointer (some ⟨g8, 0, none⟩)) := hst 8 (by decide)
      exact st_load rfl (wanted_no rfl) 26 (.tmp 8) rfl (eval_of e8) ([.int .u64 (l0 (y) : Int), .int .u64 (l1 (y) : Int), .int .u64 (l2 (y) : Int), .int .u64 (l3 (y) : Int)]) _ ((RowL.upS (w := W3.drew) Hg8.out hB).range 0 _ rfl) undEl rfl (by kernel_rfl) rfl (notE rfl)
    · intro ac W hB hst hdep
      have e7 : ac.tmps[7]? = some (.pointer (some ⟨g7, 0, none⟩)) := hst 7 (by decide)
      exact st_load rfl (wanted_no rfl) 26 (.tmp 7) rfl (eval_of e7) ([.int .u64 (l0 (x) : Int), .int .u64 (l1 (x) : Int), .int .u64 (l2 (x) : Int), .int .u64 (l3 (x) : Int)]) _ ((RowL.upS (w := W3.drew) Hg7.out hB).range 0 _ rfl) undEl rfl (by kernel_rfl) rfl (notE rfl)
    · intro ac W hB hst hdep
      obtain ⟨x22, e22, h22⟩ := hdep 4 (memE (by kernel_rfl)) 22 rfl
      replace h22 : x22 = .agg #[.int .u64 (l0 (y) : Int), .int .u64 (l1 (y) : Int), .int .u64 (l2 (y) : Int), .int .u64 (l3 (y) : Int)] := h22
      subst h22
      obtain ⟨x23, e23, h23⟩ := hdep 5 (memE (by kernel_rfl)) 23 rfl
      replace h23 : x23 = .agg #[.int .u64 (l0 (x) : Int), .int .u64 (l1 (x) : Int), .int .u64 (l2 (x) : Int), .int .u64 (l3 (x) : Int)] := h23
      subst h23
      exact st_bs rfl (wanted_no rfl) 86 26 2 _ rfl (show (#[(0, .tmp 22), (1, .tmp 23)] : Array (Nat × Operand)).map (fun (i, x) => (i, ac.eval x)) = #[(0, .agg #[.int .u64 (l0 (y) : Int), .int .u64 (l1 (y) : Int), .int .u64 (l2 (y) : Int), .int .u64 (l3 (y) : Int)]), (1, .agg #[.int .u64 (l0 (x) : Int), .int .u64 (l1 (x) : Int), .int .u64 (l2 (x) : Int), .int .u64 (l3 (x) : Int)])] by simp only [List.map_toArray, List.map_cons, List.map_nil, eval_of e22, eval_of e23]) (bsEl2 (y) (x)) ⟨_, rfl, heap_alloc_new _ _⟩ (notE rfl)
    · intro ac W hB hst hdep
      obtain ⟨x24, e24, h24⟩ := hdep 6 (memE (by kernel_rfl)) 24 rfl
      obtain ⟨g24, hg24, r24⟩ := (h24 : IsS 2 ([.int .u64 (l0 (y) : Int), .int .u64 (l1 (y) : Int), .int .u64 (l2 (y) : Int), .int .u64 (l3 (y) : Int), .int .u64 (l0 (x) : Int), .int .u64 (l1 (x) : Int), .int .u64 (l2 (x) : Int), .int .u64 (l3 (x) : Int)]) 26 _ _)
      subst hg24
      exact st_call rfl (wanted_no rfl) rfl (show (#[.tmp 24] : Array Operand).map ac.eval = (#[.slice (some ⟨g24, 0, none⟩) 2 2] : Array Value) by simp only [List.map_toArray, List.map_cons, List.map_nil, Act.eval_const, eval_of e24]) (fun _ => by kernel_rfl) (Calls.mono (sumK2 Zy.out Zx.out E25.out r24) fun e w' h => ⟨_, h.1, h.2, rfl⟩) (notE rfl)
    · intro ac W hB hst hdep
      obtain ⟨x21, e21, h21⟩ := hdep 3 (memE (by kernel_rfl)) 21 rfl
      replace h21 : x21 = .agg #[.int .u64 (l0 (S1) : Int), .int .u64 (l1 (S1) : Int), .int .u64 (l2 (S1) : Int), .int .u64 (l3 (S1) : Int)] := h21
      subst h21
      obtain ⟨x25, e25, h25⟩ := hdep 7 (memE (by kernel_rfl)) 25 rfl
      replace h25 : x25 = .agg #[.int .u64 (l0 (S1) : Int), .int .u64 (l1 (S1) : Int), .int .u64 (l2 (S1) : Int), .int .u64 (l3 (S1) : Int)] := h25
      subst h25
      exact st_bin rfl (wanted_no rfl) .neq 26 26 (.tmp 21) (.tmp 25) rfl (eval_of e21) (eval_of e25) (fun W => neqSame (S1) (by first | exact ZS1.out | decide) W) rfl (notE rfl)
    · intro ac W hB hst hdep
      obtain ⟨x26, e26, h26⟩ := hdep 8 (memE (by kernel_rfl)) 26 rfl
      replace h26 : x26 = .bool false := h26
      subst h26
      exact st_move rfl (wanted_no rfl) (.tmp 26) (.inl rfl) (eval_of e26) rfl (notE rfl)
    · intro ac W hB hst hdep
      have e7 : ac.tmps[7]? = some (.pointer (some ⟨g7, 0, none⟩)) := hst 7 (by decide)
      obtain ⟨x27, e27, h27⟩ := hdep 9 (memE (by kernel_rfl)) 27 rfl
      replace h27 : x27 = .bool false := h27
      subst h27
      exact st_load rfl (wanted_yes rfl rfl rfl e27) 26 (.tmp 7) rfl (eval_of e7) ([.int .u64 (l0 (x) : Int), .int .u64 (l1 (x) : Int), .int .u64 (l2 (x) : Int), .int .u64 (l3 (x) : Int)]) _ ((RowL.upS (w := W3.drew) Hg7.out hB).range 0 _ rfl) undEl rfl (by kernel_rfl) rfl (notE rfl)
    · intro ac W hB hst hdep
      have e8 : ac.tmps[8]? = some (.pointer (some ⟨g8, 0, none⟩)) := hst 8 (by decide)
      obtain ⟨x27, e27, h27⟩ := hdep 9 (memE (by kernel_rfl)) 27 rfl
      replace h27 : x27 = .bool false := h27
      subst h27
      exact st_load rfl (wanted_yes rfl rfl rfl e27) 26 (.tmp 8) rfl (eval_of e8) ([.int .u64 (l0 (y) : Int), .int .u64 (l1 (y) : Int), .int .u64 (l2 (y) : Int), .int .u64 (l3 (y) : Int)]) _ ((RowL.upS (w := W3.drew) Hg8.out hB).range 0 _ rfl) undEl rfl (by kernel_rfl) rfl (notE rfl)
    · intro ac W hB hst hdep
      obtain ⟨x28, e28, h28⟩ := hdep 10 (memE (by kernel_rfl)) 28 rfl
      replace h28 : x28 = .agg #[.int .u64 (l0 (x) : Int), .int .u64 (l1 (x) : Int), .int .u64 (l2 (x) : Int), .int .u64 (l3 (x) : Int)] := h28
      subst h28
      obtain ⟨x29, e29, h29⟩ := hdep 11 (memE (by kernel_rfl)) 29 rfl
      replace h29 : x29 = .agg #[.int .u64 (l0 (y) : Int), .int .u64 (l1 (y) : Int), .int .u64 (l2 (y) : Int), .int .u64 (l3 (y) : Int)] := h29
      subst h29
      obtain ⟨x27, e27, h27⟩ := hdep 9 (memE (by kernel_rfl)) 27 rfl
      replace h27 : x27 = .bool false := h27
      subst h27
      exact st_bs rfl (wanted_yes rfl rfl rfl e27) 86 26 2 _ rfl (show (#[(0, .tmp 28), (1, .tmp 29)] : Array (Nat × Operand)).map (fun (i, x) => (i, ac.eval x)) = #[(0, .agg #[.int .u64 (l0 (x) : Int), .int .u64 (l1 (x) : Int), .int .u64 (l2 (x) : Int), .int .u64 (l3 (x) : Int)]), (1, .agg #[.int .u64 (l0 (y) : Int), .int .u64 (l1 (y) : Int), .int .u64 (l2 (y) : Int), .int .u64 (l3 (y) : Int)])] by simp only [List.map_toArray, List.map_cons, List.map_nil, eval_of e28, eval_of e29]) (bsEl2 (x) (y)) ⟨_, rfl, heap_alloc_new _ _⟩ (notE rfl)
    · intro ac W hB hst hdep
      obtain ⟨x30, e30, h30⟩ := hdep 12 (memE (by kernel_rfl)) 30 rfl
      obtain ⟨g30, hg30, r30⟩ := (h30 : IsS 2 ([.int .u64 (l0 (x) : Int), .int .u64 (l1 (x) : Int), .int .u64 (l2 (x) : Int), .int .u64 (l3 (x) : Int), .int .u64 (l0 (y) : Int), .int .u64 (l1 (y) : Int), .int .u64 (l2 (y) : Int), .int .u64 (l3 (y) : Int)]) 26 _ _)
      subst hg30
      obtain ⟨x27, e27, h27⟩ := hdep 9 (memE (by kernel_rfl)) 27 rfl
      replace h27 : x27 = .bool false := h27
      subst h27
      exact st_call rfl (wanted_yes rfl rfl rfl e27) rfl (show (#[.tmp 30] : Array Operand).map ac.eval = (#[.slice (some ⟨g30, 0, none⟩) 2 2] : Array Value) by simp only [List.map_toArray, List.map_cons, List.map_nil, Act.eval_const, eval_of e30]) (fun _ => by kernel_rfl) (Calls.mono (prodK2 Zx.out Zy.out E31.out r30) fun e w' h => ⟨_, h.1, h.2, rfl⟩) (notE rfl)
    · intro ac W hB hst hdep
      have e8 : ac.tmps[8]? = some (.pointer (some ⟨g8, 0, none⟩)) := hst 8 (by decide)
      obtain ⟨x27, e27, h27⟩ := hdep 9 (memE (by kernel_rfl)) 27 rfl
      replace h27 : x27 = .bool false := h27
      subst h27
      exact st_load rfl (wanted_yes rfl rfl rfl e27) 26 (.tmp 8) rfl (eval_of e8) ([.int .u64 (l0 (y) : Int), .int .u64 (l1 (y) : Int), .int .u64 (l2 (y) : Int), .int .u64 (l3 (y) : Int)]) _ ((RowL.upS (w := W3.drew) Hg8.out hB).range 0 _ rfl) undEl rfl (by kernel_rfl) rfl (notE rfl)
    · intro ac W hB hst hdep
      have e7 : ac.tmps[7]? = some (.pointer (some ⟨g7, 0, none⟩)) := hst 7 (by decide)
      obtain ⟨x27, e27, h27⟩ := hdep 9 (memE (by kernel_rfl)) 27 rfl
      replace h27 : x27 = .bool false := h27
      subst h27
      exact st_load rfl (wanted_yes rfl rfl rfl e27) 26 (.tmp 7) rfl (eval_of e7) ([.int .u64 (l0 (x) : Int), .int .u64 (l1 (x) : Int), .int .u64 (l2 (x) : Int), .int .u64 (l3 (x) : Int)]) _ ((RowL.upS (w := W3.drew) Hg7.out hB).range 0 _ rfl) undEl rfl (by kernel_rfl) rfl (notE rfl)
    · intro ac W hB hst hdep
      obtain ⟨x32, e32, h32⟩ := hdep 14 (memE (by kernel_rfl)) 32 rfl
      replace h32 : x32 = .agg #[.int .u64 (l0 (y) : Int), .int .u64 (l1 (y) : Int), .int .u64 (l2 (y) : Int), .int .u64 (l3 (y) : Int)] := h32
      subst h32
      obtain ⟨x33, e33, h33⟩ := hdep 15 (memE (by kernel_rfl)) 33 rfl
      replace h33 : x33 = .agg #[.int .u64 (l0 (x) : Int), .int .u64 (l1 (x) : Int), .int .u64 (l2 (x) : Int), .int .u64 (l3 (x) : Int)] := h33
      subst h33
      obtain ⟨x27, e27, h27⟩ := hdep 9 (memE (by kernel_rfl)) 27 rfl
      replace h27 : x27 = .bool false := h27
      subst h27
      exact st_bs rfl (wanted_yes rfl rfl rfl e27) 86 26 2 _ rfl (show (#[(0, .tmp 32), (1, .tmp 33)] : Array (Nat × Operand)).map (fun (i, x) => (i, ac.eval x)) = #[(0, .agg #[.int .u64 (l0 (y) : Int), .int .u64 (l1 (y) : Int), .int .u64 (l2 (y) : Int), .int .u64 (l3 (y) : Int)]), (1, .agg #[.int .u64 (l0 (x) : Int), .int .u64 (l1 (x) : Int), .int .u64 (l2 (x) : Int), .int .u64 (l3 (x) : Int)])] by simp only [List.map_toArray, List.map_cons, List.map_nil, eval_of e32, eval_of e33]) (bsEl2 (y) (x)) ⟨_, rfl, heap_alloc_new _ _⟩ (notE rfl)
    · intro ac W hB hst hdep
      obtain ⟨x34, e34, h34⟩ := hdep 16 (memE (by kernel_rfl)) 34 rfl
      obtain ⟨g34, hg34, r34⟩ := (h34 : IsS 2 ([.int .u64 (l0 (y) : Int), .int .u64 (l1 (y) : Int), .int .u64 (l2 (y) : Int), .int .u64 (l3 (y) : Int), .int .u64 (l0 (x) : Int), .int .u64 (l1 (x) : Int), .int .u64 (l2 (x) : Int), .int .u64 (l3 (x) : Int)]) 26 _ _)
      subst hg34
      obtain ⟨x27, e27, h27⟩ := hdep 9 (memE (by kernel_rfl)) 27 rfl
      replace h27 : x27 = .bool false := h27
      subst h27
      exact st_call rfl (wanted_yes rfl rfl rfl e27) rfl (show (#[.tmp 34] : Array Operand).map ac.eval = (#[.slice (some ⟨g34, 0, none⟩) 2 2] : Array Value) by simp only [List.map_toArray, List.map_cons, List.map_nil, Act.eval_const, eval_of e34]) (fun _ => by kernel_rfl) (Calls.mono (prodK2 Zy.out Zx.out E35.out r34) fun e w' h => ⟨_, h.1, h.2, rfl⟩) (notE rfl)
    · intro ac W hB hst hdep
      obtain ⟨x31, e31, h31⟩ := hdep 13 (memE (by kernel_rfl)) 31 rfl
      replace h31 : x31 = .agg #[.int .u64 (l0 (P1) : Int), .int .u64 (l1 (P1) : Int), .int .u64 (l2 (P1) : Int), .int .u64 (l3 (P1) : Int)] := h31
      subst h31
      obtain ⟨x35, e35, h35⟩ := hdep 17 (memE (by kernel_rfl)) 35 rfl
      replace h35 : x35 = .agg #[.int .u64 (l0 (P1) : Int), .int .u64 (l1 (P1) : Int), .int .u64 (l2 (P1) : Int), .int .u64 (l3 (P1) : Int)] := h35
      subst h35
      obtain ⟨x27, e27, h27⟩ := hdep 9 (memE (by kernel_rfl)) 27 rfl
      replace h27 : x27 = .bool false := h27
      subst h27
      exact st_bin rfl (wanted_yes rfl rfl rfl e27) .neq 26 26 (.tmp 31) (.tmp 35) rfl (eval_of e31) (eval_of e35) (fun W => neqSame (P1) (by first | exact ZP1.out | decide) W) rfl (notE rfl)
    · intro ac W hB hst hdep
      obtain ⟨x27, e27, h27⟩ := hdep 9 (memE (by kernel_rfl)) 27 rfl
      replace h27 : x27 = .bool false := h27
      subst h27
      obtain ⟨x36, e36, h36⟩ := hdep 18 (memE (by kernel_rfl)) 36 rfl
      replace h36 : x36 = .bool false := h36
      subst h36
      exact st_pick rfl (wanted_no rfl) (.tmp 27) (.const (.bool true)) (.tmp 36) rfl (eval_of e27) (eval_of e36) rfl (notE rfl)
    · intro ac W hB hst hdep
      obtain ⟨x37, e37, h37⟩ := hdep 19 (memE (by kernel_rfl)) 37 rfl
      replace h37 : x37 = .bool false := h37
      subst h37
      exact st_move rfl (wanted_no rfl) (.tmp 37) (.inl rfl) (eval_of e37) rfl (notE rfl)
    · intro ac W hB hst hdep
      have e7 : ac.tmps[7]? = some (.pointer (some ⟨g7, 0, none⟩)) := hst 7 (by decide)
      obtain ⟨x38, e38, h38⟩ := hdep 20 (memE (by kernel_rfl)) 38 rfl
      replace h38 : x38 = .bool false := h38
      subst h38
      exact st_load rfl (wanted_yes rfl rfl rfl e38) 26 (.tmp 7) rfl (eval_of e7) ([.int .u64 (l0 (x) : Int), .int .u64 (l1 (x) : Int), .int .u64 (l2 (x) : Int), .int .u64 (l3 (x) : Int)]) _ ((RowL.upS (w := W3.drew) Hg7.out hB).range 0 _ rfl) undEl rfl (by kernel_rfl) rfl (notE rfl)
    · intro ac W hB hst hdep
      have e8 : ac.tmps[8]? = some (.pointer (some ⟨g8, 0, none⟩)) := hst 8 (by decide)
      obtain ⟨x38, e38, h38⟩ := hdep 20 (memE (by kernel_rfl)) 38 rfl
      replace h38 : x38 = .bool false := h38
      subst h38
      exact st_load rfl (wanted_yes rfl rfl rfl e38) 26 (.tmp 8) rfl (eval_of e8) ([.int .u64 (l0 (y) : Int), .int .u64 (l1 (y) : Int), .int .u64 (l2 (y) : Int), .int .u64 (l3 (y) : Int)]) _ ((RowL.upS (w := W3.drew) Hg8.out hB).range 0 _ rfl) undEl rfl (by kernel_rfl) rfl (notE rfl)
    · intro ac W hB hst hdep
      obtain ⟨x39, e39, h39⟩ := hdep 21 (memE (by kernel_rfl)) 39 rfl
      replace h39 : x39 = .agg #[.int .u64 (l0 (x) : Int), .int .u64 (l1 (x) : Int), .int .u64 (l2 (x) : Int), .int .u64 (l3 (x) : Int)] := h39
      subst h39
      obtain ⟨x40, e40, h40⟩ := hdep 22 (memE (by kernel_rfl)) 40 rfl
      replace h40 : x40 = .agg #[.int .u64 (l0 (y) : Int), .int .u64 (l1 (y) : Int), .int .u64 (l2 (y) : Int), .int .u64 (l3 (y) : Int)] := h40
      subst h40
      obtain ⟨x38, e38, h38⟩ := hdep 20 (memE (by kernel_rfl)) 38 rfl
      replace h38 : x38 = .bool false := h38
      subst h38
      exact st_bs rfl (wanted_yes rfl rfl rfl e38) 86 26 2 _ rfl (show (#[(0, .tmp 39), (1, .tmp 40)] : Array (Nat × Operand)).map (fun (i, x) => (i, ac.eval x)) = #[(0, .agg #[.int .u64 (l0 (x) : Int), .int .u64 (l1 (x) : Int), .int .u64 (l2 (x) : Int), .int .u64 (l3 (x) : Int)]), (1, .agg #[.int .u64 (l0 (y) : Int), .int .u64 (l1 (y) : Int), .int .u64 (l2 (y) : Int), .int .u64 (l3 (y) : Int)])] by simp only [List.map_toArray, List.map_cons, List.map_nil, eval_of e39, eval_of e40]) (bsEl2 (x) (y)) ⟨_, rfl, heap_alloc_new _ _⟩ (notE rfl)
    · intro ac W hB hst hdep
      obtain ⟨x41, e41, h41⟩ := hdep 23 (memE (by kernel_rfl)) 41 rfl
      obtain ⟨g41, hg41, r41⟩ := (h41 : IsS 2 ([.int .u64 (l0 (x) : Int), .int .u64 (l1 (x) : Int), .int .u64 (l2 (x) : Int), .int .u64 (l3 (x) : Int), .int .u64 (l0 (y) : Int), .int .u64 (l1 (y) : Int), .int .u64 (l2 (y) : Int), .int .u64 (l3 (y) : Int)]) 26 _ _)
      subst hg41
      obtain ⟨x38, e38, h38⟩ := hdep 20 (memE (by kernel_rfl)) 38 rfl
      replace h38 : x38 = .bool false := h38
      subst h38
      exact st_call rfl (wanted_yes rfl rfl rfl e38) rfl (show (#[.tmp 41] : Array Operand).map ac.eval = (#[.slice (some ⟨g41, 0, none⟩) 2 2] : Array Value) by simp only [List.map_toArray, List.map_cons, List.map_nil, Act.eval_const, eval_of e41]) (fun _ => by kernel_rfl) (Calls.mono (sumK2 Zx.out Zy.out E42.out r41) fun e w' h => ⟨_, h.1, h.2, rfl⟩) (notE rfl)
    · intro ac W hB hst hdep
      have e9 : ac.tmps[9]? = some (.pointer (some ⟨g9, 0, none⟩)) := hst 9 (by decide)
      obtain ⟨x38, e38, h38⟩ := hdep 20 (memE (by kernel_rfl)) 38 rfl
      replace h38 : x38 = .bool false := h38
      subst h38
      exact st_load rfl (wanted_yes rfl rfl rfl e38) 26 (.tmp 9) rfl (eval_of e9) ([.int .u64 (l0 (z) : Int), .int .u64 (l1 (z) : Int), .int .u64 (l2 (z) : Int), .int .u64 (l3 (z) : Int)]) _ ((RowL.upS (w := W3.drew) Hg9.out hB).range 0 _ rfl) undEl rfl (by kernel_rfl) rfl (notE rfl)
    · intro ac W hB hst hdep
      obtain ⟨x42, e42, h42⟩ := hdep 24 (memE (by kernel_rfl)) 42 rfl
      replace h42 : x42 = .agg #[.int .u64 (l0 (S1) : Int), .int .u64 (l1 (S1) : Int), .int .u64 (l2 (S1) : Int), .int .u64 (l3 (S1) : Int)] := h42
      subst h42
      obtain ⟨x43, e43, h43⟩ := hdep 25 (memE (by kernel_rfl)) 43 rfl
      replace h43 : x43 = .agg #[.int .u64 (l0 (z) : Int), .int .u64 (l1 (z) : Int), .int .u64 (l2 (z) : Int), .int .u64 (l3 (z) : Int)] := h43
      subst h43
      obtain ⟨x38, e38, h38⟩ := hdep 20 (memE (by kernel_rfl)) 38 rfl
      replace h38 : x38 = .bool false := h38
      subst h38
      exact st_bs rfl (wanted_yes rfl rfl rfl e38) 86 26 2 _ rfl (show (#[(0, .tmp 42), (1, .tmp 43)] : Array (Nat × Operand)).map (fun (i, x) => (i, ac.eval x)) = #[(0, .agg #[.int .u64 (l0 (S1) : Int), .int .u64 (l1 (S1) : Int), .int .u64 (l2 (S1) : Int), .int .u64 (l3 (S1) : Int)]), (1, .agg #[.int .u64 (l0 (z) : Int), .int .u64 (l1 (z) : Int), .int .u64 (l2 (z) : Int), .int .u64 (l3 (z) : Int)])] by simp only [List.map_toArray, List.map_cons, List.map_nil, eval_of e42, eval_of e43]) (bsEl2 (S1) (z)) ⟨_, rfl, heap_alloc_new _ _⟩ (notE rfl)
    · intro ac W hB hst hdep
      obtain ⟨x44, e44, h44⟩ := hdep 26 (memE (by kernel_rfl)) 44 rfl
      obtain ⟨g44, hg44, r44⟩ := (h44 : IsS 2 ([.int .u64 (l0 (S1) : Int), .int .u64 (l1 (S1) : Int), .int .u64 (l2 (S1) : Int), .int .u64 (l3 (S1) : Int), .int .u64 (l0 (z) : Int), .int .u64 (l1 (z) : Int), .int .u64 (l2 (z) : Int), .int .u64 (l3 (z) : Int)]) 26 _ _)
      subst hg44
      obtain ⟨x38, e38, h38⟩ := hdep 20 (memE (by kernel_rfl)) 38 rfl
      replace h38 : x38 = .bool false := h38
      subst h38
      exact st_call rfl (wanted_yes rfl rfl rfl e38) rfl (show (#[.tmp 44] : Array Operand).map ac.eval = (#[.slice (some ⟨g44, 0, none⟩) 2 2] : Array Value) by simp only [List.map_toArray, List.map_cons, List.map_nil, Act.eval_const, eval_of e44]) (fun _ => by kernel_rfl) (Calls.mono (sumK2 ZS1.out Zz.out E45.out r44) fun e w' h => ⟨_, h.1, h.2, rfl⟩) (notE rfl)
    · intro ac W hB hst hdep
      have e7 : ac.tmps[7]? = some (.pointer (some ⟨g7, 0, none⟩)) := hst 7 (by decide)
      obtain ⟨x38, e38, h38⟩ := hdep 20 (memE (by kernel_rfl)) 38 rfl
      replace h38 : x38 = .bool false := h38
      subst h38
      exact st_load rfl (wanted_yes rfl rfl rfl e38) 26 (.tmp 7) rfl (eval_of e7) ([.int .u64 (l0 (x) : Int), .int .u64 (l1 (x) : Int), .int .u64 (l2 (x) : Int), .int .u64 (l3 (x) : Int)]) _ ((RowL.upS (w := W3.drew) Hg7.out hB).range 0 _ rfl) undEl rfl (by kernel_rfl) rfl (notE rfl)
    · intro ac W hB hst hdep
      have e8 : ac.tmps[8]? = some (.pointer (some ⟨g8, 0, none⟩)) := hst 8 (by decide)
      obtain ⟨x38, e38, h38⟩ := hdep 20 (memE (by kernel_rfl)) 38 rfl
      replace h38 : x38 = .bool false := h38
      subst h38
      exact st_load rfl (wanted_yes rfl rfl rfl e38) 26 (.tmp 8) rfl (eval_of e8) ([.int .u64 (l0 (y) : Int), .int .u64 (l1 (y) : Int), .int .u64 (l2 (y) : Int), .int .u64 (l3 (y) : Int)]) _ ((RowL.upS (w := W3.drew) Hg8.out hB).range 0 _ rfl) undEl rfl (by kernel_rfl) rfl (notE rfl)
    · intro ac W hB hst hdep
      have e9 : ac.tmps[9]? = some (.pointer (some ⟨g9, 0, none⟩)) := hst 9 (by decide)
      obtain ⟨x38, e38, h38⟩ := hdep 20 (memE (by kernel_rfl)) 38 rfl
      replace h38 : x38 = .bool false := h38
      subst h38
      exact st_load rfl (wanted_yes rfl rfl rfl e38) 26 (.tmp 9) rfl (eval_of e9) ([.int .u64 (l0 (z) : Int), .int .u64 (l1 (z) : Int), .int .u64 (l2 (z) : Int), .int .u64 (l3 (z) : Int)]) _ ((RowL.upS (w := W3.drew) Hg9.out hB).range 0 _ rfl) undEl rfl (by kernel_rfl) rfl (notE rfl)
    · intro ac W hB hst hdep
      obtain ⟨x46, e46, h46⟩ := hdep 28 (memE (by kernel_rfl)) 46 rfl
      replace h46 : x46 = .agg #[.int .u64 (l0 (x) : Int), .int .u64 (l1 (x) : Int), .int .u64 (l2 (x) : Int), .int .u64 (l3 (x) : Int)] := h46
      subst h46
      obtain ⟨x47, e47, h47⟩ := hdep 29 (memE (by kernel_rfl)) 47 rfl
      replace h47 : x47 = .agg #[.int .u64 (l0 (y) : Int), .int .u64 (l1 (y) : Int), .int .u64 (l2 (y) : Int), .int .u64 (l3 (y) : Int)] := h47
      subst h47
      obtain ⟨x48, e48, h48⟩ := hdep 30 (memE (by kernel_rfl)) 48 rfl
      replace h48 : x48 = .agg #[.int .u64 (l0 (z) : Int), .int .u64 (l1 (z) : Int), .int .u64 (l2 (z) : Int), .int .u64 (l3 (z) : Int)] := h48
      subst h48
      obtain ⟨x38, e38, h38⟩ := hdep 20 (memE (by kernel_rfl)) 38 rfl
      replace h38 : x38 = .bool false := h38
      subst h38
      exact st_bs rfl (wanted_yes rfl rfl rfl e38) 86 26 3 _ rfl (show (#[(0, .tmp 46), (1, .tmp 47), (2, .tmp 48)] : Array (Nat × Operand)).map (fun (i, x) => (i, ac.eval x)) = #[(0, .agg #[.int .u64 (l0 (x) : Int), .int .u64 (l1 (x) : Int), .int .u64 (l2 (x) : Int), .int .u64 (l3 (x) : Int)]), (1, .agg #[.int .u64 (l0 (y) : Int), .int .u64 (l1 (y) : Int), .int .u64 (l2 (y) : Int), .int .u64 (l3 (y) : Int)]), (2, .agg #[.int .u64 (l0 (z) : Int), .int .u64 (l1 (z) : Int), .int .u64 (l2 (z) : Int), .int .u64 (l3 (z) : Int)])] by simp only [List.map_toArray, List.map_cons, List.map_nil, eval_of e46, eval_of e47, eval_of e48]) (bsEl3 (x) (y) (z)) ⟨_, rfl, heap_alloc_new _ _⟩ (notE rfl)
    · intro ac W hB hst hdep
      obtain ⟨x49, e49, h49⟩ := hdep 31 (memE (by kernel_rfl)) 49 rfl
      obtain ⟨g49, hg49, r49⟩ := (h49 : IsS 3 ([.int .u64 (l0 (x) : Int), .int .u64 (l1 (x) : Int), .int .u64 (l2 (x) : Int), .int .u64 (l3 (x) : Int), .int .u64 (l0 (y) : Int), .int .u64 (l1 (y) : Int), .int .u64 (l2 (y) : Int), .int .u64 (l3 (y) : Int), .int .u64 (l0 (z) : Int), .int .u64 (l1 (z) : Int), .int .u64 (l2 (z) : Int), .int .u64 (l3 (z) : Int)]) 26 _ _)
      subst hg49
      obtain ⟨x38, e38, h38⟩ := hdep 20 (memE (by kernel_rfl)) 38 rfl
      replace h38 : x38 = .bool false := h38
      subst h38
      exact st_call rfl (wanted_yes rfl rfl rfl e38) rfl (show (#[.tmp 49] : Array Operand).map ac.eval = (#[.slice (some ⟨g49, 0, none⟩) 3 3] : Array Value) by simp only [List.map_toArray, List.map_cons, List.map_nil, Act.eval_const, eval_of e49]) (fun _ => by kernel_rfl) (Calls.mono (sumK3 Zx.out Zy.out Zz.out E50.out r49) fun e w' h => ⟨_, h.1, h.2, rfl⟩) (notE rfl)
    · intro ac W hB hst hdep
      obtain ⟨x45, e45, h45⟩ := hdep 27 (memE (by kernel_rfl)) 45 rfl
      replace h45 : x45 = .agg #[.int .u64 (l0 (S3) : Int), .int .u64 (l1 (S3) : Int), .int .u64 (l2 (S3) : Int), .int .u64 (l3 (S3) : Int)] := h45
      subst h45
      obtain ⟨x50, e50, h50⟩ := hdep 32 (memE (by kernel_rfl)) 50 rfl
      replace h50 : x50 = .agg #[.int .u64 (l0 (S3) : Int), .int .u64 (l1 (S3) : Int), .int .u64 (l2 (S3) : Int), .int .u64 (l3 (S3) : Int)] := h50
      subst h50
      obtain ⟨x38, e38, h38⟩ := hdep 20 (memE (by kernel_rfl)) 38 rfl
      replace h38 : x38 = .bool false := h38
      subst h38
      exact st_bin rfl (wanted_yes rfl rfl rfl e38) .neq 26 26 (.tmp 45) (.tmp 50) rfl (eval_of e45) (eval_of e50) (fun W => neqSame (S3) (by first | exact ZS3.out | decide) W) rfl (notE rfl)
    · intro ac W hB hst hdep
      obtain ⟨x38, e38, h38⟩ := hdep 20 (memE (by kernel_rfl)) 38 rfl
      replace h38 : x38 = .bool false := h38
      subst h38
      obtain ⟨x51, e51, h51⟩ := hdep 33 (memE (by kernel_rfl)) 51 rfl
      replace h51 : x51 = .bool false := h51
      subst h51
      exact st_pick rfl (wanted_no rfl) (.tmp 38) (.const (.bool true)) (.tmp 51) rfl (eval_of e38) (eval_of e51) rfl (notE rfl)
    · intro ac W hB hst hdep
      obtain ⟨x52, e52, h52⟩ := hdep 34 (memE (by kernel_rfl)) 52 rfl
      replace h52 : x52 = .bool false := h52
      subst h52
      exact st_move rfl (wanted_no rfl) (.tmp 52) (.inl rfl) (eval_of e52) rfl (notE rfl)
    · intro ac W hB hst hdep
      have e7 : ac.tmps[7]? = some (.pointer (some ⟨g7, 0, none⟩)) := hst 7 (by decide)
      obtain ⟨x53, e53, h53⟩ := hdep 35 (memE (by kernel_rfl)) 53 rfl
      replace h53 : x53 = .bool false := h53
      subst h53
      exact st_load rfl (wanted_yes rfl rfl rfl e53) 26 (.tmp 7) rfl (eval_of e7) ([.int .u64 (l0 (x) : Int), .int .u64 (l1 (x) : Int), .int .u64 (l2 (x) : Int), .int .u64 (l3 (x) : Int)]) _ ((RowL.upS (w := W3.drew) Hg7.out hB).range 0 _ rfl) undEl rfl (by kernel_rfl) rfl (notE rfl)
    · intro ac W hB hst hdep
      have e8 : ac.tmps[8]? = some (.pointer (some ⟨g8, 0, none⟩)) := hst 8 (by decide)
      obtain ⟨x53, e53, h53⟩ := hdep 35 (memE (by kernel_rfl)) 53 rfl
      replace h53 : x53 = .bool false := h53
      subst h53
      exact st_load rfl (wanted_yes rfl rfl rfl e53) 26 (.tmp 8) rfl (eval_of e8) ([.int .u64 (l0 (y) : Int), .int .u64 (l1 (y) : Int), .int .u64 (l2 (y) : Int), .int .u64 (l3 (y) : Int)]) _ ((RowL.upS (w := W3.drew) Hg8.out hB).range 0 _ rfl) undEl rfl (by kernel_rfl) rfl (notE rfl)
    · intro ac W hB hst hdep
      obtain ⟨x54, e54, h54⟩ := hdep 36 (memE (by kernel_rfl)) 54 rfl
      replace h54 : x54 = .agg #[.int .u64 (l0 (x) : Int), .int .u64 (l1 (x) : Int), .int .u64 (l2 (x) : Int), .int .u64 (l3 (x) : Int)] := h54
      subst h54
      obtain ⟨x55, e55, h55⟩ := hdep 37 (memE (by kernel_rfl)) 55 rfl
      replace h55 : x55 = .agg #[.int .u64 (l0 (y) : Int), .int .u64 (l1 (y) : Int), .int .u64 (l2 (y) : Int), .int .u64 (l3 (y) : Int)] := h55
      subst h55
      obtain ⟨x53, e53, h53⟩ := hdep 35 (memE (by kernel_rfl)) 53 rfl
      replace h53 : x53 = .bool false := h53
      subst h53
      exact st_bs rfl (wanted_yes rfl rfl rfl e53) 86 26 2 _ rfl (show (#[(0, .tmp 54), (1, .tmp 55)] : Array (Nat × Operand)).map (fun (i, x) => (i, ac.eval x)) = #[(0, .agg #[.int .u64 (l0 (x) : Int), .int .u64 (l1 (x) : Int), .int .u64 (l2 (x) : Int), .int .u64 (l3 (x) : Int)]), (1, .agg #[.int .u64 (l0 (y) : Int), .int .u64 (l1 (y) : Int), .int .u64 (l2 (y) : Int), .int .u64 (l3 (y) : Int)])] by simp only [List.map_toArray, List.map_cons, List.map_nil, eval_of e54, eval_of e55]) (bsEl2 (x) (y)) ⟨_, rfl, heap_alloc_new _ _⟩ (notE rfl)
    · intro ac W hB hst hdep
      obtain ⟨x56, e56, h56⟩ := hdep 38 (memE (by kernel_rfl)) 56 rfl
      obtain ⟨g56, hg56, r56⟩ := (h56 : IsS 2 ([.int .u64 (l0 (x) : Int), .int .u64 (l1 (x) : Int), .int .u64 (l2 (x) : Int), .int .u64 (l3 (x) : Int), .int .u64 (l0 (y) : Int), .int .u64 (l1 (y) : Int), .int .u64 (l2 (y) : Int), .int .u64 (l3 (y) : Int)]) 26 _ _)
      subst hg56
      obtain ⟨x53, e53, h53⟩ := hdep 35 (memE (by kernel_rfl)) 53 rfl
      replace h53 : x53 = .bool false := h53
      subst h53
      exact st_call rfl (wanted_yes rfl rfl rfl e53) rfl (show (#[.tmp 56] : Array Operand).map ac.eval = (#[.slice (some ⟨g56, 0, none⟩) 2 2] : Array Value) by simp only [List.map_toArray, List.map_cons, List.map_nil, Act.eval_const, eval_of e56]) (fun _ => by kernel_rfl) (Calls.mono (prodK2 Zx.out Zy.out E57.out r56) fun e w' h => ⟨_, h.1, h.2, rfl⟩) (notE rfl)
    · intro ac W hB hst hdep
      have e9 : ac.tmps[9]? = some (.pointer (some ⟨g9, 0, none⟩)) := hst 9 (by decide)
      obtain ⟨x53, e53, h53⟩ := hdep 35 (memE (by kernel_rfl)) 53 rfl
      replace h53 : x53 = .bool false := h53
      subst h53
      exact st_load rfl (wanted_yes rfl rfl rfl e53) 26 (.tmp 9) rfl (eval_of e9) ([.int .u64 (l0 (z) : Int), .int .u64 (l1 (z) : Int), .int .u64 (l2 (z) : Int), .int .u64 (l3 (z) : Int)]) _ ((RowL.upS (w := W3.drew) Hg9.out hB).range 0 _ rfl) undEl rfl (by kernel_rfl) rfl (notE rfl)
    · intro ac W hB hst hdep
      obtain ⟨x57, e57, h57⟩ := hdep 39 (memE (by kernel_rfl)) 57 rfl
      replace h57 : x57 = .agg #[.int .u64 (l0 (P1) : Int), .int .u64 (l1 (P1) : Int), .int .u64 (l2 (P1) : Int), .int .u64 (l3 (P1) : Int)] := h57
      subst h57
      obtain ⟨x58, e58, h58⟩ := hdep 40 (memE (by kernel_rfl)) 58 rfl
      replace h58 : x58 = .agg #[.int .u64 (l0 (z) : Int), .int .u64 (l1 (z) : Int), .int .u64 (l2 (z) : Int), .int .u64 (l3 (z) : Int)] := h58
      subst h58
      obtain ⟨x53, e53, h53⟩ := hdep 35 (memE (by kernel_rfl)) 53 rfl
      replace h53 : x53 = .bool false := h53
      subst h53
      exact st_bs rfl (wanted_yes rfl rfl rfl e53) 86 26 2 _ rfl (show (#[(0, .tmp 57), (1, .tmp 58)] : Array (Nat × Operand)).map (fun (i, x) => (i, ac.eval x)) = #[(0, .agg #[.int .u64 (l0 (P1) : Int), .int .u64 (l1 (P1) : Int), .int .u64 (l2 (P1) : Int), .int .u64 (l3 (P1) : Int)]), (1, .agg #[.int .u64 (l0 (z) : Int), .int .u64 (l1 (z) : Int), .int .u64 (l2 (z) : Int), .int .u64 (l3 (z) : Int)])] by simp only [List.map_toArray, List.map_cons, List.map_nil, eval_of e57, eval_of e58]) (bsEl2 (P1) (z)) ⟨_, rfl, heap_alloc_new _ _⟩ (notE rfl)
    · intro ac W hB hst hdep
      obtain ⟨x59, e59, h59⟩ := hdep 41 (memE (by kernel_rfl)) 59 rfl
      obtain ⟨g59, hg59, r59⟩ := (h59 : IsS 2 ([.int .u64 (l0 (P1) : Int), .int .u64 (l1 (P1) : Int), .int .u64 (l2 (P1) : Int), .int .u64 (l3 (P1) : Int), .int .u64 (l0 (z) : Int), .int .u64 (l1 (z) : Int), .int .u64 (l2 (z) : Int), .int .u64 (l3 (z) : Int)]) 26 _ _)
      subst hg59
      obtain ⟨x53, e53, h53⟩ := hdep 35 (memE (by kernel_rfl)) 53 rfl
      replace h53 : x53 = .bool false := h53
      subst h53
      exact st_call rfl (wanted_yes rfl rfl rfl e53) rfl (show (#[.tmp 59] : Array Operand).map ac.eval = (#[.slice (some ⟨g59, 0, none⟩) 2 2] : Array Value) by simp only [List.map_toArray, List.map_cons, List.map_nil, Act.eval_const, eval_of e59]) (fun _ => by kernel_rfl) (Calls.mono (prodK2 ZP1.out Zz.out E60.out r59) fun e w' h => ⟨_, h.1, h.2, rfl⟩) (notE rfl)
    · intro ac W hB hst hdep
      have e7 : ac.tmps[7]? = some (.pointer (some ⟨g7, 0, none⟩)) := hst 7 (by decide)
      obtain ⟨x53, e53, h53⟩ := hdep 35 (memE (by kernel_rfl)) 53 rfl
      replace h53 : x53 = .bool false := h53
      subst h53
      exact st_load rfl (wanted_yes rfl rfl rfl e53) 26 (.tmp 7) rfl (eval_of e7) ([.int .u64 (l0 (x) : Int), .int .u64 (l1 (x) : Int), .int .u64 (l2 (x) : Int), .int .u64 (l3 (x) : Int)]) _ ((RowL.upS (w := W3.drew) Hg7.out hB).range 0 _ rfl) undEl rfl (by kernel_rfl) rfl (notE rfl)
    · intro ac W hB hst hdep
      have e8 : ac.tmps[8]? = some (.pointer (some ⟨g8, 0, none⟩)) := hst 8 (by decide)
      obtain ⟨x53, e53, h53⟩ := hdep 35 (memE (by kernel_rfl)) 53 rfl
      replace h53 : x53 = .bool false := h53
      subst h53
      exact st_load rfl (wanted_yes rfl rfl rfl e53) 26 (.tmp 8) rfl (eval_of e8) ([.int .u64 (l0 (y) : Int), .int .u64 (l1 (y) : Int), .int .u64 (l2 (y) : Int), .int .u64 (l3 (y) : Int)]) _ ((RowL.upS (w := W3.drew) Hg8.out hB).range 0 _ rfl) undEl rfl (by kernel_rfl) rfl (notE rfl)
    · intro ac W hB hst hdep
      have e9 : ac.tmps[9]? = some (.pointer (some ⟨g9, 0, none⟩)) := hst 9 (by decide)
      obtain ⟨x53, e53, h53⟩ := hdep 35 (memE (by kernel_rfl)) 53 rfl
      replace h53 : x53 = .bool false := h53
      subst h53
      exact st_load rfl (wanted_yes rfl rfl rfl e53) 26 (.tmp 9) rfl (eval_of e9) ([.int .u64 (l0 (z) : Int), .int .u64 (l1 (z) : Int), .int .u64 (l2 (z) : Int), .int .u64 (l3 (z) : Int)]) _ ((RowL.upS (w := W3.drew) Hg9.out hB).range 0 _ rfl) undEl rfl (by kernel_rfl) rfl (notE rfl)
    · intro ac W hB hst hdep
      obtain ⟨x61, e61, h61⟩ := hdep 43 (memE (by kernel_rfl)) 61 rfl
      replace h61 : x61 = .agg #[.int .u64 (l0 (x) : Int), .int .u64 (l1 (x) : Int), .int .u64 (l2 (x) : Int), .int .u64 (l3 (x) : Int)] := h61
      subst h61
      obtain ⟨x62, e62, h62⟩ := hdep 44 (memE (by kernel_rfl)) 62 rfl
      replace h62 : x62 = .agg #[.int .u64 (l0 (y) : Int), .int .u64 (l1 (y) : Int), .int .u64 (l2 (y) : Int), .int .u64 (l3 (y) : Int)] := h62
      subst h62
      obtain ⟨x63, e63, h63⟩ := hdep 45 (memE (by kernel_rfl)) 63 rfl
      replace h63 : x63 = .agg #[.int .u64 (l0 (z) : Int), .int .u64 (l1 (z) : Int), .int .u64 (l2 (z) : Int), .int .u64 (l3 (z) : Int)] := h63
      subst h63
      obtain ⟨x53, e53, h53⟩ := hdep 35 (memE (by kernel_rfl)) 53 rfl
      replace h53 : x53 = .bool false := h53
      subst h53
      exact st_bs rfl (wanted_yes rfl rfl rfl e53) 86 26 3 _ rfl (show (#[(0, .tmp 61), (1, .tmp 62), (2, .tmp 63)] : Array (Nat × Operand)).map (fun (i, x) => (i, ac.eval x)) = #[(0, .agg #[.int .u64 (l0 (x) : Int), .int .u64 (l1 (x) : Int), .int .u64 (l2 (x) : Int), .int .u64 (l3 (x) : Int)]), (1, .agg #[.int .u64 (l0 (y) : Int), .int .u64 (l1 (y) : Int), .int .u64 (l2 (y) : Int), .int .u64 (l3 (y) : Int)]), (2, .agg #[.int .u64 (l0 (z) : Int), .int .u64 (l1 (z) : Int), .int .u64 (l2 (z) : Int), .int .u64 (l3 (z) : Int)])] by simp only [List.map_toArray, List.map_cons, List.map_nil, eval_of e61, eval_of e62, eval_of e63]) (bsEl3 (x) (y) (z)) ⟨_, rfl, heap_alloc_new _ _⟩ (notE rfl)
    · intro ac W hB hst hdep
      obtain ⟨x64, e64, h64⟩ := hdep 46 (memE (by kernel_rfl)) 64 rfl
      obtain ⟨g64, hg64, r64⟩ := (h64 : IsS 3 ([.int .u64 (l0 (x) : Int), .int .u64 (l1 (x) : Int), .int .u64 (l2 (x) : Int), .int .u64 (l3 (x) : Int), .int .u64 (l0 (y) : Int), .int .u64 (l1 (y) : Int), .int .u64 (l2 (y) : Int), .int .u64 (l3 (y) : Int), .int .u64 (l0 (z) : Int), .int .u64 (l1 (z) : Int), .int .u64 (l2 (z) : Int), .int .u64 (l3 (z) : Int)]) 26 _ _)
      subst hg64
      obtain ⟨x53, e53, h53⟩ := hdep 35 (memE (by kernel_rfl)) 53 rfl
      replace h53 : x53 = .bool false := h53
      subst h53
      exact st_call rfl (wanted_yes rfl rfl rfl e53) rfl (show (#[.tmp 64] : Array Operand).map ac.eval = (#[.slice (some ⟨g64, 0, none⟩) 3 3] : Array Value) by simp only [List.map_toArray, List.map_cons, List.map_nil, Act.eval_const, eval_of e64]) (fun _ => by kernel_rfl) (Calls.mono (prodK3 Zx.out Zy.out Zz.out E65.out r64) fun e w' h => ⟨_, h.1, h.2, rfl⟩) (notE rfl)
    · intro ac W hB hst hdep
      obtain ⟨x60, e60, h60⟩ := hdep 42 (memE (by kernel_rfl)) 60 rfl
      replace h60 : x60 = .agg #[.int .u64 (l0 (P3) : Int), .int .u64 (l1 (P3) : Int), .int .u64 (l2 (P3) : Int), .int .u64 (l3 (P3) : Int)] := h60
      subst h60
      obtain ⟨x65, e65, h65⟩ := hdep 47 (memE (by kernel_rfl)) 65 rfl
      replace h65 : x65 = .agg #[.int .u64 (l0 (P3) : Int), .int .u64 (l1 (P3) : Int), .int .u64 (l2 (P3) : Int), .int .u64 (l3 (P3) : Int)] := h65
      subst h65
      obtain ⟨x53, e53, h53⟩ := hdep 35 (memE (by kernel_rfl)) 53 rfl
      replace h53 : x53 = .bool false := h53
      subst h53
      exact st_bin rfl (wanted_yes rfl rfl rfl e53) .neq 26 26 (.tmp 60) (.tmp 65) rfl (eval_of e60) (eval_of e65) (fun W => neqSame (P3) (by first | exact ZP3.out | decide) W) rfl (notE rfl)
    · intro ac W hB hst hdep
      obtain ⟨x53, e53, h53⟩ := hdep 35 (memE (by kernel_rfl)) 53 rfl
      replace h53 : x53 = .bool false := h53
      subst h53
      obtain ⟨x66, e66, h66⟩ := hdep 48 (memE (by kernel_rfl)) 66 rfl
      replace h66 : x66 = .bool false := h66
      subst h66
      exact st_pick rfl (wanted_no rfl) (.tmp 53) (.const (.bool true)) (.tmp 66) rfl (eval_of e53) (eval_of e66) rfl (notE rfl)
  intro vs hvs wn hbr hv hne
  obtain ⟨v18, v19, v20, v21, v22, v23, v24, v25, v26, v27, v28, v29, v30, v31, v32, v33, v34, v35, v36, v37, v38, v39, v40, v41, v42, v43, v44, v45, v46, v47, v48, v49, v50, v51, v52, v53, v54, v55, v56, v57, v58, v59, v60, v61, v62, v63, v64, v65, v66, v67, rfl⟩ := listf50 vs hvs
  obtain rfl : v18 = .agg #[.int .u64 (l0 (x) : Int), .int .u64 (l1 (x) : Int), .int .u64 (l2 (x) : Int), .int .u64 (l3 (x) : Int)] := hv 0 _ rfl
  obtain rfl : v19 = .agg #[.int .u64 (l0 (y) : Int), .int .u64 (l1 (y) : Int), .int .u64 (l2 (y) : Int), .int .u64 (l3 (y) : Int)] := hv 1 _ rfl
  obtain ⟨g20, hg20, hr20⟩ : IsS 2 ([.int .u64 (l0 (x) : Int), .int .u64 (l1 (x) : Int), .int .u64 (l2 (x) : Int), .int .u64 (l3 (x) : Int), .int .u64 (l0 (y) : Int), .int .u64 (l1 (y) : Int), .int .u64 (l2 (y) : Int), .int .u64 (l3 (y) : Int)]) 26 v20 wn := hv 2 _ rfl
  obtain rfl : v21 = .agg #[.int .u64 (l0 (S1) : Int), .int .u64 (l1 (S1) : Int), .int .u64 (l2 (S1) : Int), .int .u64 (l3 (S1) : Int)] := hv 3 _ rfl
  obtain rfl : v22 = .agg #[.int .u64 (l0 (y) : Int), .int .u64 (l1 (y) : Int), .int .u64 (l2 (y) : Int), .int .u64 (l3 (y) : Int)] := hv 4 _ rfl
  obtain rfl : v23 = .agg #[.int .u64 (l0 (x) : Int), .int .u64 (l1 (x) : Int), .int .u64 (l2 (x) : Int), .int .u64 (l3 (x) : Int)] := hv 5 _ rfl
  obtain ⟨g24, hg24, hr24⟩ : IsS 2 ([.int .u64 (l0 (y) : Int), .int .u64 (l1 (y) : Int), .int .u64 (l2 (y) : Int), .int .u64 (l3 (y) : Int), .int .u64 (l0 (x) : Int), .int .u64 (l1 (x) : Int), .int .u64 (l2 (x) : Int), .int .u64 (l3 (x) : Int)]) 26 v24 wn := hv 6 _ rfl
  obtain rfl : v25 = .agg #[.int .u64 (l0 (S1) : Int), .int .u64 (l1 (S1) : Int), .int .u64 (l2 (S1) : Int), .int .u64 (l3 (S1) : Int)] := hv 7 _ rfl
  obtain rfl : v26 = .bool false := hv 8 _ rfl
  obtain rfl : v27 = .bool false := hv 9 _ rfl
  obtain rfl : v28 = .agg #[.int .u64 (l0 (x) : Int), .int .u64 (l1 (x) : Int), .int .u64 (l2 (x) : Int), .int .u64 (l3 (x) : Int)] := hv 10 _ rfl
  obtain rfl : v29 = .agg #[.int .u64 (l0 (y) : Int), .int .u64 (l1 (y) : Int), .int .u64 (l2 (y) : Int), .int .u64 (l3 (y) : Int)] := hv 11 _ rfl
  obtain ⟨g30, hg30, hr30⟩ : IsS 2 ([.int .u64 (l0 (x) : Int), .int .u64 (l1 (x) : Int), .int .u64 (l2 (x) : Int), .int .u64 (l3 (x) : Int), .int .u64 (l0 (y) : Int), .int .u64 (l1 (y) : Int), .int .u64 (l2 (y) : Int), .int .u64 (l3 (y) : Int)]) 26 v30 wn := hv 12 _ rfl
  obtain rfl : v31 = .agg #[.int .u64 (l0 (P1) : Int), .int .u64 (l1 (P1) : Int), .int .u64 (l2 (P1) : Int), .int .u64 (l3 (P1) : Int)] := hv 13 _ rfl
  obtain rfl : v32 = .agg #[.int .u64 (l0 (y) : Int), .int .u64 (l1 (y) : Int), .int .u64 (l2 (y) : Int), .int .u64 (l3 (y) : Int)] := hv 14 _ rfl
  obtain rfl : v33 = .agg #[.int .u64 (l0 (x) : Int), .int .u64 (l1 (x) : Int), .int .u64 (l2 (x) : Int), .int .u64 (l3 (x) : Int)] := hv 15 _ rfl
  obtain ⟨g34, hg34, hr34⟩ : IsS 2 ([.int .u64 (l0 (y) : Int), .int .u64 (l1 (y) : Int), .int .u64 (l2 (y) : Int), .int .u64 (l3 (y) : Int), .int .u64 (l0 (x) : Int), .int .u64 (l1 (x) : Int), .int .u64 (l2 (x) : Int), .int .u64 (l3 (x) : Int)]) 26 v34 wn := hv 16 _ rfl
  obtain rfl : v35 = .agg #[.int .u64 (l0 (P1) : Int), .int .u64 (l1 (P1) : Int), .int .u64 (l2 (P1) : Int), .int .u64 (l3 (P1) : Int)] := hv 17 _ rfl
  obtain rfl : v36 = .bool false := hv 18 _ rfl
  obtain rfl : v37 = .bool false := hv 19 _ rfl
  obtain rfl : v38 = .bool false := hv 20 _ rfl
  obtain rfl : v39 = .agg #[.int .u64 (l0 (x) : Int), .int .u64 (l1 (x) : Int), .int .u64 (l2 (x) : Int), .int .u64 (l3 (x) : Int)] := hv 21 _ rfl
  obtain rfl : v40 = .agg #[.int .u64 (l0 (y) : Int), .int .u64 (l1 (y) : Int), .int .u64 (l2 (y) : Int), .int .u64 (l3 (y) : Int)] := hv 22 _ rfl
  obtain ⟨g41, hg41, hr41⟩ : IsS 2 ([.int .u64 (l0 (x) : Int), .int .u64 (l1 (x) : Int), .int .u64 (l2 (x) : Int), .int .u64 (l3 (x) : Int), .int .u64 (l0 (y) : Int), .int .u64 (l1 (y) : Int), .int .u64 (l2 (y) : Int), .int .u64 (l3 (y) : Int)]) 26 v41 wn := hv 23 _ rfl
  obtain rfl : v42 = .agg #[.int .u64 (l0 (S1) : Int), .int .u64 (l1 (S1) : Int), .int .u64 (l2 (S1) : Int), .int .u64 (l3 (S1) : Int)] := hv 24 _ rfl
  obtain rfl : v43 = .agg #[.int .u64 (l0 (z) : Int), .int .u64 (l1 (z) : Int), .int .u64 (l2 (z) : Int), .int .u64 (l3 (z) : Int)] := hv 25 _ rfl
  obtain ⟨g44, hg44, hr44⟩ : IsS 2 ([.int .u64 (l0 (S1) : Int), .int .u64 (l1 (S1) : Int), .int .u64 (l2 (S1) : Int), .int .u64 (l3 (S1) : Int), .int .u64 (l0 (z) : Int), .int .u64 (l1 (z) : Int), .int .u64 (l2 (z) : Int), .int .u64 (l3 (z) : Int)]) 26 v44 wn := hv 26 _ rfl
  obtain rfl : v45 = .agg #[.int .u64 (l0 (S3) : Int), .int .u64 (l1 (S3) : Int), .int .u64 (l2 (S3) : Int), .int .u64 (l3 (S3) : Int)] := hv 27 _ rfl
  obtain rfl : v46 = .agg #[.int .u64 (l0 (x) : Int), .int .u64 (l1 (x) : Int), .int .u64 (l2 (x) : Int), .int .u64 (l3 (x) : Int)] := hv 28 _ rfl
  obtain rfl : v47 = .agg #[.int .u64 (l0 (y) : Int), .int .u64 (l1 (y) : Int), .int .u64 (l2 (y) : Int), .int .u64 (l3 (y) : Int)] := hv 29 _ rfl
  obtain rfl : v48 = .agg #[.int .u64 (l0 (z) : Int), .int .u64 (l1 (z) : Int), .int .u64 (l2 (z) : Int), .int .u64 (l3 (z) : Int)] := hv 30 _ rfl
  obtain ⟨g49, hg49, hr49⟩ : IsS 3 ([.int .u64 (l0 (x) : Int), .int .u64 (l1 (x) : Int), .int .u64 (l2 (x) : Int), .int .u64 (l3 (x) : Int), .int .u64 (l0 (y) : Int), .int .u64 (l1 (y) : Int), .int .u64 (l2 (y) : Int), .int .u64 (l3 (y) : Int), .int .u64 (l0 (z) : Int), .int .u64 (l1 (z) : Int), .int .u64 (l2 (z) : Int), .int .u64 (l3 (z) : Int)]) 26 v49 wn := hv 31 _ rfl
  obtain rfl : v50 = .agg #[.int .u64 (l0 (S3) : Int), .int .u64 (l1 (S3) : Int), .int .u64 (l2 (S3) : Int), .int .u64 (l3 (S3) : Int)] := hv 32 _ rfl
  obtain rfl : v51 = .bool false := hv 33 _ rfl
  obtain rfl : v52 = .bool false := hv 34 _ rfl
  obtain rfl : v53 = .bool false := hv 35 _ rfl
  obtain rfl : v54 = .agg #[.int .u64 (l0 (x) : Int), .int .u64 (l1 (x) : Int), .int .u64 (l2 (x) : Int), .int .u64 (l3 (x) : Int)] := hv 36 _ rfl
  obtain rfl : v55 = .agg #[.int .u64 (l0 (y) : Int), .int .u64 (l1 (y) : Int), .int .u64 (l2 (y) : Int), .int .u64 (l3 (y) : Int)] := hv 37 _ rfl
  obtain ⟨g56, hg56, hr56⟩ : IsS 2 ([.int .u64 (l0 (x) : Int), .int .u64 (l1 (x) : Int), .int .u64 (l2 (x) : Int), .int .u64 (l3 (x) : Int), .int .u64 (l0 (y) : Int), .int .u64 (l1 (y) : Int), .int .u64 (l2 (y) : Int), .int .u64 (l3 (y) : Int)]) 26 v56 wn := hv 38 _ rfl
  obtain rfl : v57 = .agg #[.int .u64 (l0 (P1) : Int), .int .u64 (l1 (P1) : Int), .int .u64 (l2 (P1) : Int), .int .u64 (l3 (P1) : Int)] := hv 39 _ rfl
  obtain rfl : v58 = .agg #[.int .u64 (l0 (z) : Int), .int .u64 (l1 (z) : Int), .int .u64 (l2 (z) : Int), .int .u64 (l3 (z) : Int)] := hv 40 _ rfl
  obtain ⟨g59, hg59, hr59⟩ : IsS 2 ([.int .u64 (l0 (P1) : Int), .int .u64 (l1 (P1) : Int), .int .u64 (l2 (P1) : Int), .int .u64 (l3 (P1) : Int), .int .u64 (l0 (z) : Int), .int .u64 (l1 (z) : Int), .int .u64 (l2 (z) : Int), .int .u64 (l3 (z) : Int)]) 26 v59 wn := hv 41 _ rfl
  obtain rfl : v60 = .agg #[.int .u64 (l0 (P3) : Int), .int .u64 (l1 (P3) : Int), .int .u64 (l2 (P3) : Int), .int .u64 (l3 (P3) : Int)] := hv 42 _ rfl
  obtain rfl : v61 = .agg #[.int .u64 (l0 (x) : Int), .int .u64 (l1 (x) : Int), .int .u64 (l2 (x) : Int), .int .u64 (l3 (x) : Int)] := hv 43 _ rfl
  obtain rfl : v62 = .agg #[.int .u64 (l0 (y) : Int), .int .u64 (l1 (y) : Int), .int .u64 (l2 (y) : Int), .int .u64 (l3 (y) : Int)] := hv 44 _ rfl
  obtain rfl : v63 = .agg #[.int .u64 (l0 (z) : Int), .int .u64 (l1 (z) : Int), .int .u64 (l2 (z) : Int), .int .u64 (l3 (z) : Int)] := hv 45 _ rfl
  obtain ⟨g64, hg64, hr64⟩ : IsS 3 ([.int .u64 (l0 (x) : Int), .int .u64 (l1 (x) : Int), .int .u64 (l2 (x) : Int), .int .u64 (l3 (x) : Int), .int .u64 (l0 (y) : Int), .int .u64 (l1 (y) : Int), .int .u64 (l2 (y) : Int), .int .u64 (l3 (y) : Int), .int .u64 (l0 (z) : Int), .int .u64 (l1 (z) : Int), .int .u64 (l2 (z) : Int), .int .u64 (l3 (z) : Int)]) 26 v64 wn := hv 46 _ rfl
  obtain rfl : v65 = .agg #[.int .u64 (l0 (P3) : Int), .int .u64 (l1 (P3) : Int), .int .u64 (l2 (P3) : Int), .int .u64 (l3 (P3) : Int)] := hv 47 _ rfl
  obtain rfl : v66 = .bool false := hv 48 _ rfl
  obtain rfl : v67 = .bool false := hv 49 _ rfl
  subst hg20
  subst hg24
  subst hg30
  subst hg34
  subst hg41
  subst hg44
  subst hg49
  subst hg56
  subst hg59
  subst hg64
  clear hvs hv hne
  simp only [List.zip_cons_cons, List.zip_nil_right, List.zip_nil_left, puts, Act.put, List.setIfInBounds_toArray, List.set_cons_zero, List.set_cons_succ]
  have hz : W3.heap.size ≤ wn.heap.size := hbr.size
  have nB_W4_ := Lib.hid (nB_W3.out.trans (hbr.mono nB_W3.out.size))
  have nHg7 := Lib.hid (Hg7.out.upS hbr)
  have nHg8 := Lib.hid (Hg8.out.upS hbr)
  have nHg9 := Lib.hid (Hg9.out.upS hbr)
  refine wpAny_done (by kernel_rfl) ?_ _
  clear hbr hz    hr20 hr24 hr30 hr34 hr41 hr44 hr49 hr56 hr59 hr64
  generalize wn = W4_ at *
  clear nB_W3 Hg7 Hg8 Hg9
  go_upto_region 6 with fail
  refine wp_region_mono 40 [68, 69, 70, 71, 72, 73, 74, 75, 76, 77, 78, 79, 80, 81, 82, 83, 84, 85, 86, 87, 88, 89, 90, 91, 92, 93, 94, 95, 96, 97, 98, 99, 100, 101, 102, 103, 104, 105, 106, 107] (phi [IsV (.agg #[.int .u64 (l0 (x) : Int), .int .u64 (l1 (x) : Int), .int .u64 (l2 (x) : Int), .int .u64 (l3 (x) : Int)]), IsV (.agg #[.int .u64 (l0 (y) : Int), .int .u64 (l1 (y) : Int), .int .u64 (l2 (y) : Int), .int .u64 (l3 (y) : Int)]), IsV (.agg #[.int .u64 (l0 (z) : Int), .int .u64 (l1 (z) : Int), .int .u64 (l2 (z) : Int), .int .u64 (l3 (z) : Int)]), IsS 2 ([.int .u64 (l0 (y) : Int), .int .u64 (l1 (y) : Int), .int .u64 (l2 (y) : Int), .int .u64 (l3 (y) : Int), .int .u64 (l0 (z) : Int), .int .u64 (l1 (z) : Int), .int .u64 (l2 (z) : Int), .int .u64 (l3 (z) : Int)]) 26, IsV (.agg #[.int .u64 (l0 (S2) : Int), .int .u64 (l1 (S2) : Int), .int .u64 (l2 (S2) : Int), .int .u64 (l3 (S2) : Int)]), IsS 2 ([.int .u64 (l0 (x) : Int), .int .u64 (l1 (x) : Int), .int .u64 (l2 (x) : Int), .int .u64 (l3 (x) : Int), .int .u64 (l0 (S2) : Int), .int .u64 (l1 (S2) : Int), .int .u64 (l2 (S2) : Int), .int .u64 (l3 (S2) : Int)]) 26, IsV (.agg #[.int .u64 (l0 (D) : Int), .int .u64 (l1 (D) : Int), .int .u64 (l2 (D) : Int), .int .u64 (l3 (D) : Int)]), IsV (.agg #[.int .u64 (l0 (x) : Int), .int .u64 (l1 (x) : Int), .int .u64 (l2 (x) : Int), .int .u64 (l3 (x) : Int)]), IsV (.agg #[.int .u64 (l0 (y) : Int), .int .u64 (l1 (y) : Int), .int .u64 (l2 (y) : Int), .int .u64 (l3 (y) : Int)]), IsS 2 ([.int .u64 (l0 (x) : Int), .int .u64 (l1 (x) : Int), .int .u64 (l2 (x) : Int), .int .u64 (l3 (x) : Int), .int .u64 (l0 (y) : Int), .int .u64 (l1 (y) : Int), .int .u64 (l2 (y) : Int), .int .u64 (l3 (y) : Int)]) 26, IsV (.agg #[.int .u64 (l0 (P1) : Int), .int .u64 (l1 (P1) : Int), .int .u64 (l2 (P1) : Int), .int .u64 (l3 (P1) : Int)]), IsV (.agg #[.int .u64 (l0 (x) : Int), .int .u64 (l1 (x) : Int), .int .u64 (l2 (x) : Int), .int .u64 (l3 (x) : Int)]), IsV (.agg #[.int .u64 (l0 (z) : Int), .int .u64 (l1 (z) : Int), .int .u64 (l2 (z) : Int), .int .u64 (l3 (z) : Int)]), IsS 2 ([.int .u64 (l0 (x) : Int), .int .u64 (l1 (x) : Int), .int .u64 (l2 (x) : Int), .int .u64 (l3 (x) : Int), .int .u64 (l0 (z) : Int), .int .u64 (l1 (z) : Int), .int .u64 (l2 (z) : Int), .int .u64 (l3 (z) : Int)]) 26, IsV (.agg #[.int .u64 (l0 (P2) : Int), .int .u64 (l1 (P2) : Int), .int .u64 (l2 (P2) : Int), .int .u64 (l3 (P2) : Int)]), IsS 2 ([.int .u64 (l0 (P1) : Int), .int .u64 (l1 (P1) : Int), .int .u64 (l2 (P1) : Int), .int .u64 (l3 (P1) : Int), .int .u64 (l0 (P2) : Int), .int .u64 (l1 (P2) : Int), .int .u64 (l2 (P2) : Int), .int .u64 (l3 (P2) : Int)]) 26, IsV (.agg #[.int .u64 (l0 (D) : Int), .int .u64 (l1 (D) : Int), .int .u64 (l2 (D) : Int), .int .u64 (l3 (D) : Int)]), IsV (.bool false), IsV (.bool false), IsV (.agg #[.int .u64 (l0 (x) : Int), .int .u64 (l1 (x) : Int), .int .u64 (l2 (x) : Int), .int .u64 (l3 (x) : Int)]), IsV (.agg #[.int .u64 (l0 (y) : Int), .int .u64 (l1 (y) : Int), .int .u64 (l2 (y) : Int), .int .u64 (l3 (y) : Int)]), IsS 2 ([.int .u64 (l0 (x) : Int), .int .u64 (l1 (x) : Int), .int .u64 (l2 (x) : Int), .int .u64 (l3 (x) : Int), .int .u64 (l0 (y) : Int), .int .u64 (l1 (y) : Int), .int .u64 (l2 (y) : Int), .int .u64 (l3 (y) : Int)]) 26, IsV (.agg #[.int .u64 (l0 (S1) : Int), .int .u64 (l1 (S1) : Int), .int .u64 (l2 (S1) : Int), .int .u64 (l3 (S1) : Int)]), IsV (.agg #[.int .u64 (l0 (y) : Int), .int .u64 (l1 (y) : Int), .int .u64 (l2 (y) : Int), .int .u64 (l3 (y) : Int)]), IsV (.agg #[.int .u64 (l0 (N) : Int), .int .u64 (l1 (N) : Int), .int .u64 (l2 (N) : Int), .int .u64 (l3 (N) : Int)]), IsV (.agg #[.int .u64 (l0 (x) : Int), .int .u64 (l1 (x) : Int), .int .u64 (l2 (x) : Int), .int .u64 (l3 (x) : Int)]), IsV (.agg #[.int .u64 (l0 (N) : Int), .int .u64 (l1 (N) : Int), .int .u64 (l2 (N) : Int), .int .u64 (l3 (N) : Int)]), IsV (.bool false), IsV (.bool false), IsV (.bool false), IsV (.agg #[.int .u64 (l0 (x) : Int), .int .u64 (l1 (x) : Int), .int .u64 (l2 (x) : Int), .int .u64 (l3 (x) : Int)]), IsV (.agg #[.int .u64 (l0 (y) : Int), .int .u64 (l1 (y) : Int), .int .u64 (l2 (y) : Int), .int .u64 (l3 (y) : Int)]), IsV (.agg #[.int .u64 (l0 (B1) : Int), .int .u64 (l1 (B1) : Int), .int .u64 (l2 (B1) : Int), .int .u64 (l3 (B1) : Int)]), IsV (.agg #[.int .u64 (l0 (y) : Int), .int .u64 (l1 (y) : Int), .int .u64 (l2 (y) : Int), .int .u64 (l3 (y) : Int)]), IsS 2 ([.int .u64 (l0 (B1) : Int), .int .u64 (l1 (B1) : Int), .int .u64 (l2 (B1) : Int), .int .u64 (l3 (B1) : Int), .int .u64 (l0 (y) : Int), .int .u64 (l1 (y) : Int), .int .u64 (l2 (y) : Int), .int .u64 (l3 (y) : Int)]) 26, IsV (.agg #[.int .u64 (l0 (N) : Int), .int .u64 (l1 (N) : Int), .int .u64 (l2 (N) : Int), .int .u64 (l3 (N) : Int)]), IsV (.agg #[.int .u64 (l0 (x) : Int), .int .u64 (l1 (x) : Int), .int .u64 (l2 (x) : Int), .int .u64 (l3 (x) : Int)]), IsV (.agg #[.int .u64 (l0 (N) : Int), .int .u64 (l1 (N) : Int), .int .u64 (l2 (N) : Int), .int .u64 (l3 (N) : Int)]), IsV (.bool false), IsV (.bool false)]) [] rfl (by kernel_rfl) rfl rfl (by kernel_rfl) rfl (by kernel_rfl) (by kernel_rfl) (phi_mono (by repeat (first | exact mono_v _ | exact mono_r _ _ _ | exact mono_s _ _ _ | exact trivial | refine ⟨?_, ?_⟩))) ?_ ?_
  · intro i hi
    rcases (show i = 0 ∨ i = 1 ∨ i = 2 ∨ i = 3 ∨ i = 4 ∨ i = 5 ∨ i = 6 ∨ i = 7 ∨ i = 8 ∨ i = 9 ∨ i = 10 ∨ i = 11 ∨ i = 12 ∨ i = 13 ∨ i = 14 ∨ i = 15 ∨ i = 16 ∨ i = 17 ∨ i = 18 ∨ i = 19 ∨ i = 20 ∨ i = 21 ∨ i = 22 ∨ i = 23 ∨ i = 24 ∨ i = 25 ∨ i = 26 ∨ i = 27 ∨ i = 28 ∨ i = 29 ∨ i = 30 ∨ i = 31 ∨ i = 32 ∨ i = 33 ∨ i = 34 ∨ i = 35 ∨ i = 36 ∨ i = 37 ∨ i = 38 ∨ i = 39 by omega) with rfl | rfl | rfl | rfl | rfl | rfl | rfl | rfl | rfl | rfl | rfl | rfl | rfl | rfl | rfl | rfl | rfl | rfl | rfl | rfl | rfl | rfl | rfl | rfl | rfl | rfl | rfl | rfl | rfl | rfl | rfl | rfl | rfl | rfl | rfl | rfl | rfl | rfl | rfl | rfl
    · intro ac W hB hst hdep
      have e7 : ac.tmps[7]? = some (.pointer (some ⟨g7, 0, none⟩)) := hst 7 (by decide)
      exact st_load rfl (wanted_no rfl) 26 (.tmp 7) rfl (eval_of e7) ([.int .u64 (l0 (x) : Int), .int .u64 (l1 (x) : Int), .int .u64 (l2 (x) : Int), .int .u64 (l3 (x) : Int)]) _ ((RowL.upS (w := W4_.drew) nHg7.out hB).range 0 _ rfl) undEl rfl (by kernel_rfl) rfl (notE rfl)
    · intro ac W hB hst hdep
      have e8 : ac.tmps[8]? = some (.pointer (some ⟨g8, 0, none⟩)) := hst 8 (by decide)
      exact st_load rfl (wanted_no rfl) 26 (.tmp 8) rfl (eval_of e8) ([.int .u64 (l0 (y) : Int), .int .u64 (l1 (y) : Int), .int .u64 (l2 (y) : Int), .int .u64 (l3 (y) : Int)]) _ ((RowL.upS (w := W4_.drew) nHg8.out hB).range 0 _ rfl) undEl rfl (by kernel_rfl) rfl (notE rfl)
    · intro ac W hB hst hdep
      have e9 : ac.tmps[9]? = some (.pointer (some ⟨g9, 0, none⟩)) := hst 9 (by decide)
      exact st_load rfl (wanted_no rfl) 26 (.tmp 9) rfl (eval_of e9) ([.int .u64 (l0 (z) : Int), .int .u64 (l1 (z) : Int), .int .u64 (l2 (z) : Int), .int .u64 (l3 (z) : Int)]) _ ((RowL.upS (w := W4_.drew) nHg9.out hB).range 0 _ rfl) undEl rfl (by kernel_rfl) rfl (notE rfl)
    · intro ac W hB hst hdep
      obtain ⟨x69, e69, h69⟩ := hdep 1 (memE (by kernel_rfl)) 69 rfl
      replace h69 : x69 = .agg #[.int .u64 (l0 (y) : Int), .int .u64 (l1 (y) : Int), .int .u64 (l2 (y) : Int), .int .u64 (l3 (y) : Int)] := h69
      subst h69
      obtain ⟨x70, e70, h70⟩ := hdep 2 (memE (by kernel_rfl)) 70 rfl
      replace h70 : x70 = .agg #[.int .u64 (l0 (z) : Int), .int .u64 (l1 (z) : Int), .int .u64 (l2 (z) : Int), .int .u64 (l3 (z) : Int)] := h70
      subst h70
      exact st_bs rfl (wanted_no rfl) 86 26 2 _ rfl (show (#[(0, .tmp 69), (1, .tmp 70)] : Array (Nat × Operand)).map (fun (i, x) => (i, ac.eval x)) = #[(0, .agg #[.int .u64 (l0 (y) : Int), .int .u64 (l1 (y) : Int), .int .u64 (l2 (y) : Int), .int .u64 (l3 (y) : Int)]), (1, .agg #[.int .u64 (l0 (z) : Int), .int .u64 (l1 (z) : Int), .int .u64 (l2 (z) : Int), .int .u64 (l3 (z) : Int)])] by simp only [List.map_toArray, List.map_cons, List.map_nil, eval_of e69, eval_of e70]) (bsEl2 (y) (z)) ⟨_, rfl, heap_alloc_new _ _⟩ (notE rfl)
    · intro ac W hB hst hdep
      obtain ⟨x71, e71, h71⟩ := hdep 3 (memE (by kernel_rfl)) 71 rfl
      obtain ⟨g71, hg71, r71⟩ := (h71 : IsS 2 ([.int .u64 (l0 (y) : Int), .int .u64 (l1 (y) : Int), .int .u64 (l2 (y) : Int), .int .u64 (l3 (y) : Int), .int .u64 (l0 (z) : Int), .int .u64 (l1 (z) : Int), .int .u64 (l2 (z) : Int), .int .u64 (l3 (z) : Int)]) 26 _ _)
      subst hg71
      exact st_call rfl (wanted_no rfl) rfl (show (#[.tmp 71] : Array Operand).map ac.eval = (#[.slice (some ⟨g71, 0, none⟩) 2 2] : Array Value) by simp only [List.map_toArray, List.map_cons, List.map_nil, Act.eval_const, eval_of e71]) (fun _ => by kernel_rfl) (Calls.mono (sumK2 Zy.out Zz.out E72.out r71) fun e w' h => ⟨_, h.1, h.2, rfl⟩) (notE rfl)
    · intro ac W hB hst hdep
      obtain ⟨x68, e68, h68⟩ := hdep 0 (memE (by kernel_rfl)) 68 rfl
      replace h68 : x68 = .agg #[.int .u64 (l0 (x) : Int), .int .u64 (l1 (x) : Int), .int .u64 (l2 (x) : Int), .int .u64 (l3 (x) : Int)] := h68
      subst h68
      obtain ⟨x72, e72, h72⟩ := hdep 4 (memE (by kernel_rfl)) 72 rfl
      replace h72 : x72 = .agg #[.int .u64 (l0 (S2) : Int), .int .u64 (l1 (S2) : Int), .int .u64 (l2 (S2) : Int), .int .u64 (l3 (S2) : Int)] := h72
      subst h72
      exact st_bs rfl (wanted_no rfl) 86 26 2 _ rfl (show (#[(0, .tmp 68), (1, .tmp 72)] : Array (Nat × Operand)).map (fun (i, x) => (i, ac.eval x)) = #[(0, .agg #[.int .u64 (l0 (x) : Int), .int .u64 (l1 (x) : Int), .int .u64 (l2 (x) : Int), .int .u64 (l3 (x) : Int)]), (1, .agg #[.int .u64 (l0 (S2) : Int), .int .u64 (l1 (S2) : Int), .int .u64 (l2 (S2) : Int), .int .u64 (l3 (S2) : Int)])] by simp only [List.map_toArray, List.map_cons, List.map_nil, eval_of e68, eval_of e72]) (bsEl2 (x) (S2)) ⟨_, rfl, heap_alloc_new _ _⟩ (notE rfl)
    · intro ac W hB hst hdep
      obtain ⟨x73, e73, h73⟩ := hdep 5 (memE (by kernel_rfl)) 73 rfl
      obtain ⟨g73, hg73, r73⟩ := (h73 : IsS 2 ([.int .u64 (l0 (x) : Int), .int .u64 (l1 (x) : Int), .int .u64 (l2 (x) : Int), .int .u64 (l3 (x) : Int), .int .u64 (l0 (S2) : Int), .int .u64 (l1 (S2) : Int), .int .u64 (l2 (S2) : Int), .int .u64 (l3 (S2) : Int)]) 26 _ _)
      subst hg73
      exact st_call rfl (wanted_no rfl) rfl (show (#[.tmp 73] : Array Operand).map ac.eval = (#[.slice (some ⟨g73, 0, none⟩) 2 2] : Array Value) by simp only [List.map_toArray, List.map_cons, List.map_nil, Act.eval_const, eval_of e73]) (fun _ => by kernel_rfl) (Calls.mono (prodK2 Zx.out ZS2.out E74.out r73) fun e w' h => ⟨_, h.1, h.2, rfl⟩) (notE rfl)
    · intro ac W hB hst hdep
      have e7 : ac.tmps[7]? = some (.pointer (some ⟨g7, 0, none⟩)) := hst 7 (by decide)
      exact st_load rfl (wanted_no rfl) 26 (.tmp 7) rfl (eval_of e7) ([.int .u64 (l0 (x) : Int), .int .u64 (l1 (x) : Int), .int .u64 (l2 (x) : Int), .int .u64 (l3 (x) : Int)]) _ ((RowL.upS (w := W4_.drew) nHg7.out hB).range 0 _ rfl) undEl rfl (by kernel_rfl) rfl (notE rfl)
    · intro ac W hB hst hdep
      have e8 : ac.tmps[8]? = some (.pointer (some ⟨g8, 0, none⟩)) := hst 8 (by decide)
      exact st_load rfl (wanted_no rfl) 26 (.tmp 8) rfl (eval_of e8) ([.int .u64 (l0 (y) : Int), .int .u64 (l1 (y) : Int), .int .u64 (l2 (y) : Int), .int .u64 (l3 (y) : Int)]) _ ((RowL.upS (w := W4_.drew) nHg8.out hB).range 0 _ rfl) undEl rfl (by kernel_rfl) rfl (notE rfl)
    · intro ac W hB hst hdep
      obtain ⟨x75, e75, h75⟩ := hdep 7 (memE (by kernel_rfl)) 75 rfl
      replace h75 : x75 = .agg #[.int .u64 (l0 (x) : Int), .int .u64 (l1 (x) : Int), .int .u64 (l2 (x) : Int), .int .u64 (l3 (x) : Int)] := h75
      subst h75
      obtain ⟨x76, e76, h76⟩ := hdep 8 (memE (by kernel_rfl)) 76 rfl
      replace h76 : x76 = .agg #[.int .u64 (l0 (y) : Int), .int .u64 (l1 (y) : Int), .int .u64 (l2 (y) : Int), .int .u64 (l3 (y) : Int)] := h76
      subst h76
      exact st_bs rfl (wanted_no rfl) 86 26 2 _ rfl (show (#[(0, .tmp 75), (1, .tmp 76)] : Array (Nat × Operand)).map (fun (i, x) => (i, ac.eval x)) = #[(0, .agg #[.int .u64 (l0 (x) : Int), .int .u64 (l1 (x) : Int), .int .u64 (l2 (x) : Int), .int .u64 (l3 (x) : Int)]), (1, .agg #[.int .u64 (l0 (y) : Int), .int .u64 (l1 (y) : Int), .int .u64 (l2 (y) : Int), .int .u64 (l3 (y) : Int)])] by simp only [List.map_toArray, List.map_cons, List.map_nil, eval_of e75, eval_of e76]) (bsEl2 (x) (y)) ⟨_, rfl, heap_alloc_new _ _⟩ (notE rfl)
    · intro ac W hB hst hdep
      obtain ⟨x77, e77, h77⟩ := hdep 9 (memE (by kernel_rfl)) 77 rfl
      obtain ⟨g77, hg77, r77⟩ := (h77 : IsS 2 ([.int .u64 (l0 (x) : Int), .int .u64 (l1 (x) : Int), .int .u64 (l2 (x) : Int), .int .u64 (l3 (x) : Int), .int .u64 (l0 (y) : Int), .int .u64 (l1 (y) : Int), .int .u64 (l2 (y) : Int), .int .u64 (l3 (y) : Int)]) 26 _ _)
      subst hg77
      exact st_call rfl (wanted_no rfl) rfl (show (#[.tmp 77] : Array Operand).map ac.eval = (#[.slice (some ⟨g77, 0, none⟩) 2 2] : Array Value) by simp only [List.map_toArray, List.map_cons, List.map_nil, Act.eval_const, eval_of e77]) (fun _ => by kernel_rfl) (Calls.mono (prodK2 Zx.out Zy.out E78.out r77) fun e w' h => ⟨_, h.1, h.2, rfl⟩) (notE rfl)
    · intro ac W hB hst hdep
      have e7 : ac.tmps[7]? = some (.pointer (some ⟨g7, 0, none⟩)) := hst 7 (by decide)
      exact st_load rfl (wanted_no rfl) 26 (.tmp 7) rfl (eval_of e7) ([.int .u64 (l0 (x) : Int), .int .u64 (l1 (x) : Int), .int .u64 (l2 (x) : Int), .int .u64 (l3 (x) : Int)]) _ ((RowL.upS (w := W4_.drew) nHg7.out hB).range 0 _ rfl) undEl rfl (by kernel_rfl) rfl (notE rfl)
    · intro ac W hB hst hdep
      have e9 : ac.tmps[9]? = some (.pointer (some ⟨g9, 0, none⟩)) := hst 9 (by decide)
      exact st_load rfl (wanted_no rfl) 26 (.tmp 9) rfl (eval_of e9) ([.int .u64 (l0 (z) : Int), .int .u64 (l1 (z) : Int), .int .u64 (l2 (z) : Int), .int .u64 (l3 (z) : Int)]) _ ((RowL.upS (w := W4_.drew) nHg9.out hB).range 0 _ rfl) undEl rfl (by kernel_rfl) rfl (notE rfl)
    · intro ac W hB hst hdep
      obtain ⟨x79, e79, h79⟩ := hdep 11 (memE (by kernel_rfl)) 79 rfl
      replace h79 : x79 = .agg #[.int .u64 (l0 (x) : Int), .int .u64 (l1 (x) : Int), .int .u64 (l2 (x) : Int), .int .u64 (l3 (x) : Int)] := h79
      subst h79
      obtain ⟨x80, e80, h80⟩ := hdep 12 (memE (by kernel_rfl)) 80 rfl
      replace h80 : x80 = .agg #[.int .u64 (l0 (z) : Int), .int .u64 (l1 (z) : Int), .int .u64 (l2 (z) : Int), .int .u64 (l3 (z) : Int)] := h80
      subst h80
      exact st_bs rfl (wanted_no rfl) 86 26 2 _ rfl (show (#[(0, .tmp 79), (1, .tmp 80)] : Array (Nat × Operand)).map (fun (i, x) => (i, ac.eval x)) = #[(0, .agg #[.int .u64 (l0 (x) : Int), .int .u64 (l1 (x) : Int), .int .u64 (l2 (x) : Int), .int .u64 (l3 (x) : Int)]), (1, .agg #[.int .u64 (l0 (z) : Int), .int .u64 (l1 (z) : Int), .int .u64 (l2 (z) : Int), .int .u64 (l3 (z) : Int)])] by simp only [List.map_toArray, List.map_cons, List.map_nil, eval_of e79, eval_of e80]) (bsEl2 (x) (z)) ⟨_, rfl, heap_alloc_new _ _⟩ (notE rfl)
    · intro ac W hB hst hdep
      obtain ⟨x81, e81, h81⟩ := hdep 13 (memE (by kernel_rfl)) 81 rfl
      obtain ⟨g81, hg81, r81⟩ := (h81 : IsS 2 ([.int .u64 (l0 (x) : Int), .int .u64 (l1 (x) : Int), .int .u64 (l2 (x) : Int), .int .u64 (l3 (x) : Int), .int .u64 (l0 (z) : Int), .int .u64 (l1 (z) : Int), .int .u64 (l2 (z) : Int), .int .u64 (l3 (z) : Int)]) 26 _ _)
      subst hg81
      exact st_call rfl (wanted_no rfl) rfl (show (#[.tmp 81] : Array Operand).map ac.eval = (#[.slice (some ⟨g81, 0, none⟩) 2 2] : Array Value) by simp only [List.map_toArray, List.map_cons, List.map_nil, Act.eval_const, eval_of e81]) (fun _ => by kernel_rfl) (Calls.mono (prodK2 Zx.out Zz.out E82.out r81) fun e w' h => ⟨_, h.1, h.2, rfl⟩) (notE rfl)
    · intro ac W hB hst hdep
      obtain ⟨x78, e78, h78⟩ := hdep 10 (memE (by kernel_rfl)) 78 rfl
      replace h78 : x78 = .agg #[.int .u64 (l0 (P1) : Int), .int .u64 (l1 (P1) : Int), .int .u64 (l2 (P1) : Int), .int .u64 (l3 (P1) : Int)] := h78
      subst h78
      obtain ⟨x82, e82, h82⟩ := hdep 14 (memE (by kernel_rfl)) 82 rfl
      replace h82 : x82 = .agg #[.int .u64 (l0 (P2) : Int), .int .u64 (l1 (P2) : Int), .int .u64 (l2 (P2) : Int), .int .u64 (l3 (P2) : Int)] := h82
      subst h82
      exact st_bs rfl (wanted_no rfl) 86 26 2 _ rfl (show (#[(0, .tmp 78), (1, .tmp 82)] : Array (Nat × Operand)).map (fun (i, x) => (i, ac.eval x)) = #[(0, .agg #[.int .u64 (l0 (P1) : Int), .int .u64 (l1 (P1) : Int), .int .u64 (l2 (P1) : Int), .int .u64 (l3 (P1) : Int)]), (1, .agg #[.int .u64 (l0 (P2) : Int), .int .u64 (l1 (P2) : Int), .int .u64 (l2 (P2) : Int), .int .u64 (l3 (P2) : Int)])] by simp only [List.map_toArray, List.map_cons, List.map_nil, eval_of e78, eval_of e82]) (bsEl2 (P1) (P2)) ⟨_, rfl, heap_alloc_new _ _⟩ (notE rfl)
    · intro ac W hB hst hdep
      obtain ⟨x83, e83, h83⟩ := hdep 15 (memE (by kernel_rfl)) 83 rfl
      obtain ⟨g83, hg83, r83⟩ := (h83 : IsS 2 ([.int .u64 (l0 (P1) : Int), .int .u64 (l1 (P1) : Int), .int .u64 (l2 (P1) : Int), .int .u64 (l3 (P1) : Int), .int .u64 (l0 (P2) : Int), .int .u64 (l1 (P2) : Int), .int .u64 (l2 (P2) : Int), .int .u64 (l3 (P2) : Int)]) 26 _ _)
      subst hg83
      exact st_call rfl (wanted_no rfl) rfl (show (#[.tmp 83] : Array Operand).map ac.eval = (#[.slice (some ⟨g83, 0, none⟩) 2 2] : Array Value) by simp only [List.map_toArray, List.map_cons, List.map_nil, Act.eval_const, eval_of e83]) (fun _ => by kernel_rfl) (Calls.mono (sumK2 ZP1.out ZP2.out E84.out r83) fun e w' h => ⟨_, h.1, h.2, rfl⟩) (notE rfl)
    · intro ac W hB hst hdep
      obtain ⟨x74, e74, h74⟩ := hdep 6 (memE (by kernel_rfl)) 74 rfl
      replace h74 : x74 = .agg #[.int .u64 (l0 (D) : Int), .int .u64 (l1 (D) : Int), .int .u64 (l2 (D) : Int), .int .u64 (l3 (D) : Int)] := h74
      subst h74
      obtain ⟨x84, e84, h84⟩ := hdep 16 (memE (by kernel_rfl)) 84 rfl
      replace h84 : x84 = .agg #[.int .u64 (l0 (D) : Int), .int .u64 (l1 (D) : Int), .int .u64 (l2 (D) : Int), .int .u64 (l3 (D) : Int)] := h84
      subst h84
      exact st_bin rfl (wanted_no rfl) .neq 26 26 (.tmp 74) (.tmp 84) rfl (eval_of e74) (eval_of e84) (fun W => neqSame (D) (by first | exact ZD.out | decide) W) rfl (notE rfl)
    · intro ac W hB hst hdep
      obtain ⟨x85, e85, h85⟩ := hdep 17 (memE (by kernel_rfl)) 85 rfl
      replace h85 : x85 = .bool false := h85
      subst h85
      exact st_move rfl (wanted_no rfl) (.tmp 85) (.inl rfl) (eval_of e85) rfl (notE rfl)
    · intro ac W hB hst hdep
      have e7 : ac.tmps[7]? = some (.pointer (some ⟨g7, 0, none⟩)) := hst 7 (by decide)
      obtain ⟨x86, e86, h86⟩ := hdep 18 (memE (by kernel_rfl)) 86 rfl
      replace h86 : x86 = .bool false := h86
      subst h86
      exact st_load rfl (wanted_yes rfl rfl rfl e86) 26 (.tmp 7) rfl (eval_of e7) ([.int .u64 (l0 (x) : Int), .int .u64 (l1 (x) : Int), .int .u64 (l2 (x) : Int), .int .u64 (l3 (x) : Int)]) _ ((RowL.upS (w := W4_.drew) nHg7.out hB).range 0 _ rfl) undEl rfl (by kernel_rfl) rfl (notE rfl)
    · intro ac W hB hst hdep
      have e8 : ac.tmps[8]? = some (.pointer (some ⟨g8, 0, none⟩)) := hst 8 (by decide)
      obtain ⟨x86, e86, h86⟩ := hdep 18 (memE (by kernel_rfl)) 86 rfl
      replace h86 : x86 = .bool false := h86
      subst h86
      exact st_load rfl (wanted_yes rfl rfl rfl e86) 26 (.tmp 8) rfl (eval_of e8) ([.int .u64 (l0 (y) : Int), .int .u64 (l1 (y) : Int), .int .u64 (l2 (y) : Int), .int .u64 (l3 (y) : Int)]) _ ((RowL.upS (w := W4_.drew) nHg8.out hB).range 0 _ rfl) undEl rfl (by kernel_rfl) rfl (notE rfl)
    · intro ac W hB hst hdep
      obtain ⟨x87, e87, h87⟩ := hdep 19 (memE (by kernel_rfl)) 87 rfl
      replace h87 : x87 = .agg #[.int .u64 (l0 (x) : Int), .int .u64 (l1 (x) : Int), .int .u64 (l2 (x) : Int), .int .u64 (l3 (x) : Int)] := h87
      subst h87
      obtain ⟨x88, e88, h88⟩ := hdep 20 (memE (by kernel_rfl)) 88 rfl
      replace h88 : x88 = .agg #[.int .u64 (l0 (y) : Int), .int .u64 (l1 (y) : Int), .int .u64 (l2 (y) : Int), .int .u64 (l3 (y) : Int)] := h88
      subst h88
      obtain ⟨x86, e86, h86⟩ := hdep 18 (memE (by kernel_rfl)) 86 rfl
      replace h86 : x86 = .bool false := h86
      subst h86
      exact st_bs rfl (wanted_yes rfl rfl rfl e86) 86 26 2 _ rfl (show (#[(0, .tmp 87), (1, .tmp 88)] : Array (Nat × Operand)).map (fun (i, x) => (i, ac.eval x)) = #[(0, .agg #[.int .u64 (l0 (x) : Int), .int .u64 (l1 (x) : Int), .int .u64 (l2 (x) : Int), .int .u64 (l3 (x) : Int)]), (1, .agg #[.int .u64 (l0 (y) : Int), .int .u64 (l1 (y) : Int), .int .u64 (l2 (y) : Int), .int .u64 (l3 (y) : Int)])] by simp only [List.map_toArray, List.map_cons, List.map_nil, eval_of e87, eval_of e88]) (bsEl2 (x) (y)) ⟨_, rfl, heap_alloc_new _ _⟩ (notE rfl)
    · intro ac W hB hst hdep
      obtain ⟨x89, e89, h89⟩ := hdep 21 (memE (by kernel_rfl)) 89 rfl
      obtain ⟨g89, hg89, r89⟩ := (h89 : IsS 2 ([.int .u64 (l0 (x) : Int), .int .u64 (l1 (x) : Int), .int .u64 (l2 (x) : Int), .int .u64 (l3 (x) : Int), .int .u64 (l0 (y) : Int), .int .u64 (l1 (y) : Int), .int .u64 (l2 (y) : Int), .int .u64 (l3 (y) : Int)]) 26 _ _)
      subst hg89
      obtain ⟨x86, e86, h86⟩ := hdep 18 (memE (by kernel_rfl)) 86 rfl
      replace h86 : x86 = .bool false := h86
      subst h86
      exact st_call rfl (wanted_yes rfl rfl rfl e86) rfl (show (#[.tmp 89] : Array Operand).map ac.eval = (#[.slice (some ⟨g89, 0, none⟩) 2 2] : Array Value) by simp only [List.map_toArray, List.map_cons, List.map_nil, Act.eval_const, eval_of e89]) (fun _ => by kernel_rfl) (Calls.mono (sumK2 Zx.out Zy.out E90.out r89) fun e w' h => ⟨_, h.1, h.2, rfl⟩) (notE rfl)
    · intro ac W hB hst hdep
      have e8 : ac.tmps[8]? = some (.pointer (some ⟨g8, 0, none⟩)) := hst 8 (by decide)
      obtain ⟨x86, e86, h86⟩ := hdep 18 (memE (by kernel_rfl)) 86 rfl
      replace h86 : x86 = .bool false := h86
      subst h86
      exact st_load rfl (wanted_yes rfl rfl rfl e86) 26 (.tmp 8) rfl (eval_of e8) ([.int .u64 (l0 (y) : Int), .int .u64 (l1 (y) : Int), .int .u64 (l2 (y) : Int), .int .u64 (l3 (y) : Int)]) _ ((RowL.upS (w := W4_.drew) nHg8.out hB).range 0 _ rfl) undEl rfl (by kernel_rfl) rfl (notE rfl)
    · intro ac W hB hst hdep
      obtain ⟨x90, e90, h90⟩ := hdep 22 (memE (by kernel_rfl)) 90 rfl
      replace h90 : x90 = .agg #[.int .u64 (l0 (S1) : Int), .int .u64 (l1 (S1) : Int), .int .u64 (l2 (S1) : Int), .int .u64 (l3 (S1) : Int)] := h90
      subst h90
      obtain ⟨x91, e91, h91⟩ := hdep 23 (memE (by kernel_rfl)) 91 rfl
      replace h91 : x91 = .agg #[.int .u64 (l0 (y) : Int), .int .u64 (l1 (y) : Int), .int .u64 (l2 (y) : Int), .int .u64 (l3 (y) : Int)] := h91
      subst h91
      obtain ⟨x86, e86, h86⟩ := hdep 18 (memE (by kernel_rfl)) 86 rfl
      replace h86 : x86 = .bool false := h86
      subst h86
      exact st_call rfl (wanted_yes rfl rfl rfl e86) rfl (show (#[.tmp 90, .tmp 91] : Array Operand).map ac.eval = (#[.agg #[.int .u64 (l0 (S1) : Int), .int .u64 (l1 (S1) : Int), .int .u64 (l2 (S1) : Int), .int .u64 (l3 (S1) : Int)], .agg #[.int .u64 (l0 (y) : Int), .int .u64 (l1 (y) : Int), .int .u64 (l2 (y) : Int), .int .u64 (l3 (y) : Int)]] : Array Value) by simp only [List.map_toArray, List.map_cons, List.map_nil, Act.eval_const, eval_of e90, eval_of e91]) (fun _ => by kernel_rfl) (Calls.mono (subK ZS1.out Zy.out E92.out) fun e w' h => ⟨_, h.1, h.2, rfl⟩) (notE rfl)
    · intro ac W hB hst hdep
      have e7 : ac.tmps[7]? = some (.pointer (some ⟨g7, 0, none⟩)) := hst 7 (by decide)
      obtain ⟨x86, e86, h86⟩ := hdep 18 (memE (by kernel_rfl)) 86 rfl
      replace h86 : x86 = .bool false := h86
      subst h86
      exact st_load rfl (wanted_yes rfl rfl rfl e86) 26 (.tmp 7) rfl (eval_of e7) ([.int .u64 (l0 (x) : Int), .int .u64 (l1 (x) : Int), .int .u64 (l2 (x) : Int), .int .u64 (l3 (x) : Int)]) _ ((RowL.upS (w := W4_.drew) nHg7.out hB).range 0 _ rfl) undEl rfl (by kernel_rfl) rfl (notE rfl)
    · intro ac W hB hst hdep
      obtain ⟨x93, e93, h93⟩ := hdep 25 (memE (by kernel_rfl)) 93 rfl
      replace h93 : x93 = .agg #[.int .u64 (l0 (x) : Int), .int .u64 (l1 (x) : Int), .int .u64 (l2 (x) : Int), .int .u64 (l3 (x) : Int)] := h93
      subst h93
      obtain ⟨x86, e86, h86⟩ := hdep 18 (memE (by kernel_rfl)) 86 rfl
      replace h86 : x86 = .bool false := h86
      subst h86
      exact st_call rfl (wanted_yes rfl rfl rfl e86) rfl (show (#[.tmp 93] : Array Operand).map ac.eval = (#[.agg #[.int .u64 (l0 (x) : Int), .int .u64 (l1 (x) : Int), .int .u64 (l2 (x) : Int), .int .u64 (l3 (x) : Int)]] : Array Value) by simp only [List.map_toArray, List.map_cons, List.map_nil, Act.eval_const, eval_of e93]) (fun _ => by kernel_rfl) (Calls.mono (normK Zx.out E94.out) fun e w' h => ⟨_, h.1, h.2, rfl⟩) (notE rfl)
    · intro ac W hB hst hdep
      obtain ⟨x92, e92, h92⟩ := hdep 24 (memE (by kernel_rfl)) 92 rfl
      replace h92 : x92 = .agg #[.int .u64 (l0 (N) : Int), .int .u64 (l1 (N) : Int), .int .u64 (l2 (N) : Int), .int .u64 (l3 (N) : Int)] := h92
      subst h92
      obtain ⟨x94, e94, h94⟩ := hdep 26 (memE (by kernel_rfl)) 94 rfl
      replace h94 : x94 = .agg #[.int .u64 (l0 (N) : Int), .int .u64 (l1 (N) : Int), .int .u64 (l2 (N) : Int), .int .u64 (l3 (N) : Int)] := h94
      subst h94
      obtain ⟨x86, e86, h86⟩ := hdep 18 (memE (by kernel_rfl)) 86 rfl
      replace h86 : x86 = .bool false := h86
      subst h86
      exact st_bin rfl (wanted_yes rfl rfl rfl e86) .neq 26 26 (.tmp 92) (.tmp 94) rfl (eval_of e92) (eval_of e94) (fun W => neqSame (N) (by first | exact ZN.out | decide) W) rfl (notE rfl)
    · intro ac W hB hst hdep
      obtain ⟨x86, e86, h86⟩ := hdep 18 (memE (by kernel_rfl)) 86 rfl
      replace h86 : x86 = .bool false := h86
      subst h86
      obtain ⟨x95, e95, h95⟩ := hdep 27 (memE (by kernel_rfl)) 95 rfl
      replace h95 : x95 = .bool false := h95
      subst h95
      exact st_pick rfl (wanted_no rfl) (.tmp 86) (.const (.bool true)) (.tmp 95) rfl (eval_of e86) (eval_of e95) rfl (notE rfl)
    · intro ac W hB hst hdep
      obtain ⟨x96, e96, h96⟩ := hdep 28 (memE (by kernel_rfl)) 96 rfl
      replace h96 : x96 = .bool false := h96
      subst h96
      exact st_move rfl (wanted_no rfl) (.tmp 96) (.inl rfl) (eval_of e96) rfl (notE rfl)
    · intro ac W hB hst hdep
      have e7 : ac.tmps[7]? = some (.pointer (some ⟨g7, 0, none⟩)) := hst 7 (by decide)
      obtain ⟨x97, e97, h97⟩ := hdep 29 (memE (by kernel_rfl)) 97 rfl
      replace h97 : x97 = .bool false := h97
      subst h97
      exact st_load rfl (wanted_yes rfl rfl rfl e97) 26 (.tmp 7) rfl (eval_of e7) ([.int .u64 (l0 (x) : Int), .int .u64 (l1 (x) : Int), .int .u64 (l2 (x) : Int), .int .u64 (l3 (x) : Int)]) _ ((RowL.upS (w := W4_.drew) nHg7.out hB).range 0 _ rfl) undEl rfl (by kernel_rfl) rfl (notE rfl)
    · intro ac W hB hst hdep
      have e8 : ac.tmps[8]? = some (.pointer (some ⟨g8, 0, none⟩)) := hst 8 (by decide)
      obtain ⟨x97, e97, h97⟩ := hdep 29 (memE (by kernel_rfl)) 97 rfl
      replace h97 : x97 = .bool false := h97
      subst h97
      exact st_load rfl (wanted_yes rfl rfl rfl e97) 26 (.tmp 8) rfl (eval_of e8) ([.int .u64 (l0 (y) : Int), .int .u64 (l1 (y) : Int), .int .u64 (l2 (y) : Int), .int .u64 (l3 (y) : Int)]) _ ((RowL.upS (w := W4_.drew) nHg8.out hB).range 0 _ rfl) undEl rfl (by kernel_rfl) rfl (notE rfl)
    · intro ac W hB hst hdep
      obtain ⟨x98, e98, h98⟩ := hdep 30 (memE (by kernel_rfl)) 98 rfl
      replace h98 : x98 = .agg #[.int .u64 (l0 (x) : Int), .int .u64 (l1 (x) : Int), .int .u64 (l2 (x) : Int), .int .u64 (l3 (x) : Int)] := h98
      subst h98
      obtain ⟨x99, e99, h99⟩ := hdep 31 (memE (by kernel_rfl)) 99 rfl
      replace h99 : x99 = .agg #[.int .u64 (l0 (y) : Int), .int .u64 (l1 (y) : Int), .int .u64 (l2 (y) : Int), .int .u64 (l3 (y) : Int)] := h99
      subst h99
      obtain ⟨x97, e97, h97⟩ := hdep 29 (memE (by kernel_rfl)) 97 rfl
      replace h97 : x97 = .bool false := h97
      subst h97
      exact st_call rfl (wanted_yes rfl rfl rfl e97) rfl (show (#[.tmp 98, .tmp 99] : Array Operand).map ac.eval = (#[.agg #[.int .u64 (l0 (x) : Int), .int .u64 (l1 (x) : Int), .int .u64 (l2 (x) : Int), .int .u64 (l3 (x) : Int)], .agg #[.int .u64 (l0 (y) : Int), .int .u64 (l1 (y) : Int), .int .u64 (l2 (y) : Int), .int .u64 (l3 (y) : Int)]] : Array Value) by simp only [List.map_toArray, List.map_cons, List.map_nil, Act.eval_const, eval_of e98, eval_of e99]) (fun _ => by kernel_rfl) (Calls.mono (subK Zx.out Zy.out E100.out) fun e w' h => ⟨_, h.1, h.2, rfl⟩) (notE rfl)
    · intro ac W hB hst hdep
      have e8 : ac.tmps[8]? = some (.pointer (some ⟨g8, 0, none⟩)) := hst 8 (by decide)
      obtain ⟨x97, e97, h97⟩ := hdep 29 (memE (by kernel_rfl)) 97 rfl
      replace h97 : x97 = .bool false := h97
      subst h97
      exact st_load rfl (wanted_yes rfl rfl rfl e97) 26 (.tmp 8) rfl (eval_of e8) ([.int .u64 (l0 (y) : Int), .int .u64 (l1 (y) : Int), .int .u64 (l2 (y) : Int), .int .u64 (l3 (y) : Int)]) _ ((RowL.upS (w := W4_.drew) nHg8.out hB).range 0 _ rfl) undEl rfl (by kernel_rfl) rfl (notE rfl)
    · intro ac W hB hst hdep
      obtain ⟨x100, e100, h100⟩ := hdep 32 (memE (by kernel_rfl)) 100 rfl
      replace h100 : x100 = .agg #[.int .u64 (l0 (B1) : Int), .int .u64 (l1 (B1) : Int), .int .u64 (l2 (B1) : Int), .int .u64 (l3 (B1) : Int)] := h100
      subst h100
      obtain ⟨x101, e101, h101⟩ := hdep 33 (memE (by kernel_rfl)) 101 rfl
      replace h101 : x101 = .agg #[.int .u64 (l0 (y) : Int), .int .u64 (l1 (y) : Int), .int .u64 (l2 (y) : Int), .int .u64 (l3 (y) : Int)] := h101
      subst h101
      obtain ⟨x97, e97, h97⟩ := hdep 29 (memE (by kernel_rfl)) 97 rfl
      replace h97 : x97 = .bool false := h97
      subst h97
      exact st_bs rfl (wanted_yes rfl rfl rfl e97) 86 26 2 _ rfl (show (#[(0, .tmp 100), (1, .tmp 101)] : Array (Nat × Operand)).map (fun (i, x) => (i, ac.eval x)) = #[(0, .agg #[.int .u64 (l0 (B1) : Int), .int .u64 (l1 (B1) : Int), .int .u64 (l2 (B1) : Int), .int .u64 (l3 (B1) : Int)]), (1, .agg #[.int .u64 (l0 (y) : Int), .int .u64 (l1 (y) : Int), .int .u64 (l2 (y) : Int), .int .u64 (l3 (y) : Int)])] by simp only [List.map_toArray, List.map_cons, List.map_nil, eval_of e100, eval_of e101]) (bsEl2 (B1) (y)) ⟨_, rfl, heap_alloc_new _ _⟩ (notE rfl)
    · intro ac W hB hst hdep
      obtain ⟨x102, e102, h102⟩ := hdep 34 (memE (by kernel_rfl)) 102 rfl
      obtain ⟨g102, hg102, r102⟩ := (h102 : IsS 2 ([.int .u64 (l0 (B1) : Int), .int .u64 (l1 (B1) : Int), .int .u64 (l2 (B1) : Int), .int .u64 (l3 (B1) : Int), .int .u64 (l0 (y) : Int), .int .u64 (l1 (y) : Int), .int .u64 (l2 (y) : Int), .int .u64 (l3 (y) : Int)]) 26 _ _)
      subst hg102
      obtain ⟨x97, e97, h97⟩ := hdep 29 (memE (by kernel_rfl)) 97 rfl
      replace h97 : x97 = .bool false := h97
      subst h97
      exact st_call rfl (wanted_yes rfl rfl rfl e97) rfl (show (#[.tmp 102] : Array Operand).map ac.eval = (#[.slice (some ⟨g102, 0, none⟩) 2 2] : Array Value) by simp only [List.map_toArray, List.map_cons, List.map_nil, Act.eval_const, eval_of e102]) (fun _ => by kernel_rfl) (Calls.mono (sumK2 ZB1.out Zy.out E103.out r102) fun e w' h => ⟨_, h.1, h.2, rfl⟩) (notE rfl)
    · intro ac W hB hst hdep
      have e7 : ac.tmps[7]? = some (.pointer (some ⟨g7, 0, none⟩)) := hst 7 (by decide)
      obtain ⟨x97, e97, h97⟩ := hdep 29 (memE (by kernel_rfl)) 97 rfl
      replace h97 : x97 = .bool false := h97
      subst h97
      exact st_load rfl (wanted_yes rfl rfl rfl e97) 26 (.tmp 7) rfl (eval_of e7) ([.int .u64 (l0 (x) : Int), .int .u64 (l1 (x) : Int), .int .u64 (l2 (x) : Int), .int .u64 (l3 (x) : Int)]) _ ((RowL.upS (w := W4_.drew) nHg7.out hB).range 0 _ rfl) undEl rfl (by kernel_rfl) rfl (notE rfl)
    · intro ac W hB hst hdep
      obtain ⟨x104, e104, h104⟩ := hdep 36 (memE (by kernel_rfl)) 104 rfl
      replace h104 : x104 = .agg #[.int .u64 (l0 (x) : Int), .int .u64 (l1 (x) : Int), .int .u64 (l2 (x) : Int), .int .u64 (l3 (x) : Int)] := h104
      subst h104
      obtain ⟨x97, e97, h97⟩ := hdep 29 (memE (by kernel_rfl)) 97 rfl
      replace h97 : x97 = .bool false := h97
      subst h97
      exact st_call rfl (wanted_yes rfl rfl rfl e97) rfl (show (#[.tmp 104] : Array Operand).map ac.eval = (#[.agg #[.int .u64 (l0 (x) : Int), .int .u64 (l1 (x) : Int), .int .u64 (l2 (x) : Int), .int .u64 (l3 (x) : Int)]] : Array Value) by simp only [List.map_toArray, List.map_cons, List.map_nil, Act.eval_const, eval_of e104]) (fun _ => by kernel_rfl) (Calls.mono (normK Zx.out E105.out) fun e w' h => ⟨_, h.1, h.2, rfl⟩) (notE rfl)
    · intro ac W hB hst hdep
      obtain ⟨x103, e103, h103⟩ := hdep 35 (memE (by kernel_rfl)) 103 rfl
      replace h103 : x103 = .agg #[.int .u64 (l0 (N) : Int), .int .u64 (l1 (N) : Int), .int .u64 (l2 (N) : Int), .int .u64 (l3 (N) : Int)] := h103
      subst h103
      obtain ⟨x105, e105, h105⟩ := hdep 37 (memE (by kernel_rfl)) 105 rfl
      replace h105 : x105 = .agg #[.int .u64 (l0 (N) : Int), .int .u64 (l1 (N) : Int), .int .u64 (l2 (N) : Int), .int .u64 (l3 (N) : Int)] := h105
      subst h105
      obtain ⟨x97, e97, h97⟩ := hdep 29 (memE (by kernel_rfl)) 97 rfl
      replace h97 : x97 = .bool false := h97
      subst h97
      exact st_bin rfl (wanted_yes rfl rfl rfl e97) .neq 26 26 (.tmp 103) (.tmp 105) rfl (eval_of e103) (eval_of e105) (fun W => neqSame (N) (by first | exact ZN.out | decide) W) rfl (notE rfl)
    · intro ac W hB hst hdep
      obtain ⟨x97, e97, h97⟩ := hdep 29 (memE (by kernel_rfl)) 97 rfl
      replace h97 : x97 = .bool false := h97
      subst h97
      obtain ⟨x106, e106, h106⟩ := hdep 38 (memE (by kernel_rfl)) 106 rfl
      replace h106 : x106 = .bool false := h106
      subst h106
      exact st_pick rfl (wanted_no rfl) (.tmp 97) (.const (.bool true)) (.tmp 106) rfl (eval_of e97) (eval_of e106) rfl (notE rfl)
  intro vs hvs wn hbr hv hne
  obtain ⟨v68, v69, v70, v71, v72, v73, v74, v75, v76, v77, v78, v79, v80, v81, v82, v83, v84, v85, v86, v87, v88, v89, v90, v91, v92, v93, v94, v95, v96, v97, v98, v99, v100, v101, v102, v103, v104, v105, v106, v107, rfl⟩ := listf40 vs hvs
  obtain rfl : v68 = .agg #[.int .u64 (l0 (x) : Int), .int .u64 (l1 (x) : Int), .int .u64 (l2 (x) : Int), .int .u64 (l3 (x) : Int)] := hv 0 _ rfl
  obtain rfl : v69 = .agg #[.int .u64 (l0 (y) : Int), .int .u64 (l1 (y) : Int), .int .u64 (l2 (y) : Int), .int .u64 (l3 (y) : Int)] := hv 1 _ rfl
  obtain rfl : v70 = .agg #[.int .u64 (l0 (z) : Int), .int .u64 (l1 (z) : Int), .int .u64 (l2 (z) : Int), .int .u64 (l3 (z) : Int)] := hv 2 _ rfl
  obtain ⟨g71, hg71, hr71⟩ : IsS 2 ([.int .u64 (l0 (y) : Int), .int .u64 (l1 (y) : Int), .int .u64 (l2 (y) : Int), .int .u64 (l3 (y) : Int), .int .u64 (l0 (z) : Int), .int .u64 (l1 (z) : Int), .int .u64 (l2 (z) : Int), .int .u64 (l3 (z) : Int)]) 26 v71 wn := hv 3 _ rfl
  obtain rfl : v72 = .agg #[.int .u64 (l0 (S2) : Int), .int .u64 (l1 (S2) : Int), .int .u64 (l2 (S2) : Int), .int .u64 (l3 (S2) : Int)] := hv 4 _ rfl
  obtain ⟨g73, hg73, hr73⟩ : IsS 2 ([.int .u64 (l0 (x) : Int), .int .u64 (l1 (x) : Int), .int .u64 (l2 (x) : Int), .int .u64 (l3 (x) : Int), .int .u64 (l0 (S2) : Int), .int .u64 (l1 (S2) : Int), .int .u64 (l2 (S2) : Int), .int .u64 (l3 (S2) : Int)]) 26 v73 wn := hv 5 _ rfl
  obtain rfl : v74 = .agg #[.int .u64 (l0 (D) : Int), .int .u64 (l1 (D) : Int), .int .u64 (l2 (D) : Int), .int .u64 (l3 (D) : Int)] := hv 6 _ rfl
  obtain rfl : v75 = .agg #[.int .u64 (l0 (x) : Int), .int .u64 (l1 (x) : Int), .int .u64 (l2 (x) : Int), .int .u64 (l3 (x) : Int)] := hv 7 _ rfl
  obtain rfl : v76 = .agg #[.int .u64 (l0 (y) : Int), .int .u64 (l1 (y) : Int), .int .u64 (l2 (y) : Int), .int .u64 (l3 (y) : Int)] := hv 8 _ rfl
  obtain ⟨g77, hg77, hr77⟩ : IsS 2 ([.int .u64 (l0 (x) : Int), .int .u64 (l1 (x) : Int), .int .u64 (l2 (x) : Int), .int .u64 (l3 (x) : Int), .int .u64 (l0 (y) : Int), .int .u64 (l1 (y) : Int), .int .u64 (l2 (y) : Int), .int .u64 (l3 (y) : Int)]) 26 v77 wn := hv 9 _ rfl
  obtain rfl : v78 = .agg #[.int .u64 (l0 (P1) : Int), .int .u64 (l1 (P1) : Int), .int .u64 (l2 (P1) : Int), .int .u64 (l3 (P1) : Int)] := hv 10 _ rfl
  obtain rfl : v79 = .agg #[.int .u64 (l0 (x) : Int), .int .u64 (l1 (x) : Int), .int .u64 (l2 (x) : Int), .int .u64 (l3 (x) : Int)] := hv 11 _ rfl
  obtain rfl : v80 = .agg #[.int .u64 (l0 (z) : Int), .int .u64 (l1 (z) : Int), .int .u64 (l2 (z) : Int), .int .u64 (l3 (z) : Int)] := hv 12 _ rfl
  obtain ⟨g81, hg81, hr81⟩ : IsS 2 ([.int .u64 (l0 (x) : Int), .int .u64 (l1 (x) : Int), .int .u64 (l2 (x) : Int), .int .u64 (l3 (x) : Int), .int .u64 (l0 (z) : Int), .int .u64 (l1 (z) : Int), .int .u64 (l2 (z) : Int), .int .u64 (l3 (z) : Int)]) 26 v81 wn := hv 13 _ rfl
  obtain rfl : v82 = .agg #[.int .u64 (l0 (P2) : Int), .int .u64 (l1 (P2) : Int), .int .u64 (l2 (P2) : Int), .int .u64 (l3 (P2) : Int)] := hv 14 _ rfl
  obtain ⟨g83, hg83, hr83⟩ : IsS 2 ([.int .u64 (l0 (P1) : Int), .int .u64 (l1 (P1) : Int), .int .u64 (l2 (P1) : Int), .int .u64 (l3 (P1) : Int), .int .u64 (l0 (P2) : Int), .int .u64 (l1 (P2) : Int), .int .u64 (l2 (P2) : Int), .int .u64 (l3 (P2) : Int)]) 26 v83 wn := hv 15 _ rfl
  obtain rfl : v84 = .agg #[.int .u64 (l0 (D) : Int), .int .u64 (l1 (D) : Int), .int .u64 (l2 (D) : Int), .int .u64 (l3 (D) : Int)] := hv 16 _ rfl
  obtain rfl : v85 = .bool false := hv 17 _ rfl
  obtain rfl : v86 = .bool false := hv 18 _ rfl
  obtain rfl : v87 = .agg #[.int .u64 (l0 (x) : Int), .int .u64 (l1 (x) : Int), .int .u64 (l2 (x) : Int), .int .u64 (l3 (x) : Int)] := hv 19 _ rfl
  obtain rfl : v88 = .agg #[.int .u64 (l0 (y) : Int), .int .u64 (l1 (y) : Int), .int .u64 (l2 (y) : Int), .int .u64 (l3 (y) : Int)] := hv 20 _ rfl
  obtain ⟨g89, hg89, hr89⟩ : IsS 2 ([.int .u64 (l0 (x) : Int), .int .u64 (l1 (x) : Int), .int .u64 (l2 (x) : Int), .int .u64 (l3 (x) : Int), .int .u64 (l0 (y) : Int), .int .u64 (l1 (y) : Int), .int .u64 (l2 (y) : Int), .int .u64 (l3 (y) : Int)]) 26 v89 wn := hv 21 _ rfl
  obtain rfl : v90 = .agg #[.int .u64 (l0 (S1) : Int), .int .u64 (l1 (S1) : Int), .int .u64 (l2 (S1) : Int), .int .u64 (l3 (S1) : Int)] := hv 22 _ rfl
  obtain rfl : v91 = .agg #[.int .u64 (l0 (y) : Int), .int .u64 (l1 (y) : Int), .int .u64 (l2 (y) : Int), .int .u64 (l3 (y) : Int)] := hv 23 _ rfl
  obtain rfl : v92 = .agg #[.int .u64 (l0 (N) : Int), .int .u64 (l1 (N) : Int), .int .u64 (l2 (N) : Int), .int .u64 (l3 (N) : Int)] := hv 24 _ rfl
  obtain rfl : v93 = .agg #[.int .u64 (l0 (x) : Int), .int .u64 (l1 (x) : Int), .int .u64 (l2 (x) : Int), .int .u64 (l3 (x) : Int)] := hv 25 _ rfl
  obtain rfl : v94 = .agg #[.int .u64 (l0 (N) : Int), .int .u64 (l1 (N) : Int), .int .u64 (l2 (N) : Int), .int .u64 (l3 (N) : Int)] := hv 26 _ rfl
  obtain rfl : v95 = .bool false := hv 27 _ rfl
  obtain rfl : v96 = .bool false := hv 28 _ rfl
  obtain rfl : v97 = .bool false := hv 29 _ rfl
  obtain rfl : v98 = .agg #[.int .u64 (l0 (x) : Int), .int .u64 (l1 (x) : Int), .int .u64 (l2 (x) : Int), .int .u64 (l3 (x) : Int)] := hv 30 _ rfl
  obtain rfl : v99 = .agg #[.int .u64 (l0 (y) : Int), .int .u64 (l1 (y) : Int), .int .u64 (l2 (y) : Int), .int .u64 (l3 (y) : Int)] := hv 31 _ rfl
  obtain rfl : v100 = .agg #[.int .u64 (l0 (B1) : Int), .int .u64 (l1 (B1) : Int), .int .u64 (l2 (B1) : Int), .int .u64 (l3 (B1) : Int)] := hv 32 _ rfl
  obtain rfl : v101 = .agg #[.int .u64 (l0 (y) : Int), .int .u64 (l1 (y) : Int), .int .u64 (l2 (y) : Int), .int .u64 (l3 (y) : Int)] := hv 33 _ rfl
  obtain ⟨g102, hg102, hr102⟩ : IsS 2 ([.int .u64 (l0 (B1) : Int), .int .u64 (l1 (B1) : Int), .int .u64 (l2 (B1) : Int), .int .u64 (l3 (B1) : Int), .int .u64 (l0 (y) : Int), .int .u64 (l1 (y) : Int), .int .u64 (l2 (y) : Int), .int .u64 (l3 (y) : Int)]) 26 v102 wn := hv 34 _ rfl
  obtain rfl : v103 = .agg #[.int .u64 (l0 (N) : Int), .int .u64 (l1 (N) : Int), .int .u64 (l2 (N) : Int), .int .u64 (l3 (N) : Int)] := hv 35 _ rfl
  obtain rfl : v104 = .agg #[.int .u64 (l0 (x) : Int), .int .u64 (l1 (x) : Int), .int .u64 (l2 (x) : Int), .int .u64 (l3 (x) : Int)] := hv 36 _ rfl
  obtain rfl : v105 = .agg #[.int .u64 (l0 (N) : Int), .int .u64 (l1 (N) : Int), .int .u64 (l2 (N) : Int), .int .u64 (l3 (N) : Int)] := hv 37 _ rfl
  obtain rfl : v106 = .bool false := hv 38 _ rfl
  obtain rfl : v107 = .bool false := hv 39 _ rfl
  subst hg71
  subst hg73
  subst hg77
  subst hg81
  subst hg83
  subst hg89
  subst hg102
  clear hvs hv hne
  simp only [List.zip_cons_cons, List.zip_nil_right, List.zip_nil_left, puts, Act.put, List.setIfInBounds_toArray, List.set_cons_zero, List.set_cons_succ]
  have hz : W4_.heap.size ≤ wn.heap.size := hbr.size
  have nB_W6_ := Lib.hid (nB_W4_.out.trans (hbr.mono nB_W4_.out.size))
  have nnHg7 := Lib.hid (nHg7.out.upS hbr)
  have nnHg8 := Lib.hid (nHg8.out.upS hbr)
  have nnHg9 := Lib.hid (nHg9.out.upS hbr)
  refine wpAny_done (by kernel_rfl) ?_ _
  clear hbr hz    hr71 hr73 hr77 hr81 hr83 hr89 hr102
  generalize wn = W6_ at *
  clear nB_W4_ nHg7 nHg8 nHg9
  go_upto_region 8 with fail
  refine wp_region_mono 15 [108, 109, 110, 111, 112, 113, 114, 115, 116, 117, 118, 119, 120, 121, 122] (phi [IsV (.agg #[.int .u64 (l0 (x) : Int), .int .u64 (l1 (x) : Int), .int .u64 (l2 (x) : Int), .int .u64 (l3 (x) : Int)]), IsV (.agg #[.int .u64 (l0 (Q) : Int), .int .u64 (l1 (Q) : Int), .int .u64 (l2 (Q) : Int), .int .u64 (l3 (Q) : Int)]), IsV (.agg #[.int .u64 (l0 (x) : Int), .int .u64 (l1 (x) : Int), .int .u64 (l2 (x) : Int), .int .u64 (l3 (x) : Int)]), IsV (.agg #[.int .u64 (l0 (x) : Int), .int .u64 (l1 (x) : Int), .int .u64 (l2 (x) : Int), .int .u64 (l3 (x) : Int)]), IsS 2 ([.int .u64 (l0 (x) : Int), .int .u64 (l1 (x) : Int), .int .u64 (l2 (x) : Int), .int .u64 (l3 (x) : Int), .int .u64 (l0 (x) : Int), .int .u64 (l1 (x) : Int), .int .u64 (l2 (x) : Int), .int .u64 (l3 (x) : Int)]) 26, IsV (.agg #[.int .u64 (l0 (Q) : Int), .int .u64 (l1 (Q) : Int), .int .u64 (l2 (Q) : Int), .int .u64 (l3 (Q) : Int)]), IsV (.bool false), IsV (.bool false), IsV (.agg #[.int .u64 (l0 (x) : Int), .int .u64 (l1 (x) : Int), .int .u64 (l2 (x) : Int), .int .u64 (l3 (x) : Int)]), IsV (.agg #[.int .u64 (l0 (N) : Int), .int .u64 (l1 (N) : Int), .int .u64 (l2 (N) : Int), .int .u64 (l3 (N) : Int)]), IsV (.agg #[.int .u64 (l0 (N) : Int), .int .u64 (l1 (N) : Int), .int .u64 (l2 (N) : Int), .int .u64 (l3 (N) : Int)]), IsV (.agg #[.int .u64 (l0 (x) : Int), .int .u64 (l1 (x) : Int), .int .u64 (l2 (x) : Int), .int .u64 (l3 (x) : Int)]), IsV (.agg #[.int .u64 (l0 (N) : Int), .int .u64 (l1 (N) : Int), .int .u64 (l2 (N) : Int), .int .u64 (l3 (N) : Int)]), IsV (.bool false), IsV (.bool false)]) [] rfl (by kernel_rfl) rfl rfl (by kernel_rfl) rfl (by kernel_rfl) (by kernel_rfl) (phi_mono (by repeat (first | exact mono_v _ | exact mono_r _ _ _ | exact mono_s _ _ _ | exact trivial | refine ⟨?_, ?_⟩))) ?_ ?_
  · intro i hi
    rcases (show i = 0 ∨ i = 1 ∨ i = 2 ∨ i = 3 ∨ i = 4 ∨ i = 5 ∨ i = 6 ∨ i = 7 ∨ i = 8 ∨ i = 9 ∨ i = 10 ∨ i = 11 ∨ i = 12 ∨ i = 13 ∨ i = 14 by omega) with rfl | rfl | rfl | rfl | rfl | rfl | rfl | rfl | rfl | rfl | rfl | rfl | rfl | rfl | rfl
    · intro ac W hB hst hdep
      have e7 : ac.tmps[7]? = some (.pointer (some ⟨g7, 0, none⟩)) := hst 7 (by decide)
      exact st_load rfl (wanted_no rfl) 26 (.tmp 7) rfl (eval_of e7) ([.int .u64 (l0 (x) : Int), .int .u64 (l1 (x) : Int), .int .u64 (l2 (x) : Int), .int .u64 (l3 (x) : Int)]) _ ((RowL.upS (w := W6_.drew) nnHg7.out hB).range 0 _ rfl) undEl rfl (by kernel_rfl) rfl (notE rfl)
    · intro ac W hB hst hdep
      obtain ⟨x108, e108, h108⟩ := hdep 0 (memE (by kernel_rfl)) 108 rfl
      replace h108 : x108 = .agg #[.int .u64 (l0 (x) : Int), .int .u64 (l1 (x) : Int), .int .u64 (l2 (x) : Int), .int .u64 (l3 (x) : Int)] := h108
      subst h108
      exact st_call rfl (wanted_no rfl) rfl (show (#[.tmp 108] : Array Operand).map ac.eval = (#[.agg #[.int .u64 (l0 (x) : Int), .int .u64 (l1 (x) : Int), .int .u64 (l2 (x) : Int), .int .u64 (l3 (x) : Int)]] : Array Value) by simp only [List.map_toArray, List.map_cons, List.map_nil, Act.eval_const, eval_of e108]) (fun _ => by kernel_rfl) (Calls.mono (sqK Zx.out E109.out) fun e w' h => ⟨_, h.1, h.2, rfl⟩) (notE rfl)
    · intro ac W hB hst hdep
      have e7 : ac.tmps[7]? = some (.pointer (some ⟨g7, 0, none⟩)) := hst 7 (by decide)
      exact st_load rfl (wanted_no rfl) 26 (.tmp 7) rfl (eval_of e7) ([.int .u64 (l0 (x) : Int), .int .u64 (l1 (x) : Int), .int .u64 (l2 (x) : Int), .int .u64 (l3 (x) : Int)]) _ ((RowL.upS (w := W6_.drew) nnHg7.out hB).range 0 _ rfl) undEl rfl (by kernel_rfl) rfl (notE rfl)
    · intro ac W hB hst hdep
      have e7 : ac.tmps[7]? = some (.pointer (some ⟨g7, 0, none⟩)) := hst 7 (by decide)
      exact st_load rfl (wanted_no rfl) 26 (.tmp 7) rfl (eval_of e7) ([.int .u64 (l0 (x) : Int), .int .u64 (l1 (x) : Int), .int .u64 (l2 (x) : Int), .int .u64 (l3 (x) : Int)]) _ ((RowL.upS (w := W6_.drew) nnHg7.out hB).range 0 _ rfl) undEl rfl (by kernel_rfl) rfl (notE rfl)
    · intro ac W hB hst hdep
      obtain ⟨x110, e110, h110⟩ := hdep 2 (memE (by kernel_rfl)) 110 rfl
      replace h110 : x110 = .agg #[.int .u64 (l0 (x) : Int), .int .u64 (l1 (x) : Int), .int .u64 (l2 (x) : Int), .int .u64 (l3 (x) : Int)] := h110
      subst h110
      obtain ⟨x111, e111, h111⟩ := hdep 3 (memE (by kernel_rfl)) 111 rfl
      replace h111 : x111 = .agg #[.int .u64 (l0 (x) : Int), .int .u64 (l1 (x) : Int), .int .u64 (l2 (x) : Int), .int .u64 (l3 (x) : Int)] := h111
      subst h111
      exact st_bs rfl (wanted_no rfl) 86 26 2 _ rfl (show (#[(0, .tmp 110), (1, .tmp 111)] : Array (Nat × Operand)).map (fun (i, x) => (i, ac.eval x)) = #[(0, .agg #[.int .u64 (l0 (x) : Int), .int .u64 (l1 (x) : Int), .int .u64 (l2 (x) : Int), .int .u64 (l3 (x) : Int)]), (1, .agg #[.int .u64 (l0 (x) : Int), .int .u64 (l1 (x) : Int), .int .u64 (l2 (x) : Int), .int .u64 (l3 (x) : Int)])] by simp only [List.map_toArray, List.map_cons, List.map_nil, eval_of e110, eval_of e111]) (bsEl2 (x) (x)) ⟨_, rfl, heap_alloc_new _ _⟩ (notE rfl)
    · intro ac W hB hst hdep
      obtain ⟨x112, e112, h112⟩ := hdep 4 (memE (by kernel_rfl)) 112 rfl
      obtain ⟨g112, hg112, r112⟩ := (h112 : IsS 2 ([.int .u64 (l0 (x) : Int), .int .u64 (l1 (x) : Int), .int .u64 (l2 (x) : Int), .int .u64 (l3 (x) : Int), .int .u64 (l0 (x) : Int), .int .u64 (l1 (x) : Int), .int .u64 (l2 (x) : Int), .int .u64 (l3 (x) : Int)]) 26 _ _)
      subst hg112
      exact st_call rfl (wanted_no rfl) rfl (show (#[.tmp 112] : Array Operand).map ac.eval = (#[.slice (some ⟨g112, 0, none⟩) 2 2] : Array Value) by simp only [List.map_toArray, List.map_cons, List.map_nil, Act.eval_const, eval_of e112]) (fun _ => by kernel_rfl) (Calls.mono (prodK2 Zx.out Zx.out E113.out r112) fun e w' h => ⟨_, h.1, h.2, rfl⟩) (notE rfl)
    · intro ac W hB hst hdep
      obtain ⟨x109, e109, h109⟩ := hdep 1 (memE (by kernel_rfl)) 109 rfl
      replace h109 : x109 = .agg #[.int .u64 (l0 (Q) : Int), .int .u64 (l1 (Q) : Int), .int .u64 (l2 (Q) : Int), .int .u64 (l3 (Q) : Int)] := h109
      subst h109
      obtain ⟨x113, e113, h113⟩ := hdep 5 (memE (by kernel_rfl)) 113 rfl
      replace h113 : x113 = .agg #[.int .u64 (l0 (Q) : Int), .int .u64 (l1 (Q) : Int), .int .u64 (l2 (Q) : Int), .int .u64 (l3 (Q) : Int)] := h113
      subst h113
      exact st_bin rfl (wanted_no rfl) .neq 26 26 (.tmp 109) (.tmp 113) rfl (eval_of e109) (eval_of e113) (fun W => neqSame (Q) (by first | exact ZQ.out | decide) W) rfl (notE rfl)
    · intro ac W hB hst hdep
      obtain ⟨x114, e114, h114⟩ := hdep 6 (memE (by kernel_rfl)) 114 rfl
      replace h114 : x114 = .bool false := h114
      subst h114
      exact st_move rfl (wanted_no rfl) (.tmp 114) (.inl rfl) (eval_of e114) rfl (notE rfl)
    · intro ac W hB hst hdep
      have e7 : ac.tmps[7]? = some (.pointer (some ⟨g7, 0, none⟩)) := hst 7 (by decide)
      obtain ⟨x115, e115, h115⟩ := hdep 7 (memE (by kernel_rfl)) 115 rfl
      replace h115 : x115 = .bool false := h115
      subst h115
      exact st_load rfl (wanted_yes rfl rfl rfl e115) 26 (.tmp 7) rfl (eval_of e7) ([.int .u64 (l0 (x) : Int), .int .u64 (l1 (x) : Int), .int .u64 (l2 (x) : Int), .int .u64 (l3 (x) : Int)]) _ ((RowL.upS (w := W6_.drew) nnHg7.out hB).range 0 _ rfl) undEl rfl (by kernel_rfl) rfl (notE rfl)
    · intro ac W hB hst hdep
      obtain ⟨x116, e116, h116⟩ := hdep 8 (memE (by kernel_rfl)) 116 rfl
      replace h116 : x116 = .agg #[.int .u64 (l0 (x) : Int), .int .u64 (l1 (x) : Int), .int .u64 (l2 (x) : Int), .int .u64 (l3 (x) : Int)] := h116
      subst h116
      obtain ⟨x115, e115, h115⟩ := hdep 7 (memE (by kernel_rfl)) 115 rfl
      replace h115 : x115 = .bool false := h115
      subst h115
      exact st_call rfl (wanted_yes rfl rfl rfl e115) rfl (show (#[.tmp 116] : Array Operand).map ac.eval = (#[.agg #[.int .u64 (l0 (x) : Int), .int .u64 (l1 (x) : Int), .int .u64 (l2 (x) : Int), .int .u64 (l3 (x) : Int)]] : Array Value) by simp only [List.map_toArray, List.map_cons, List.map_nil, Act.eval_const, eval_of e116]) (fun _ => by kernel_rfl) (Calls.mono (normK Zx.out E117.out) fun e w' h => ⟨_, h.1, h.2, rfl⟩) (notE rfl)
    · intro ac W hB hst hdep
      obtain ⟨x117, e117, h117⟩ := hdep 9 (memE (by kernel_rfl)) 117 rfl
      replace h117 : x117 = .agg #[.int .u64 (l0 (N) : Int), .int .u64 (l1 (N) : Int), .int .u64 (l2 (N) : Int), .int .u64 (l3 (N) : Int)] := h117
      subst h117
      obtain ⟨x115, e115, h115⟩ := hdep 7 (memE (by kernel_rfl)) 115 rfl
      replace h115 : x115 = .bool false := h115
      subst h115
      exact st_call rfl (wanted_yes rfl rfl rfl e115) rfl (show (#[.tmp 117] : Array Operand).map ac.eval = (#[.agg #[.int .u64 (l0 (N) : Int), .int .u64 (l1 (N) : Int), .int .u64 (l2 (N) : Int), .int .u64 (l3 (N) : Int)]] : Array Value) by simp only [List.map_toArray, List.map_cons, List.map_nil, Act.eval_const, eval_of e117]) (fun _ => by kernel_rfl) (Calls.mono (normK ZN.out E118.out) fun e w' h => ⟨_, h.1, h.2, rfl⟩) (notE rfl)
    · intro ac W hB hst hdep
      have e7 : ac.tmps[7]? = some (.pointer (some ⟨g7, 0, none⟩)) := hst 7 (by decide)
      obtain ⟨x115, e115, h115⟩ := hdep 7 (memE (by kernel_rfl)) 115 rfl
      replace h115 : x115 = .bool false := h115
      subst h115
      exact st_load rfl (wanted_yes rfl rfl rfl e115) 26 (.tmp 7) rfl (eval_of e7) ([.int .u64 (l0 (x) : Int), .int .u64 (l1 (x) : Int), .int .u64 (l2 (x) : Int), .int .u64 (l3 (x) : Int)]) _ ((RowL.upS (w := W6_.drew) nnHg7.out hB).range 0 _ rfl) undEl rfl (by kernel_rfl) rfl (notE rfl)
    · intro ac W hB hst hdep
      obtain ⟨x119, e119, h119⟩ := hdep 11 (memE (by kernel_rfl)) 119 rfl
      replace h119 : x119 = .agg #[.int .u64 (l0 (x) : Int), .int .u64 (l1 (x) : Int), .int .u64 (l2 (x) : Int), .int .u64 (l3 (x) : Int)] := h119
      subst h119
      obtain ⟨x115, e115, h115⟩ := hdep 7 (memE (by kernel_rfl)) 115 rfl
      replace h115 : x115 = .bool false := h115
      subst h115
      exact st_call rfl (wanted_yes rfl rfl rfl e115) rfl (show (#[.tmp 119] : Array Operand).map ac.eval = (#[.agg #[.int .u64 (l0 (x) : Int), .int .u64 (l1 (x) : Int), .int .u64 (l2 (x) : Int), .int .u64 (l3 (x) : Int)]] : Array Value) by simp only [List.map_toArray, List.map_cons, List.map_nil, Act.eval_const, eval_of e119]) (fun _ => by kernel_rfl) (Calls.mono (normK Zx.out E120.out) fun e w' h => ⟨_, h.1, h.2, rfl⟩) (notE rfl)
    · intro ac W hB hst hdep
      obtain ⟨x118, e118, h118⟩ := hdep 10 (memE (by kernel_rfl)) 118 rfl
      replace h118 : x118 = .agg #[.int .u64 (l0 (N) : Int), .int .u64 (l1 (N) : Int), .int .u64 (l2 (N) : Int), .int .u64 (l3 (N) : Int)] := h118
      subst h118
      obtain ⟨x120, e120, h120⟩ := hdep 12 (memE (by kernel_rfl)) 120 rfl
      replace h120 : x120 = .agg #[.int .u64 (l0 (N) : Int), .int .u64 (l1 (N) : Int), .int .u64 (l2 (N) : Int), .int .u64 (l3 (N) : Int)] := h120
      subst h120
      obtain ⟨x115, e115, h115⟩ := hdep 7 (memE (by kernel_rfl)) 115 rfl
      replace h115 : x115 = .bool false := h115
      subst h115
      exact st_bin rfl (wanted_yes rfl rfl rfl e115) .neq 26 26 (.tmp 118) (.tmp 120) rfl (eval_of e118) (eval_of e120) (fun W => neqSame (N) (by first | exact ZN.out | decide) W) rfl (notE rfl)
    · intro ac W hB hst hdep
      obtain ⟨x115, e115, h115⟩ := hdep 7 (memE (by kernel_rfl)) 115 rfl
      replace h115 : x115 = .bool false := h115
      subst h115
      obtain ⟨x121, e121, h121⟩ := hdep 13 (memE (by kernel_rfl)) 121 rfl
      replace h121 : x121 = .bool false := h121
      subst h121
      exact st_pick rfl (wanted_no rfl) (.tmp 115) (.const (.bool true)) (.tmp 121) rfl (eval_of e115) (eval_of e121) rfl (notE rfl)
  intro vs hvs wn hbr hv hne
  obtain ⟨v108, v109, v110, v111, v112, v113, v114, v115, v116, v117, v118, v119, v120, v121, v122, rfl⟩ := listf15 vs hvs
  obtain rfl : v108 = .agg #[.int .u64 (l0 (x) : Int), .int .u64 (l1 (x) : Int), .int .u64 (l2 (x) : Int), .int .u64 (l3 (x) : Int)] := hv 0 _ rfl
  obtain rfl : v109 = .agg #[.int .u64 (l0 (Q) : Int), .int .u64 (l1 (Q) : Int), .int .u64 (l2 (Q) : Int), .int .u64 (l3 (Q) : Int)] := hv 1 _ rfl
  obtain rfl : v110 = .agg #[.int .u64 (l0 (x) : Int), .int .u64 (l1 (x) : Int), .int .u64 (l2 (x) : Int), .int .u64 (l3 (x) : Int)] := hv 2 _ rfl
  obtain rfl : v111 = .agg #[.int .u64 (l0 (x) : Int), .int .u64 (l1 (x) : Int), .int .u64 (l2 (x) : Int), .int .u64 (l3 (x) : Int)] := hv 3 _ rfl
  obtain ⟨g112, hg112, hr112⟩ : IsS 2 ([.int .u64 (l0 (x) : Int), .int .u64 (l1 (x) : Int), .int .u64 (l2 (x) : Int), .int .u64 (l3 (x) : Int), .int .u64 (l0 (x) : Int), .int .u64 (l1 (x) : Int), .int .u64 (l2 (x) : Int), .int .u64 (l3 (x) : Int)]) 26 v112 wn := hv 4 _ rfl
  obtain rfl : v113 = .agg #[.int .u64 (l0 (Q) : Int), .int .u64 (l1 (Q) : Int), .int .u64 (l2 (Q) : Int), .int .u64 (l3 (Q) : Int)] := hv 5 _ rfl
  obtain rfl : v114 = .bool false := hv 6 _ rfl
  obtain rfl : v115 = .bool false := hv 7 _ rfl
  obtain rfl : v116 = .agg #[.int .u64 (l0 (x) : Int), .int .u64 (l1 (x) : Int), .int .u64 (l2 (x) : Int), .int .u64 (l3 (x) : Int)] := hv 8 _ rfl
  obtain rfl : v117 = .agg #[.int .u64 (l0 (N) : Int), .int .u64 (l1 (N) : Int), .int .u64 (l2 (N) : Int), .int .u64 (l3 (N) : Int)] := hv 9 _ rfl
  obtain rfl : v118 = .agg #[.int .u64 (l0 (N) : Int), .int .u64 (l1 (N) : Int), .int .u64 (l2 (N) : Int), .int .u64 (l3 (N) : Int)] := hv 10 _ rfl
  obtain rfl : v119 = .agg #[.int .u64 (l0 (x) : Int), .int .u64 (l1 (x) : Int), .int .u64 (l2 (x) : Int), .int .u64 (l3 (x) : Int)] := hv 11 _ rfl
  obtain rfl : v120 = .agg #[.int .u64 (l0 (N) : Int), .int .u64 (l1 (N) : Int), .int .u64 (l2 (N) : Int), .int .u64 (l3 (N) : Int)] := hv 12 _ rfl
  obtain rfl : v121 = .bool false := hv 13 _ rfl
  obtain rfl : v122 = .bool false := hv 14 _ rfl
  subst hg112
  clear hvs hv hne
  simp only [List.zip_cons_cons, List.zip_nil_right, List.zip_nil_left, puts, Act.put, List.setIfInBounds_toArray, List.set_cons_zero, List.set_cons_succ]
  have hz : W6_.heap.size ≤ wn.heap.size := hbr.size
  have nB_W8_ := Lib.hid (nB_W6_.out.trans (hbr.mono nB_W6_.out.size))
  have nnnHg7 := Lib.hid (nnHg7.out.upS hbr)
  have nnnHg8 := Lib.hid (nnHg8.out.upS hbr)
  have nnnHg9 := Lib.hid (nnHg9.out.upS hbr)
  refine wpAny_done (by kernel_rfl) ?_ _
  clear hbr hz    hr112
  generalize wn = W8_ at *
  clear nB_W6_ nnHg7 nnHg8 nnHg9
  have p0 := cell_of_row _ _ 0 _ _ _ nnnHg7.out
  have p1 := cell_of_row _ _ 1 _ _ _ nnnHg7.out
  have p2 := cell_of_row _ _ 2 _ _ _ nnnHg7.out
  have p3 := cell_of_row _ _ 3 _ _ _ nnnHg7.out
  simp at p0 p1 p2 p3
  have C10 := Lib.hid (invK (W := W8_) Zx.out E124.out)
  go_wp2_with fail
  with_reducible refine (C10.out).mono ?_
  rintro e10 v10 ⟨rfl, hb10⟩
  obtain ⟨W10, hW10⟩ : ∃ W10, W10 = v10.alloc (.cells ([.int .u64 (l0 (J) : Int), .int .u64 (l1 (J) : Int), .int .u64 (l2 (J) : Int), .int .u64 (l3 (J) : Int)] : List Value).toArray 26) := ⟨_, rfl⟩
  obtain ⟨g10, hg10⟩ : ∃ g10, g10 = v10.heap.size := ⟨_, rfl⟩
  have ha10 : Below v10.heap.size v10 W10 := by rw [hW10]; exact (Below.refl _ _).alloc (Nat.le_refl _) _
  have hc10 : Below W8_.heap.size W8_ W10 := hb10.trans (ha10.mono hb10.size)
  have Hg10 : Hid (RowL W10 g10 [.int .u64 (l0 (J) : Int), .int .u64 (l1 (J) : Int), .int .u64 (l2 (J) : Int), .int .u64 (l3 (J) : Int)] 26) := Lib.hid (by rw [hW10, hg10]; exact RowL.new _ _ _)
  have n7 := Lib.hid (nnnHg7.out.upS hc10)
  have HB10 := Lib.hid (nB_W8_.out.trans (hc10.mono nB_W8_.out.size))
  have HW10 := Lib.hid hW10; have HG10 := Lib.hid hg10
  clear hb10 ha10 hc10 hW10 hg10 C10 p0 p1 p2 p3 nB_W8_ nnnHg7 nnnHg8 nnnHg9
  go_upto_region 11 with fail
  rw [show _ = W10 from HW10.out.symm, show _ = g10 from HG10.out.symm]
  clear HW10 HG10
  have p0 := cell_of_row _ _ 0 _ _ _ n7.out
  have p1 := cell_of_row _ _ 1 _ _ _ n7.out
  have p2 := cell_of_row _ _ 2 _ _ _ n7.out
  have p3 := cell_of_row _ _ 3 _ _ _ n7.out
  simp at p0 p1 p2 p3
  obtain ⟨bz, hbz⟩ : ∃ bz, bz = decide (x % PP = 0 % PP) := ⟨_, rfl⟩
  have CI : Hid (Calls Try.prog 27 #[.agg #[.int .u64 (l0 (x) : Int), .int .u64 (l1 (x) : Int), .int .u64 (l2 (x) : Int), .int .u64 (l3 (x) : Int)], .agg #[.int .u64 0, .int .u64 0, .int .u64 0, .int .u64 0]] W10 fun e w' => e = .returned (.bool bz) ∧ Below W10.heap.size W10 w') := Lib.hid (by rw [hbz]; exact isE (V := x) (U := 0) Zx.out (by decide) W10)
  have HBZ := Lib.hid hbz
  clear hbz
  go_wp2_with fail
  with_reducible refine (CI.out).mono ?_
  rintro e11 W11 ⟨rfl, hb11⟩
  have m7 := Lib.hid (n7.out.upS hb11); have m10 := Lib.hid (Hg10.out.upS hb11); have HB11 := Lib.hid (HB10.out.trans (hb11.mono HB10.out.size))
  clear hb11 CI p0 p1 p2 p3 n7 Hg10 HB10
  cases bz with
  | true =>
    have hnz : x % PP = 0 := of_decide_eq_true HBZ.out.symm
    have hJ : J = 0 := by rw [QJ.out]; exact fl_inv0 hnz
    have hq : ∀ W, (binOp .eql 26 (.agg #[.int .u64 (l0 (J) : Int), .int .u64 (l1 (J) : Int), .int .u64 (l2 (J) : Int), .int .u64 (l3 (J) : Int)]) (.agg #[.int .u64 0, .int .u64 0, .int .u64 0, .int .u64 0])).run Try.prog W = .ok (.bool true) W := fun W => by have h := run_eqlE (V := J) (U := 0) ZJ.out (by decide) W; rw [decide_eq_true hJ] at h; exact h
    clear hJ hnz
    have s0 := cell_of_row _ _ 0 _ _ _ m10.out
    have s1 := cell_of_row _ _ 1 _ _ _ m10.out
    have s2 := cell_of_row _ _ 2 _ _ _ m10.out
    have s3 := cell_of_row _ _ 3 _ _ _ m10.out
    simp at s0 s1 s2 s3
    go_wp2
    go_ret
    exact ⟨rfl, HB11.out⟩
  | false =>
    have hnz : x % PP ≠ 0 := of_decide_eq_false HBZ.out.symm
    have E148 : Hid (O1 = prodP [x, J]) := Lib.hid (by rw [QO1.out, QJ.out]; exact (fl_inv1 hnz).symm)
    have E149 : Hid (O1 = 1) := Lib.hid (QO1.out)
    have E153 : Hid (N = invP J) := Lib.hid (by rw [QN.out, QJ.out]; exact (fl_invinv hnz).symm)
    have E155 : Hid (N = x % PP) := Lib.hid (QN.out)
    have E161 : Hid (O1 = x ^ numL eFer % PP) := Lib.hid (by rw [QO1.out]; exact (fl_fer hnz).symm)
    have E162 : Hid (O1 = 1) := Lib.hid (QO1.out)
    have hmk := mk32
    clear hnz
    go_upto_region 14 with fail
    clear hmk
    obtain ⟨g11, hg11⟩ : ∃ g11, g11 = W11.heap.size := ⟨_, rfl⟩
    obtain ⟨W12, hW12⟩ : ∃ W12, W12 = W11.alloc (.cells (madeCells #[Value.int .u8 0] 32) 5) := ⟨_, rfl⟩
    have ha : Below W11.heap.size W11 W12 := by rw [hW12]; exact (Below.refl _ _).alloc (Nat.le_refl _) _
    have hbw : Bw W12 g11 5 (ffs 0) := by rw [hW12, hg11]; exact bw32 W11
    have r7 := Lib.hid (m7.out.upS ha); have r10 := Lib.hid (m10.out.upS ha); have HB12 := Lib.hid (HB11.out.trans (ha.mono HB11.out.size)); have HBW := Lib.hid hbw
    have l7 : Hid (g7 < g11) := Lib.hid (by rw [hg11]; exact m7.out.lt)
    have l10 : Hid (g10 < g11) := Lib.hid (by rw [hg11]; exact m10.out.lt)
    have lw0 : Hid (w.heap.size ≤ g11) := Lib.hid (by rw [hg11]; exact HB11.out.size)
    have HW12 := Lib.hid hW12; have HG11 := Lib.hid hg11
    clear ha hbw hW12 hg11 m7 m10 HB11
    rw [show _ = W12 from HW12.out.symm, show _ = g11 from HG11.out.symm]
    clear HW12 HG11
    go_wp2_with fail
    go_loopw [134] (fun i wr => ∃ k : Nat, k ≤ 32 ∧ i = .int .i64 (k : Int) ∧ Hid (Bw wr g11 5 (ffs k)) ∧ Hid (RowL wr g7 [.int .u64 (l0 (x) : Int), .int .u64 (l1 (x) : Int), .int .u64 (l2 (x) : Int), .int .u64 (l3 (x) : Int)] 26) ∧ Hid (RowL wr g10 [.int .u64 (l0 (J) : Int), .int .u64 (l1 (J) : Int), .int .u64 (l2 (J) : Int), .int .u64 (l3 (J) : Int)] 26) ∧ Hid (Below w.heap.size w wr)) (fun i _ => 32 - (intOf i).toNat)
    case atStart => exact ⟨0, Nat.zero_le _, rfl, HBW, r7, r10, HB12⟩
    case round =>
      obtain ⟨k, hk, rfl, hbw, h7, h10, hbe⟩ := hrel
      clear HBW r7 r10 HB12
      by_cases hlt : k < 32
      · have hkI : (k : Int) < 32 := by omega
        have hk0 : (0 : Int) ≤ (k : Int) := by omega
        obtain ⟨c0, f0, s0⟩ := hbw.out.at_ (j := k) (by rw [ffs_len k (by omega)]; omega)
        have hs := s0 255
        rw [ffs_set k hlt] at hs
        have HS := Lib.hid hs; have H7 := Lib.hid (h7.out.far_cell (Nat.ne_of_lt l7.out) k (.int .u8 255)); have H10 := Lib.hid (h10.out.far_cell (Nat.ne_of_lt l10.out) k (.int .u8 255)); have HBE := Lib.hid (hbe.out.setCell (p := ⟨g11, k, none⟩) lw0.out (.int .u8 255))
        clear s0 hs hbw h7 h10 hbe
        go_wp2_with fail
        go_roundw
        case rel => exact ⟨k + 1, by omega, by go_num, HS, H7, H10, HBE⟩
        case measure => simp [intOf]; omega
      · have hk32 : k = 32 := by omega
        rw [hk32] at hbw
        obtain ⟨c0, f0, s0⟩ := hbw.out.at_ (j := 0) (by rw [ffs_len 32 (by omega)]; omega)
        have h1 := s0 236
        obtain ⟨c1, f1, s1⟩ := h1.at_ (j := 31) (by rw [List.length_set, ffs_len 32 (by omega)]; omega)
        have h2 := s1 127
        rw [ffs_end] at h2
        obtain ⟨d1, g1, _⟩ := hbw.out.at_ (j := 31) (by rw [ffs_len 32 (by omega)]; omega)
        have h3 : Bw ((wr.setCell ⟨g11, 0, none⟩ (.int .u8 236)).setCell ⟨g11, 31, none⟩ (.int .u8 127)) g11 5 eFer := h2
        have HBs := Lib.hid (h3.toBs (by decide))
        clear h3
        have H7 := Lib.hid ((h7.out.far_cell (Nat.ne_of_lt l7.out) 0 (.int .u8 236)).far_cell (Nat.ne_of_lt l7.out) 31 (.int .u8 127)); have H10 := Lib.hid ((h10.out.far_cell (Nat.ne_of_lt l10.out) 0 (.int .u8 236)).far_cell (Nat.ne_of_lt l10.out) 31 (.int .u8 127)); have HBE := Lib.hid ((hbe.out.setCell (p := ⟨g11, 0, none⟩) lw0.out (.int .u8 236)).setCell (p := ⟨g11, 31, none⟩) lw0.out (.int .u8 127))
        clear hk32 s0 s1 h1 h2 hbw h7 h10 hbe c1 f1
        go_upto_region 20 with fail
        generalize (wr.setCell ⟨g11, 0, none⟩ (.int .u8 236)).setCell ⟨g11, 31, none⟩ (.int .u8 127) = W19 at *
        refine wp_region_mono 21 [145, 146, 147, 148, 149, 150, 151, 152, 153, 154, 155, 156, 157, 158, 159, 160, 161, 162, 163, 164, 6] (phi [IsV (.agg #[.int .u64 (l0 (x) : Int), .int .u64 (l1 (x) : Int), .int .u64 (l2 (x) : Int), .int .u64 (l3 (x) : Int)]), IsV (.agg #[.int .u64 (l0 (J) : Int), .int .u64 (l1 (J) : Int), .int .u64 (l2 (J) : Int), .int .u64 (l3 (J) : Int)]), IsS 2 ([.int .u64 (l0 (x) : Int), .int .u64 (l1 (x) : Int), .int .u64 (l2 (x) : Int), .int .u64 (l3 (x) : Int), .int .u64 (l0 (J) : Int), .int .u64 (l1 (J) : Int), .int .u64 (l2 (J) : Int), .int .u64 (l3 (J) : Int)]) 26, IsV (.agg #[.int .u64 (l0 (O1) : Int), .int .u64 (l1 (O1) : Int), .int .u64 (l2 (O1) : Int), .int .u64 (l3 (O1) : Int)]), IsV (.agg #[.int .u64 (l0 (O1) : Int), .int .u64 (l1 (O1) : Int), .int .u64 (l2 (O1) : Int), .int .u64 (l3 (O1) : Int)]), IsV (.bool true), IsV (.bool true), IsV (.agg #[.int .u64 (l0 (J) : Int), .int .u64 (l1 (J) : Int), .int .u64 (l2 (J) : Int), .int .u64 (l3 (J) : Int)]), IsV (.agg #[.int .u64 (l0 (N) : Int), .int .u64 (l1 (N) : Int), .int .u64 (l2 (N) : Int), .int .u64 (l3 (N) : Int)]), IsV (.agg #[.int .u64 (l0 (x) : Int), .int .u64 (l1 (x) : Int), .int .u64 (l2 (x) : Int), .int .u64 (l3 (x) : Int)]), IsV (.agg #[.int .u64 (l0 (N) : Int), .int .u64 (l1 (N) : Int), .int .u64 (l2 (N) : Int), .int .u64 (l3 (N) : Int)]), IsV (.bool true), IsV (.bool true), IsV (.bool true), IsV (.agg #[.int .u64 (l0 (x) : Int), .int .u64 (l1 (x) : Int), .int .u64 (l2 (x) : Int), .int .u64 (l3 (x) : Int)]), IsV (.slice (some ⟨g11, 0, none⟩) 32 32), IsV (.agg #[.int .u64 (l0 (O1) : Int), .int .u64 (l1 (O1) : Int), .int .u64 (l2 (O1) : Int), .int .u64 (l3 (O1) : Int)]), IsV (.agg #[.int .u64 (l0 (O1) : Int), .int .u64 (l1 (O1) : Int), .int .u64 (l2 (O1) : Int), .int .u64 (l3 (O1) : Int)]), IsV (.bool true), IsV (.bool true), IsV (.bool true)]) [] rfl (by kernel_rfl) rfl rfl (by kernel_rfl) rfl (by kernel_rfl) (by kernel_rfl) (phi_mono (by repeat (first | exact mono_v _ | exact mono_r _ _ _ | exact mono_s _ _ _ | exact trivial | refine ⟨?_, ?_⟩))) ?_ ?_
        · intro i hi
          rcases (show i = 0 ∨ i = 1 ∨ i = 2 ∨ i = 3 ∨ i = 4 ∨ i = 5 ∨ i = 6 ∨ i = 7 ∨ i = 8 ∨ i = 9 ∨ i = 10 ∨ i = 11 ∨ i = 12 ∨ i = 13 ∨ i = 14 ∨ i = 15 ∨ i = 16 ∨ i = 17 ∨ i = 18 ∨ i = 19 ∨ i = 20 by omega) with rfl | rfl | rfl | rfl | rfl | rfl | rfl | rfl | rfl | rfl | rfl | rfl | rfl | rfl | rfl | rfl | rfl | rfl | rfl | rfl | rfl
          · intro ac W hB hst hdep
            have e7 : ac.tmps[7]? = some (.pointer (some ⟨g7, 0, none⟩)) := hst 7 (by decide)
            exact st_load rfl (wanted_no rfl) 26 (.tmp 7) rfl (eval_of e7) ([.int .u64 (l0 (x) : Int), .int .u64 (l1 (x) : Int), .int .u64 (l2 (x) : Int), .int .u64 (l3 (x) : Int)]) _ ((RowL.upS (w := W19.drew) H7.out hB).range 0 _ rfl) undEl rfl (by kernel_rfl) rfl (notE rfl)
          · intro ac W hB hst hdep
            have e10 : ac.tmps[10]? = some (.pointer (some ⟨g10, 0, none⟩)) := hst 10 (by decide)
            exact st_load rfl (wanted_no rfl) 26 (.tmp 10) rfl (eval_of e10) ([.int .u64 (l0 (J) : Int), .int .u64 (l1 (J) : Int), .int .u64 (l2 (J) : Int), .int .u64 (l3 (J) : Int)]) _ ((RowL.upS (w := W19.drew) H10.out hB).range 0 _ rfl) undEl rfl (by kernel_rfl) rfl (notE rfl)
          · intro ac W hB hst hdep
            obtain ⟨x145, e145, h145⟩ := hdep 0 (memE (by kernel_rfl)) 145 rfl
            replace h145 : x145 = .agg #[.int .u64 (l0 (x) : Int), .int .u64 (l1 (x) : Int), .int .u64 (l2 (x) : Int), .int .u64 (l3 (x) : Int)] := h145
            subst h145
            obtain ⟨x146, e146, h146⟩ := hdep 1 (memE (by kernel_rfl)) 146 rfl
            replace h146 : x146 = .agg #[.int .u64 (l0 (J) : Int), .int .u64 (l1 (J) : Int), .int .u64 (l2 (J) : Int), .int .u64 (l3 (J) : Int)] := h146
            subst h146
            exact st_bs rfl (wanted_no rfl) 86 26 2 _ rfl (show (#[(0, .tmp 145), (1, .tmp 146)] : Array (Nat × Operand)).map (fun (i, x) => (i, ac.eval x)) = #[(0, .agg #[.int .u64 (l0 (x) : Int), .int .u64 (l1 (x) : Int), .int .u64 (l2 (x) : Int), .int .u64 (l3 (x) : Int)]), (1, .agg #[.int .u64 (l0 (J) : Int), .int .u64 (l1 (J) : Int), .int .u64 (l2 (J) : Int), .int .u64 (l3 (J) : Int)])] by simp only [List.map_toArray, List.map_cons, List.map_nil, eval_of e145, eval_of e146]) (bsEl2 (x) (J)) ⟨_, rfl, heap_alloc_new _ _⟩ (notE rfl)
          · intro ac W hB hst hdep
            obtain ⟨x147, e147, h147⟩ := hdep 2 (memE (by kernel_rfl)) 147 rfl
            obtain ⟨g147, hg147, r147⟩ := (h147 : IsS 2 ([.int .u64 (l0 (x) : Int), .int .u64 (l1 (x) : Int), .int .u64 (l2 (x) : Int), .int .u64 (l3 (x) : Int), .int .u64 (l0 (J) : Int), .int .u64 (l1 (J) : Int), .int .u64 (l2 (J) : Int), .int .u64 (l3 (J) : Int)]) 26 _ _)
            subst hg147
            exact st_call rfl (wanted_no rfl) rfl (show (#[.tmp 147] : Array Operand).map ac.eval = (#[.slice (some ⟨g147, 0, none⟩) 2 2] : Array Value) by simp only [List.map_toArray, List.map_cons, List.map_nil, Act.eval_const, eval_of e147]) (fun _ => by kernel_rfl) (Calls.mono (prodK2 Zx.out ZJ.out E148.out r147) fun e w' h => ⟨_, h.1, h.2, rfl⟩) (notE rfl)
          · intro ac W hB hst hdep
            exact st_call rfl (wanted_no rfl) rfl (show (#[.const (.int .u64 1)] : Array Operand).map ac.eval = (#[.int .u64 1] : Array Value) by simp only [List.map_toArray, List.map_cons, List.map_nil, Act.eval_const]) (fun _ => by kernel_rfl) (Calls.mono (ofOne E149.out _) fun e w' h => ⟨_, h.1, h.2, rfl⟩) (notE rfl)
          · intro ac W hB hst hdep
            obtain ⟨x148, e148, h148⟩ := hdep 3 (memE (by kernel_rfl)) 148 rfl
            replace h148 : x148 = .agg #[.int .u64 (l0 (O1) : Int), .int .u64 (l1 (O1) : Int), .int .u64 (l2 (O1) : Int), .int .u64 (l3 (O1) : Int)] := h148
            subst h148
            obtain ⟨x149, e149, h149⟩ := hdep 4 (memE (by kernel_rfl)) 149 rfl
            replace h149 : x149 = .agg #[.int .u64 (l0 (O1) : Int), .int .u64 (l1 (O1) : Int), .int .u64 (l2 (O1) : Int), .int .u64 (l3 (O1) : Int)] := h149
            subst h149
            exact st_bin rfl (wanted_no rfl) .eql 26 26 (.tmp 148) (.tmp 149) rfl (eval_of e148) (eval_of e149) (fun W => eqlSame (O1) (by first | exact ZO1.out | decide) W) rfl (notE rfl)
          · intro ac W hB hst hdep
            obtain ⟨x150, e150, h150⟩ := hdep 5 (memE (by kernel_rfl)) 150 rfl
            replace h150 : x150 = .bool true := h150
            subst h150
            exact st_move rfl (wanted_no rfl) (.tmp 150) (.inl rfl) (eval_of e150) rfl (notE rfl)
          · intro ac W hB hst hdep
            have e10 : ac.tmps[10]? = some (.pointer (some ⟨g10, 0, none⟩)) := hst 10 (by decide)
            obtain ⟨x151, e151, h151⟩ := hdep 6 (memE (by kernel_rfl)) 151 rfl
            replace h151 : x151 = .bool true := h151
            subst h151
            exact st_load rfl (wanted_yes rfl rfl rfl e151) 26 (.tmp 10) rfl (eval_of e10) ([.int .u64 (l0 (J) : Int), .int .u64 (l1 (J) : Int), .int .u64 (l2 (J) : Int), .int .u64 (l3 (J) : Int)]) _ ((RowL.upS (w := W19.drew) H10.out hB).range 0 _ rfl) undEl rfl (by kernel_rfl) rfl (notE rfl)
          · intro ac W hB hst hdep
            obtain ⟨x152, e152, h152⟩ := hdep 7 (memE (by kernel_rfl)) 152 rfl
            replace h152 : x152 = .agg #[.int .u64 (l0 (J) : Int), .int .u64 (l1 (J) : Int), .int .u64 (l2 (J) : Int), .int .u64 (l3 (J) : Int)] := h152
            subst h152
            obtain ⟨x151, e151, h151⟩ := hdep 6 (memE (by kernel_rfl)) 151 rfl
            replace h151 : x151 = .bool true := h151
            subst h151
            exact st_call rfl (wanted_yes rfl rfl rfl e151) rfl (show (#[.tmp 152] : Array Operand).map ac.eval = (#[.agg #[.int .u64 (l0 (J) : Int), .int .u64 (l1 (J) : Int), .int .u64 (l2 (J) : Int), .int .u64 (l3 (J) : Int)]] : Array Value) by simp only [List.map_toArray, List.map_cons, List.map_nil, Act.eval_const, eval_of e152]) (fun _ => by kernel_rfl) (Calls.mono (invK ZJ.out E153.out) fun e w' h => ⟨_, h.1, h.2, rfl⟩) (notE rfl)
          · intro ac W hB hst hdep
            have e7 : ac.tmps[7]? = some (.pointer (some ⟨g7, 0, none⟩)) := hst 7 (by decide)
            obtain ⟨x151, e151, h151⟩ := hdep 6 (memE (by kernel_rfl)) 151 rfl
            replace h151 : x151 = .bool true := h151
            subst h151
            exact st_load rfl (wanted_yes rfl rfl rfl e151) 26 (.tmp 7) rfl (eval_of e7) ([.int .u64 (l0 (x) : Int), .int .u64 (l1 (x) : Int), .int .u64 (l2 (x) : Int), .int .u64 (l3 (x) : Int)]) _ ((RowL.upS (w := W19.drew) H7.out hB).range 0 _ rfl) undEl rfl (by kernel_rfl) rfl (notE rfl)
          · intro ac W hB hst hdep
            obtain ⟨x154, e154, h154⟩ := hdep 9 (memE (by kernel_rfl)) 154 rfl
            replace h154 : x154 = .agg #[.int .u64 (l0 (x) : Int), .int .u64 (l1 (x) : Int), .int .u64 (l2 (x) : Int), .int .u64 (l3 (x) : Int)] := h154
            subst h154
            obtain ⟨x151, e151, h151⟩ := hdep 6 (memE (by kernel_rfl)) 151 rfl
            replace h151 : x151 = .bool true := h151
            subst h151
            exact st_call rfl (wanted_yes rfl rfl rfl e151) rfl (show (#[.tmp 154] : Array Operand).map ac.eval = (#[.agg #[.int .u64 (l0 (x) : Int), .int .u64 (l1 (x) : Int), .int .u64 (l2 (x) : Int), .int .u64 (l3 (x) : Int)]] : Array Value) by simp only [List.map_toArray, List.map_cons, List.map_nil, Act.eval_const, eval_of e154]) (fun _ => by kernel_rfl) (Calls.mono (normK Zx.out E155.out) fun e w' h => ⟨_, h.1, h.2, rfl⟩) (notE rfl)
          · intro ac W hB hst hdep
            obtain ⟨x153, e153, h153⟩ := hdep 8 (memE (by kernel_rfl)) 153 rfl
            replace h153 : x153 = .agg #[.int .u64 (l0 (N) : Int), .int .u64 (l1 (N) : Int), .int .u64 (l2 (N) : Int), .int .u64 (l3 (N) : Int)] := h153
            subst h153
            obtain ⟨x155, e155, h155⟩ := hdep 10 (memE (by kernel_rfl)) 155 rfl
            replace h155 : x155 = .agg #[.int .u64 (l0 (N) : Int), .int .u64 (l1 (N) : Int), .int .u64 (l2 (N) : Int), .int .u64 (l3 (N) : Int)] := h155
            subst h155
            obtain ⟨x151, e151, h151⟩ := hdep 6 (memE (by kernel_rfl)) 151 rfl
            replace h151 : x151 = .bool true := h151
            subst h151
            exact st_bin rfl (wanted_yes rfl rfl rfl e151) .eql 26 26 (.tmp 153) (.tmp 155) rfl (eval_of e153) (eval_of e155) (fun W => eqlSame (N) (by first | exact ZN.out | decide) W) rfl (notE rfl)
          · intro ac W hB hst hdep
            obtain ⟨x151, e151, h151⟩ := hdep 6 (memE (by kernel_rfl)) 151 rfl
            replace h151 : x151 = .bool true := h151
            subst h151
            obtain ⟨x156, e156, h156⟩ := hdep 11 (memE (by kernel_rfl)) 156 rfl
            replace h156 : x156 = .bool true := h156
            subst h156
            exact st_pick rfl (wanted_no rfl) (.tmp 151) (.tmp 156) (.const (.bool false)) rfl (eval_of e151) (eval_of e156) rfl (notE rfl)
          · intro ac W hB hst hdep
            obtain ⟨x157, e157, h157⟩ := hdep 12 (memE (by kernel_rfl)) 157 rfl
            replace h157 : x157 = .bool true := h157
            subst h157
            exact st_move rfl (wanted_no rfl) (.tmp 157) (.inl rfl) (eval_of e157) rfl (notE rfl)
          · intro ac W hB hst hdep
            have e7 : ac.tmps[7]? = some (.pointer (some ⟨g7, 0, none⟩)) := hst 7 (by decide)
            obtain ⟨x158, e158, h158⟩ := hdep 13 (memE (by kernel_rfl)) 158 rfl
            replace h158 : x158 = .bool true := h158
            subst h158
            exact st_load rfl (wanted_yes rfl rfl rfl e158) 26 (.tmp 7) rfl (eval_of e7) ([.int .u64 (l0 (x) : Int), .int .u64 (l1 (x) : Int), .int .u64 (l2 (x) : Int), .int .u64 (l3 (x) : Int)]) _ ((RowL.upS (w := W19.drew) H7.out hB).range 0 _ rfl) undEl rfl (by kernel_rfl) rfl (notE rfl)
          · intro ac W hB hst hdep
            have e11 : ac.tmps[11]? = some (.slice (some ⟨g11, 0, none⟩) 32 32) := hst 11 (by decide)
            obtain ⟨x158, e158, h158⟩ := hdep 13 (memE (by kernel_rfl)) 158 rfl
            replace h158 : x158 = .bool true := h158
            subst h158
            exact st_move rfl (wanted_yes rfl rfl rfl e158) (.tmp 11) (.inl rfl) (eval_of e11) rfl (notE rfl)
          · intro ac W hB hst hdep
            obtain ⟨x159, e159, h159⟩ := hdep 14 (memE (by kernel_rfl)) 159 rfl
            replace h159 : x159 = .agg #[.int .u64 (l0 (x) : Int), .int .u64 (l1 (x) : Int), .int .u64 (l2 (x) : Int), .int .u64 (l3 (x) : Int)] := h159
            subst h159
            obtain ⟨x160, e160, h160⟩ := hdep 15 (memE (by kernel_rfl)) 160 rfl
            replace h160 : x160 = .slice (some ⟨g11, 0, none⟩) 32 32 := h160
            subst h160
            obtain ⟨x158, e158, h158⟩ := hdep 13 (memE (by kernel_rfl)) 158 rfl
            replace h158 : x158 = .bool true := h158
            subst h158
            exact st_call rfl (wanted_yes rfl rfl rfl e158) rfl (show (#[.tmp 159, .tmp 160] : Array Operand).map ac.eval = (#[.agg #[.int .u64 (l0 (x) : Int), .int .u64 (l1 (x) : Int), .int .u64 (l2 (x) : Int), .int .u64 (l3 (x) : Int)], .slice (some ⟨g11, 0, none⟩) 32 32] : Array Value) by simp only [List.map_toArray, List.map_cons, List.map_nil, Act.eval_const, eval_of e159, eval_of e160]) (fun _ => by kernel_rfl) (Calls.mono (powK Zx.out (bs_up (w := W19.drew) HBs.out hB) E161.out) fun e w' h => ⟨_, h.1, h.2, rfl⟩) (notE rfl)
          · intro ac W hB hst hdep
            obtain ⟨x158, e158, h158⟩ := hdep 13 (memE (by kernel_rfl)) 158 rfl
            replace h158 : x158 = .bool true := h158
            subst h158
            exact st_call rfl (wanted_yes rfl rfl rfl e158) rfl (show (#[.const (.int .u64 1)] : Array Operand).map ac.eval = (#[.int .u64 1] : Array Value) by simp only [List.map_toArray, List.map_cons, List.map_nil, Act.eval_const]) (fun _ => by kernel_rfl) (Calls.mono (ofOne E162.out _) fun e w' h => ⟨_, h.1, h.2, rfl⟩) (notE rfl)
          · intro ac W hB hst hdep
            obtain ⟨x161, e161, h161⟩ := hdep 16 (memE (by kernel_rfl)) 161 rfl
            replace h161 : x161 = .agg #[.int .u64 (l0 (O1) : Int), .int .u64 (l1 (O1) : Int), .int .u64 (l2 (O1) : Int), .int .u64 (l3 (O1) : Int)] := h161
            subst h161
            obtain ⟨x162, e162, h162⟩ := hdep 17 (memE (by kernel_rfl)) 162 rfl
            replace h162 : x162 = .agg #[.int .u64 (l0 (O1) : Int), .int .u64 (l1 (O1) : Int), .int .u64 (l2 (O1) : Int), .int .u64 (l3 (O1) : Int)] := h162
            subst h162
            obtain ⟨x158, e158, h158⟩ := hdep 13 (memE (by kernel_rfl)) 158 rfl
            replace h158 : x158 = .bool true := h158
            subst h158
            exact st_bin rfl (wanted_yes rfl rfl rfl e158) .eql 26 26 (.tmp 161) (.tmp 162) rfl (eval_of e161) (eval_of e162) (fun W => eqlSame (O1) (by first | exact ZO1.out | decide) W) rfl (notE rfl)
          · intro ac W hB hst hdep
            obtain ⟨x158, e158, h158⟩ := hdep 13 (memE (by kernel_rfl)) 158 rfl
            replace h158 : x158 = .bool true := h158
            subst h158
            obtain ⟨x163, e163, h163⟩ := hdep 18 (memE (by kernel_rfl)) 163 rfl
            replace h163 : x163 = .bool true := h163
            subst h163
            exact st_pick rfl (wanted_no rfl) (.tmp 158) (.tmp 163) (.const (.bool false)) rfl (eval_of e158) (eval_of e163) rfl (notE rfl)
          · intro ac W hB hst hdep
            obtain ⟨x164, e164, h164⟩ := hdep 19 (memE (by kernel_rfl)) 164 rfl
            replace h164 : x164 = .bool true := h164
            subst h164
            exact st_move rfl (wanted_no rfl) (.tmp 164) (.inr rfl) (eval_of e164) rfl (notE rfl)
        intro vs hvs wn hbr hv hne
        obtain ⟨v145, v146, v147, v148, v149, v150, v151, v152, v153, v154, v155, v156, v157, v158, v159, v160, v161, v162, v163, v164, v6, rfl⟩ := listf21 vs hvs
        obtain rfl : v145 = .agg #[.int .u64 (l0 (x) : Int), .int .u64 (l1 (x) : Int), .int .u64 (l2 (x) : Int), .int .u64 (l3 (x) : Int)] := hv 0 _ rfl
        obtain rfl : v146 = .agg #[.int .u64 (l0 (J) : Int), .int .u64 (l1 (J) : Int), .int .u64 (l2 (J) : Int), .int .u64 (l3 (J) : Int)] := hv 1 _ rfl
        obtain ⟨g147, hg147, hr147⟩ : IsS 2 ([.int .u64 (l0 (x) : Int), .int .u64 (l1 (x) : Int), .int .u64 (l2 (x) : Int), .int .u64 (l3 (x) : Int), .int .u64 (l0 (J) : Int), .int .u64 (l1 (J) : Int), .int .u64 (l2 (J) : Int), .int .u64 (l3 (J) : Int)]) 26 v147 wn := hv 2 _ rfl
        obtain rfl : v148 = .agg #[.int .u64 (l0 (O1) : Int), .int .u64 (l1 (O1) : Int), .int .u64 (l2 (O1) : Int), .int .u64 (l3 (O1) : Int)] := hv 3 _ rfl
        obtain rfl : v149 = .agg #[.int .u64 (l0 (O1) : Int), .int .u64 (l1 (O1) : Int), .int .u64 (l2 (O1) : Int), .int .u64 (l3 (O1) : Int)] := hv 4 _ rfl
        obtain rfl : v150 = .bool true := hv 5 _ rfl
        obtain rfl : v151 = .bool true := hv 6 _ rfl
        obtain rfl : v152 = .agg #[.int .u64 (l0 (J) : Int), .int .u64 (l1 (J) : Int), .int .u64 (l2 (J) : Int), .int .u64 (l3 (J) : Int)] := hv 7 _ rfl
        obtain rfl : v153 = .agg #[.int .u64 (l0 (N) : Int), .int .u64 (l1 (N) : Int), .int .u64 (l2 (N) : Int), .int .u64 (l3 (N) : Int)] := hv 8 _ rfl
        obtain rfl : v154 = .agg #[.int .u64 (l0 (x) : Int), .int .u64 (l1 (x) : Int), .int .u64 (l2 (x) : Int), .int .u64 (l3 (x) : Int)] := hv 9 _ rfl
        obtain rfl : v155 = .agg #[.int .u64 (l0 (N) : Int), .int .u64 (l1 (N) : Int), .int .u64 (l2 (N) : Int), .int .u64 (l3 (N) : Int)] := hv 10 _ rfl
        obtain rfl : v156 = .bool true := hv 11 _ rfl
        obtain rfl : v157 = .bool true := hv 12 _ rfl
        obtain rfl : v158 = .bool true := hv 13 _ rfl
        obtain rfl : v159 = .agg #[.int .u64 (l0 (x) : Int), .int .u64 (l1 (x) : Int), .int .u64 (l2 (x) : Int), .int .u64 (l3 (x) : Int)] := hv 14 _ rfl
        obtain rfl : v160 = .slice (some ⟨g11, 0, none⟩) 32 32 := hv 15 _ rfl
        obtain rfl : v161 = .agg #[.int .u64 (l0 (O1) : Int), .int .u64 (l1 (O1) : Int), .int .u64 (l2 (O1) : Int), .int .u64 (l3 (O1) : Int)] := hv 16 _ rfl
        obtain rfl : v162 = .agg #[.int .u64 (l0 (O1) : Int), .int .u64 (l1 (O1) : Int), .int .u64 (l2 (O1) : Int), .int .u64 (l3 (O1) : Int)] := hv 17 _ rfl
        obtain rfl : v163 = .bool true := hv 18 _ rfl
        obtain rfl : v164 = .bool true := hv 19 _ rfl
        obtain rfl : v6 = .bool true := hv 20 _ rfl
        subst hg147
        clear hvs hv hne
        simp only [List.zip_cons_cons, List.zip_nil_right, List.zip_nil_left, puts, Act.put, List.setIfInBounds_toArray, List.set_cons_zero, List.set_cons_succ]
        have hz : W19.heap.size ≤ wn.heap.size := hbr.size
        have nB_W20 := Lib.hid (HBE.out.trans (hbr.mono HBE.out.size))
        refine wpAny_done (by kernel_rfl) ?_ _
        clear hbr hz    hr147
        generalize wn = W20 at *
        clear HBE H7 H10
        go_wp2
        go_ret
        exact ⟨rfl, nB_W20.out⟩
end Go.Proofs.Ytgkglielcbgpiaa
