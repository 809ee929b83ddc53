/- The reference's Mult. -/
import Derived.Test.YtgkglielcbgpiaaV5
import Derived.Deep.Cut
namespace Go.Proofs.Ytgkglielcbgpiaa
open Go.RowKit

theorem bs_up {w w' : World} {v : Value} {l : List UInt8} (h : Bs w w.heap.size v l) (hb : Below w.heap.size w w') : Bs w' w'.heap.size v l := (h.below hb (Nat.le_refl _)).more hb.size
/-- what two numbers come to -/
abbrev N8 (x : Nat) : List Value := [.int .u32 (dig (x) 0 : Int), .int .u32 (dig (x) 1 : Int), .int .u32 (dig (x) 2 : Int), .int .u32 (dig (x) 3 : Int), .int .u32 (dig (x) 4 : Int), .int .u32 (dig (x) 5 : Int), .int .u32 (dig (x) 6 : Int), .int .u32 (dig (x) 7 : Int)]
def multQ (k u : List UInt8) : Nat := prodP [(ladN (cutN (numL u) % PP) (clampL k) 255).1, invP (ladN (cutN (numL u) % PP) (clampL k) 255).2.1]
def multL (k u : List UInt8) : List UInt8 := if multQ k u = 0 then zs 32 else leBytes (multQ k u) 32
def multC (k u : List UInt8) : Int := if multQ k u = 0 then 5 else 0
theorem listr1 (l : List Value) (h : l.length = 1) : ∃ v0, l = [v0] := by
  match l, h with
  | v0 :: [], _ => exact ⟨_, rfl⟩
theorem listr2 (l : List Value) (h : l.length = 2) : ∃ v0 v1, l = [v0, v1] := by
  match l, h with
  | v0 :: v1 :: [], _ => exact ⟨_, _, rfl⟩
theorem listr3 (l : List Value) (h : l.length = 3) : ∃ v0 v1 v2, l = [v0, v1, v2] := by
  match l, h with
  | v0 :: v1 :: v2 :: [], _ => exact ⟨_, _, _, rfl⟩
theorem listr4 (l : List Value) (h : l.length = 4) : ∃ v0 v1 v2 v3, l = [v0, v1, v2, v3] := by
  match l, h with
  | v0 :: v1 :: v2 :: v3 :: [], _ => exact ⟨_, _, _, _, rfl⟩
theorem listr5 (l : List Value) (h : l.length = 5) : ∃ v0 v1 v2 v3 v4, l = [v0, v1, v2, v3, v4] := by
  match l, h with
  | v0 :: v1 :: v2 :: v3 :: v4 :: [], _ => exact ⟨_, _, _, _, _, rfl⟩
theorem listr6 (l : List Value) (h : l.length = 6) : ∃ v0 v1 v2 v3 v4 v5, l = [v0, v1, v2, v3, v4, v5] := by
  match l, h with
  | v0 :: v1 :: v2 :: v3 :: v4 :: v5 :: [], _ => exact ⟨_, _, _, _, _, _, rfl⟩
theorem listr7 (l : List Value) (h : l.length = 7) : ∃ v0 v1 v2 v3 v4 v5 v6, l = [v0, v1, v2, v3, v4, v5, v6] := by
  match l, h with
  | v0 :: v1 :: v2 :: v3 :: v4 :: v5 :: v6 :: [], _ => exact ⟨_, _, _, _, _, _, _, rfl⟩
theorem listr8 (l : List Value) (h : l.length = 8) : ∃ v0 v1 v2 v3 v4 v5 v6 v7, l = [v0, v1, v2, v3, v4, v5, v6, v7] := by
  match l, h with
  | v0 :: v1 :: v2 :: v3 :: v4 :: v5 :: v6 :: v7 :: [], _ => exact ⟨_, _, _, _, _, _, _, _, rfl⟩

set_option maxRecDepth 100000 in
set_option maxHeartbeats 4000000 in
theorem refmult_ok {k u : List UInt8} {vk vu : Value} {w : World} (hk : Bs w w.heap.size vk k) (hu : Bs w w.heap.size vu u) (hkl : k.length = 32) (hul : u.length = 32) :
    Calls Try.prog 34 #[vk, vu] w fun e w' => e = .returned (.tuple #[.agg ((multL k u).map vb).toArray, .int .i64 (multC k u)]) ∧ Below w.heap.size w w' := by
  obtain ⟨AU, cU, rfl⟩ := hu.shape
  obtain ⟨AK, cK, rfl⟩ := hk.shape
  obtain ⟨n, hn⟩ : ∃ n, n = clampL k := ⟨_, rfl⟩
  have hnl : n.length = 32 := by rw [hn, clampL_len]; exact hkl
  obtain ⟨x, hx⟩ : ∃ x, x = cutN (numL u) % PP := ⟨_, rfl⟩
  have hx4 : x < W4 := by rw [hx]; exact mod_lt4 _
  obtain ⟨F, hF⟩ : ∃ F, F = ladN x n := ⟨_, rfl⟩
  obtain ⟨q, hq⟩ : ∃ q, q = prodP [(F 255).1, invP (F 255).2.1] := ⟨_, rfl⟩
  have hqm : q = multQ k u := by rw [hq, hF, hx, hn]; rfl
  obtain ⟨OL, hOL⟩ : ∃ OL, OL = multL k u := ⟨_, rfl⟩
  obtain ⟨OC, hOC⟩ : ∃ OC, OC = multC k u := ⟨_, rfl⟩
  rw [← hOL, ← hOC]
  have HOL : Hid (OL = if q = 0 then zs 32 else leBytes q 32) := Lib.hid (by rw [hOL, hqm]; rfl)
  have HOC : Hid (OC = if q = 0 then 5 else 0) := Lib.hid (by rw [hOC, hqm]; rfl)
  have HF0 : Hid (F 0 = (1, 0, x, 1)) := Lib.hid (by rw [hF]; rfl)
  have HFS : Hid (∀ k, F (k + 1) = ladS x (bitC n (254 - k)) (F k)) := Lib.hid (by rw [hF]; exact fun k => rfl)
  have HF4 : Hid (∀ k, In4P (F k)) := Lib.hid (by rw [hF]; exact fun k => ladN_in hx4 n k)
  have HQ := Lib.hid hq
  have Zq : Hid (q < W4) := Lib.hid (by rw [hq]; exact prodP_lt4 _)
  have Zx := Lib.hid hx4; have HNL := Lib.hid hnl
  obtain ⟨us, hus⟩ : ∃ us, us = (n.map vb).toArray := ⟨_, rfl⟩
  obtain ⟨W1, hW1⟩ : ∃ W1, W1 = w.alloc (.cells #[.int .u8 0, .int .u8 0, .int .u8 0, .int .u8 0, .int .u8 0, .int .u8 0, .int .u8 0, .int .u8 0, .int .u8 0, .int .u8 0, .int .u8 0, .int .u8 0, .int .u8 0, .int .u8 0, .int .u8 0, .int .u8 0, .int .u8 0, .int .u8 0, .int .u8 0, .int .u8 0, .int .u8 0, .int .u8 0, .int .u8 0, .int .u8 0, .int .u8 0, .int .u8 0, .int .u8 0, .int .u8 0, .int .u8 0, .int .u8 0, .int .u8 0, .int .u8 0] 50) := ⟨_, rfl⟩
  have hb1 : Below w.heap.size w W1 := by rw [hW1]; exact (Below.refl _ _).alloc (Nat.le_refl _) _
  obtain ⟨g4, hg4⟩ : ∃ g4, g4 = w.heap.size := ⟨_, rfl⟩
  have k4 : RowL W1 g4 ((zs 32).map vb) 50 := by rw [hW1, hg4]; exact RowL.new w _ _
  have C1 : Hid (Calls Try.prog 32 #[.slice AK k.length cK] W1 fun e w' => e = .returned (.tuple #[.agg us, .int .i64 0]) ∧ Below W1.heap.size W1 w') := Lib.hid (by rw [hus, hn]; exact refclamp_ok (bs_up hk hb1) hkl)
  have HU1 := Lib.hid (bs_up hu hb1)
  have HUS := Lib.hid hus; have HX := Lib.hid hx
  have HUL := Lib.hid hul
  have hi : Hid ((Try.prog.info? 50).map (·.size) = some us.size) := Lib.hid (by rw [hus]; simp only [List.size_toArray, List.length_map, hnl]; kernel_rfl)
  have ho : Hid (us.all (·.oneCell') = true) := Lib.hid (by rw [hus]; exact one_bytes _)
  have hz : Hid ((#[.int .u8 0, .int .u8 0, .int .u8 0, .int .u8 0, .int .u8 0, .int .u8 0, .int .u8 0, .int .u8 0, .int .u8 0, .int .u8 0, .int .u8 0, .int .u8 0, .int .u8 0, .int .u8 0, .int .u8 0, .int .u8 0, .int .u8 0, .int .u8 0, .int .u8 0, .int .u8 0, .int .u8 0, .int .u8 0, .int .u8 0, .int .u8 0, .int .u8 0, .int .u8 0, .int .u8 0, .int .u8 0, .int .u8 0, .int .u8 0, .int .u8 0, .int .u8 0] : Array Value).size = us.size) := Lib.hid (by rw [hus]; simp only [List.size_toArray, List.length_map, hnl]; rfl)
  have HB1 := Lib.hid hb1; have K4 := Lib.hid k4; have HW1 := Lib.hid hW1; have HG4 := Lib.hid hg4
  clear hk hu hkl hn hnl hx hx4 hF hq hqm hOL hOC hus hW1 hb1 k4 hul hg4
  go_enter Try.func34, Try.ntmps34
  go_upto_region 1 with fail
  rw [show _ = W1 from HW1.out.symm, show _ = g4 from HG4.out.symm]
  clear HW1
  go_wp2_with fail
  with_reducible refine (C1.out).mono ?_
  rintro e1 v1 ⟨rfl, hb1⟩
  have hz2 := heap_alloc_new v1 (.cells #[.int .u8 0, .int .u8 0, .int .u8 0, .int .u8 0, .int .u8 0, .int .u8 0, .int .u8 0, .int .u8 0, .int .u8 0, .int .u8 0, .int .u8 0, .int .u8 0, .int .u8 0, .int .u8 0, .int .u8 0, .int .u8 0, .int .u8 0, .int .u8 0, .int .u8 0, .int .u8 0, .int .u8 0, .int .u8 0, .int .u8 0, .int .u8 0, .int .u8 0, .int .u8 0, .int .u8 0, .int .u8 0, .int .u8 0, .int .u8 0, .int .u8 0, .int .u8 0] 50)
  have HZ2 := Lib.hid hz2
  clear hz2
  go_upto_region 2 with (first | (with_reducible refine wpList_store_row rfl 50 (.tmp 6) (.tmp 28) rfl (v1.heap.size) us rfl rfl 50 _ HZ2.out hi.out hz.out ho.out ?_) | fail)
  rw [World.setRow_alloc_new]
  obtain ⟨W2, hW2⟩ : ∃ W2, W2 = v1.alloc (.cells us 50) := ⟨_, rfl⟩
  obtain ⟨g6, hg6⟩ : ∃ g6, g6 = v1.heap.size := ⟨_, rfl⟩
  have ha2 : Below v1.heap.size v1 W2 := by rw [hW2]; exact (Below.refl _ _).alloc (Nat.le_refl _) _
  have hc2 : Below W1.heap.size W1 W2 := hb1.trans (ha2.mono hb1.size)
  have K6 : Hid (RowL W2 g6 (n.map vb) 50) := Lib.hid (by rw [hW2, hg6, HUS.out]; exact RowL.new _ _ _)
  have K4b := Lib.hid (K4.out.upS hc2)
  have HB2 := Lib.hid (HB1.out.trans (hc2.mono HB1.out.size))
  have K_g4_g6 : Hid (g4 ≠ g6) := Lib.hid (Nat.ne_of_lt (by rw [hg6]; exact Nat.lt_of_lt_of_le K4.out.lt hb1.size))
  have U_g6 : Hid (w.heap.size ≤ g6) := Lib.hid (by rw [hg6]; exact Nat.le_trans HB1.out.size hb1.size)
  have U_g4 : Hid (w.heap.size ≤ g4) := Lib.hid (Nat.le_of_eq HG4.out.symm)
  have C2 := rread_ok (bs_up HU1.out hc2) HUL.out
  rw [← HX.out] at C2
  have C2 := Lib.hid C2
  rw [← hW2, ← hg6]
  clear hb1 ha2 hc2 hW2 hg6 K4 HB1 HZ2 C1 HU1 hi ho hz
  go_wp2_with fail
  with_reducible refine (C2.out).mono ?_
  rintro e2 v2 ⟨rfl, hb2⟩
  go_upto_region 7 with fail
  obtain ⟨W3, hW3⟩ : ∃ W3, W3 = v2.alloc (.cells ((N8 x) : List Value).toArray 34) := ⟨_, rfl⟩
  obtain ⟨g8, hg8⟩ : ∃ g8, g8 = v2.heap.size := ⟨_, rfl⟩
  have ha3 : Below v2.heap.size v2 W3 := by rw [hW3]; exact (Below.refl _ _).alloc (Nat.le_refl _) _
  have hc3 : Below W2.heap.size W2 W3 := hb2.trans (ha3.mono hb2.size)
  have R8 : Hid (RowL W3 g8 (N8 x) 34) := Lib.hid (by rw [hW3, hg8]; exact RowL.new _ _ _)
  have R4 := Lib.hid (K4b.out.upS hc3); have R6 := Lib.hid (K6.out.upS hc3)
  have HB3 := Lib.hid (HB2.out.trans (hc3.mono HB2.out.size))
  have K_g4_g8 : Hid (g4 ≠ g8) := Lib.hid (Nat.ne_of_lt (by rw [hg8]; exact Nat.lt_of_lt_of_le K4b.out.lt hb2.size))
  have K_g6_g8 : Hid (g6 ≠ g8) := Lib.hid (Nat.ne_of_lt (by rw [hg8]; exact Nat.lt_of_lt_of_le K6.out.lt hb2.size))
  have U_g8 : Hid (w.heap.size ≤ g8) := Lib.hid (by rw [hg8]; exact Nat.le_trans HB2.out.size hb2.size)
  have HW3 := Lib.hid hW3; have HG8 := Lib.hid hg8
  clear hb2 ha3 hc3 hW3 hg8 K4b K6 HB2 C2
  rw [show _ = W3 from HW3.out.symm, show _ = g8 from HG8.out.symm]
  clear HW3 HG8
  refine wp_region_held_drew (S := fun w' => RowL w' g8 ((N8 x)) 34) (by kernel_rfl) R8.out (fun hHeld => ?_)
  refine takeD (i := 0) (oi := _) (d := some 43) (v := .agg (N8 1).toArray) rfl (by kernel_rfl) (by kernel_rfl) (by kernel_rfl) (by kernel_rfl) (fun _ _ _ h => h) (Or.inl ⟨by kernel_rfl, fun w' _ => by kernel_rfl⟩) (by assumption) ?_
  refine takeD (i := 1) (oi := _) (d := some 44) (v := .agg (N8 0).toArray) rfl (by kernel_rfl) (by kernel_rfl) (by kernel_rfl) (by kernel_rfl) (fun _ _ _ h => h) (Or.inl ⟨by kernel_rfl, fun w' _ => by kernel_rfl⟩) (by assumption) ?_
  refine takeD (i := 2) (oi := _) (d := some 45) (v := .agg (N8 x).toArray) rfl (by kernel_rfl) (by kernel_rfl) (by kernel_rfl) (by kernel_rfl) (fun _ _ _ h => h) (yieldsIf_load_mid (by kernel_rfl) 34 (.tmp 8) rfl (g8) 0 (by kernel_rfl) ((N8 x)) _ (fun w' h => RowL.range h 0 _ rfl) undN rfl (by kernel_rfl)) (by assumption) ?_
  refine takeD (i := 3) (oi := _) (d := some 46) (v := .agg (N8 1).toArray) rfl (by kernel_rfl) (by kernel_rfl) (by kernel_rfl) (by kernel_rfl) (fun _ _ _ h => h) (Or.inl ⟨by kernel_rfl, fun w' _ => by kernel_rfl⟩) (by assumption) ?_
  simp only [Act.put, List.setIfInBounds_toArray, List.set_cons_zero, List.set_cons_succ]
  refine wpAnyH_pre (fun w w' h hb => RowL.upS h hb) 4 8 [43, 44, 45, 46, 9, 10, 11, 12] (phi [IsV (.agg (N8 1).toArray), IsV (.agg (N8 0).toArray), IsV (.agg (N8 x).toArray), IsV (.agg (N8 1).toArray), IsR W3.drew.heap.size ([.int .u32 0, .int .u32 0, .int .u32 0, .int .u32 0, .int .u32 0, .int .u32 0, .int .u32 0, .int .u32 0]) 34, IsR W3.drew.heap.size ([.int .u32 0, .int .u32 0, .int .u32 0, .int .u32 0, .int .u32 0, .int .u32 0, .int .u32 0, .int .u32 0]) 34, IsR W3.drew.heap.size ([.int .u32 0, .int .u32 0, .int .u32 0, .int .u32 0, .int .u32 0, .int .u32 0, .int .u32 0, .int .u32 0]) 34, IsR W3.drew.heap.size ([.int .u32 0, .int .u32 0, .int .u32 0, .int .u32 0, .int .u32 0, .int .u32 0, .int .u32 0, .int .u32 0]) 34]) [4, 5, 6, 7] rfl (by kernel_rfl) hHeld rfl rfl rfl (by kernel_rfl) rfl (by kernel_rfl) (by kernel_rfl) (phi_mono (by repeat (first | exact mono_v _ | exact mono_r _ _ _ | exact mono_s _ _ _ | exact trivial | refine ⟨?_, ?_⟩))) ?_ ?_ ?_
  · intro i d hi hd
    rcases (show i = 0 ∨ i = 1 ∨ i = 2 ∨ i = 3 by omega) with rfl | rfl | rfl | rfl
    · obtain rfl : 43 = d := by simpa using hd
      exact ⟨_, rfl, rfl⟩
    · obtain rfl : 44 = d := by simpa using hd
      exact ⟨_, rfl, rfl⟩
    · obtain rfl : 45 = d := by simpa using hd
      exact ⟨_, rfl, rfl⟩
    · obtain rfl : 46 = d := by simpa using hd
      exact ⟨_, rfl, rfl⟩
  · intro i hi
    rcases (show i = 0 ∨ i = 1 ∨ i = 2 ∨ i = 3 ∨ i = 4 ∨ i = 5 ∨ i = 6 ∨ i = 7 by omega) with rfl | rfl | rfl | rfl | rfl | rfl | rfl | rfl
    · intro ac W hB hst hdep
      exact st_build rfl (wanted_no rfl) 34 _ rfl (show (#[(0, .const (.int .u32 1))] : Array (Nat × Operand)).map (fun (i, x) => (i, ac.eval x)) = #[(0, .int .u32 1)] by simp only [List.map_toArray, List.map_cons, List.map_nil, Act.eval_const]) bld1 rfl (notE rfl)
    · intro ac W hB hst hdep
      exact st_build rfl (wanted_no rfl) 34 _ rfl (show (#[] : Array (Nat × Operand)).map (fun (i, x) => (i, ac.eval x)) = #[] by simp only [List.map_toArray, List.map_cons, List.map_nil, Act.eval_const]) bld0 rfl (notE rfl)
    · intro ac W hB hst hdep
      have e8 : ac.tmps[8]? = some (.pointer (some ⟨g8, 0, none⟩)) := hst 8 (by decide)
      exact st_load rfl (wanted_no rfl) 34 (.tmp 8) rfl (eval_of e8) ((N8 x)) _ ((RowL.upS (w := W3.drew) R8.out hB).range 0 _ rfl) undN rfl (by kernel_rfl) rfl (notE rfl)
    · intro ac W hB hst hdep
      exact st_build rfl (wanted_no rfl) 34 _ rfl (show (#[(0, .const (.int .u32 1))] : Array (Nat × Operand)).map (fun (i, x) => (i, ac.eval x)) = #[(0, .int .u32 1)] by simp only [List.map_toArray, List.map_cons, List.map_nil, Act.eval_const]) bld1 rfl (notE rfl)
    · intro ac W hB hst hdep
      exact st_alloc rfl (wanted_no rfl) 34 rfl allocN ⟨_, rfl, hB.size, heap_alloc_new _ _⟩
    · intro ac W hB hst hdep
      exact st_alloc rfl (wanted_no rfl) 34 rfl allocN ⟨_, rfl, hB.size, heap_alloc_new _ _⟩
    · intro ac W hB hst hdep
      exact st_alloc rfl (wanted_no rfl) 34 rfl allocN ⟨_, rfl, hB.size, heap_alloc_new _ _⟩
    · intro ac W hB hst hdep
      exact st_alloc rfl (wanted_no rfl) 34 rfl allocN ⟨_, rfl, hB.size, heap_alloc_new _ _⟩
  intro vs hvs wn hbr0 hv hne hSn
  have hbr : Below W3.heap.size W3 wn := ⟨hbr0.os, hbr0.tape, hbr0.output, hbr0.size, hbr0.block⟩
  obtain ⟨v43, v44, v45, v46, v9, v10, v11, v12, rfl⟩ := listr8 vs hvs
  obtain rfl : v43 = .agg (N8 1).toArray := hv 0 _ rfl
  obtain rfl : v44 = .agg (N8 0).toArray := hv 1 _ rfl
  obtain rfl : v45 = .agg (N8 x).toArray := hv 2 _ rfl
  obtain rfl : v46 = .agg (N8 1).toArray := hv 3 _ rfl
  obtain ⟨g9, hg9, hB9, hr9⟩ : IsR W3.heap.size ([.int .u32 0, .int .u32 0, .int .u32 0, .int .u32 0, .int .u32 0, .int .u32 0, .int .u32 0, .int .u32 0]) 34 v9 wn := hv 4 _ rfl
  obtain ⟨g10, hg10, hB10, hr10⟩ : IsR W3.heap.size ([.int .u32 0, .int .u32 0, .int .u32 0, .int .u32 0, .int .u32 0, .int .u32 0, .int .u32 0, .int .u32 0]) 34 v10 wn := hv 5 _ rfl
  obtain ⟨g11, hg11, hB11, hr11⟩ : IsR W3.heap.size ([.int .u32 0, .int .u32 0, .int .u32 0, .int .u32 0, .int .u32 0, .int .u32 0, .int .u32 0, .int .u32 0]) 34 v11 wn := hv 6 _ rfl
  obtain ⟨g12, hg12, hB12, hr12⟩ : IsR W3.heap.size ([.int .u32 0, .int .u32 0, .int .u32 0, .int .u32 0, .int .u32 0, .int .u32 0, .int .u32 0, .int .u32 0]) 34 v12 wn := hv 7 _ rfl
  have K_g9_g10 : Hid (g9 ≠ g10) := Lib.hid (fun e => hne 4 (memE rfl) 5 (memE rfl) (by decide) (by subst hg9; subst hg10; subst e; rfl))
  have K_g9_g11 : Hid (g9 ≠ g11) := Lib.hid (fun e => hne 4 (memE rfl) 6 (memE rfl) (by decide) (by subst hg9; subst hg11; subst e; rfl))
  have K_g9_g12 : Hid (g9 ≠ g12) := Lib.hid (fun e => hne 4 (memE rfl) 7 (memE rfl) (by decide) (by subst hg9; subst hg12; subst e; rfl))
  have K_g10_g11 : Hid (g10 ≠ g11) := Lib.hid (fun e => hne 5 (memE rfl) 6 (memE rfl) (by decide) (by subst hg10; subst hg11; subst e; rfl))
  have K_g10_g12 : Hid (g10 ≠ g12) := Lib.hid (fun e => hne 5 (memE rfl) 7 (memE rfl) (by decide) (by subst hg10; subst hg12; subst e; rfl))
  have K_g11_g12 : Hid (g11 ≠ g12) := Lib.hid (fun e => hne 6 (memE rfl) 7 (memE rfl) (by decide) (by subst hg11; subst hg12; subst e; rfl))
  subst hg9
  subst hg10
  subst hg11
  subst hg12
  clear hvs hv hne
  try simp only [List.zip_cons_cons, List.zip_nil_right, List.zip_nil_left, puts, Act.put, List.setIfInBounds_toArray, List.set_cons_zero, List.set_cons_succ]
  have nB_W7 := Lib.hid (HB3.out.trans (hbr.mono HB3.out.size))
  have h_g4 := R4.out.upS hbr
  have h_g6 := R6.out.upS hbr
  have h_g8 := R8.out.upS hbr
  have K_g4_g9 : Hid (g4 ≠ g9) := Lib.hid (Nat.ne_of_lt (Nat.lt_of_lt_of_le R4.out.lt hB9))
  have K_g6_g9 : Hid (g6 ≠ g9) := Lib.hid (Nat.ne_of_lt (Nat.lt_of_lt_of_le R6.out.lt hB9))
  have K_g8_g9 : Hid (g8 ≠ g9) := Lib.hid (Nat.ne_of_lt (Nat.lt_of_lt_of_le R8.out.lt hB9))
  have U_g9 : Hid (w.heap.size ≤ g9) := Lib.hid (Nat.le_trans HB3.out.size hB9)
  have K_g4_g10 : Hid (g4 ≠ g10) := Lib.hid (Nat.ne_of_lt (Nat.lt_of_lt_of_le R4.out.lt hB10))
  have K_g6_g10 : Hid (g6 ≠ g10) := Lib.hid (Nat.ne_of_lt (Nat.lt_of_lt_of_le R6.out.lt hB10))
  have K_g8_g10 : Hid (g8 ≠ g10) := Lib.hid (Nat.ne_of_lt (Nat.lt_of_lt_of_le R8.out.lt hB10))
  have U_g10 : Hid (w.heap.size ≤ g10) := Lib.hid (Nat.le_trans HB3.out.size hB10)
  have K_g4_g11 : Hid (g4 ≠ g11) := Lib.hid (Nat.ne_of_lt (Nat.lt_of_lt_of_le R4.out.lt hB11))
  have K_g6_g11 : Hid (g6 ≠ g11) := Lib.hid (Nat.ne_of_lt (Nat.lt_of_lt_of_le R6.out.lt hB11))
  have K_g8_g11 : Hid (g8 ≠ g11) := Lib.hid (Nat.ne_of_lt (Nat.lt_of_lt_of_le R8.out.lt hB11))
  have U_g11 : Hid (w.heap.size ≤ g11) := Lib.hid (Nat.le_trans HB3.out.size hB11)
  have K_g4_g12 : Hid (g4 ≠ g12) := Lib.hid (Nat.ne_of_lt (Nat.lt_of_lt_of_le R4.out.lt hB12))
  have K_g6_g12 : Hid (g6 ≠ g12) := Lib.hid (Nat.ne_of_lt (Nat.lt_of_lt_of_le R6.out.lt hB12))
  have K_g8_g12 : Hid (g8 ≠ g12) := Lib.hid (Nat.ne_of_lt (Nat.lt_of_lt_of_le R8.out.lt hB12))
  have U_g12 : Hid (w.heap.size ≤ g12) := Lib.hid (Nat.le_trans HB3.out.size hB12)
  refine tail_storeH (k := 8) (by kernel_rfl) rfl rfl rfl 34 (.tmp 9) (.tmp 43) rfl g9 ((N8 1) : List Value).toArray (by kernel_rfl) (by kernel_rfl) _ _ hr9 (by kernel_rfl) rfl (by kernel_rfl) (RowL.set_ne hSn ((N8 1) : List Value).toArray K_g8_g9.out) ?_
  replace hSn := RowL.set_ne hSn ((N8 1) : List Value).toArray K_g8_g9.out
  replace h_g4 := RowL.set_ne h_g4 ((N8 1) : List Value).toArray K_g4_g9.out
  replace h_g6 := RowL.set_ne h_g6 ((N8 1) : List Value).toArray K_g6_g9.out
  replace h_g8 := RowL.set_ne h_g8 ((N8 1) : List Value).toArray K_g8_g9.out
  replace hr9 := RowL.set hr9 ((N8 1))
  replace hr10 := RowL.set_ne hr10 ((N8 1) : List Value).toArray (Ne.symm K_g9_g10.out)
  replace hr11 := RowL.set_ne hr11 ((N8 1) : List Value).toArray (Ne.symm K_g9_g11.out)
  replace hr12 := RowL.set_ne hr12 ((N8 1) : List Value).toArray (Ne.symm K_g9_g12.out)
  replace nB_W7 := Lib.hid (set_below nB_W7.out U_g9.out ((N8 1) : List Value).toArray)
  refine tail_storeH (k := 9) (by kernel_rfl) rfl rfl rfl 34 (.tmp 10) (.tmp 44) rfl g10 ((N8 0) : List Value).toArray (by kernel_rfl) (by kernel_rfl) _ _ hr10 (by kernel_rfl) rfl (by kernel_rfl) (RowL.set_ne hSn ((N8 0) : List Value).toArray K_g8_g10.out) ?_
  replace hSn := RowL.set_ne hSn ((N8 0) : List Value).toArray K_g8_g10.out
  replace h_g4 := RowL.set_ne h_g4 ((N8 0) : List Value).toArray K_g4_g10.out
  replace h_g6 := RowL.set_ne h_g6 ((N8 0) : List Value).toArray K_g6_g10.out
  replace h_g8 := RowL.set_ne h_g8 ((N8 0) : List Value).toArray K_g8_g10.out
  replace hr9 := RowL.set_ne hr9 ((N8 0) : List Value).toArray K_g9_g10.out
  replace hr10 := RowL.set hr10 ((N8 0))
  replace hr11 := RowL.set_ne hr11 ((N8 0) : List Value).toArray (Ne.symm K_g10_g11.out)
  replace hr12 := RowL.set_ne hr12 ((N8 0) : List Value).toArray (Ne.symm K_g10_g12.out)
  replace nB_W7 := Lib.hid (set_below nB_W7.out U_g10.out ((N8 0) : List Value).toArray)
  refine tail_storeH (k := 10) (by kernel_rfl) rfl rfl rfl 34 (.tmp 11) (.tmp 45) rfl g11 ((N8 x) : List Value).toArray (by kernel_rfl) (by kernel_rfl) _ _ hr11 (by kernel_rfl) rfl (by kernel_rfl) (RowL.set_ne hSn ((N8 x) : List Value).toArray K_g8_g11.out) ?_
  replace hSn := RowL.set_ne hSn ((N8 x) : List Value).toArray K_g8_g11.out
  replace h_g4 := RowL.set_ne h_g4 ((N8 x) : List Value).toArray K_g4_g11.out
  replace h_g6 := RowL.set_ne h_g6 ((N8 x) : List Value).toArray K_g6_g11.out
  replace h_g8 := RowL.set_ne h_g8 ((N8 x) : List Value).toArray K_g8_g11.out
  replace hr9 := RowL.set_ne hr9 ((N8 x) : List Value).toArray K_g9_g11.out
  replace hr10 := RowL.set_ne hr10 ((N8 x) : List Value).toArray K_g10_g11.out
  replace hr11 := RowL.set hr11 ((N8 x))
  replace hr12 := RowL.set_ne hr12 ((N8 x) : List Value).toArray (Ne.symm K_g11_g12.out)
  replace nB_W7 := Lib.hid (set_below nB_W7.out U_g11.out ((N8 x) : List Value).toArray)
  refine tail_storeH (k := 11) (by kernel_rfl) rfl rfl rfl 34 (.tmp 12) (.tmp 46) rfl g12 ((N8 1) : List Value).toArray (by kernel_rfl) (by kernel_rfl) _ _ hr12 (by kernel_rfl) rfl (by kernel_rfl) (RowL.set_ne hSn ((N8 1) : List Value).toArray K_g8_g12.out) ?_
  replace hSn := RowL.set_ne hSn ((N8 1) : List Value).toArray K_g8_g12.out
  replace h_g4 := RowL.set_ne h_g4 ((N8 1) : List Value).toArray K_g4_g12.out
  replace h_g6 := RowL.set_ne h_g6 ((N8 1) : List Value).toArray K_g6_g12.out
  replace h_g8 := RowL.set_ne h_g8 ((N8 1) : List Value).toArray K_g8_g12.out
  replace hr9 := RowL.set_ne hr9 ((N8 1) : List Value).toArray K_g9_g12.out
  replace hr10 := RowL.set_ne hr10 ((N8 1) : List Value).toArray K_g10_g12.out
  replace hr11 := RowL.set_ne hr11 ((N8 1) : List Value).toArray K_g11_g12.out
  replace hr12 := RowL.set hr12 ((N8 1))
  replace nB_W7 := Lib.hid (set_below nB_W7.out U_g12.out ((N8 1) : List Value).toArray)
  refine wpAnyH_done (by kernel_rfl) ?_ _
  have H_g4_W7 := Lib.hid h_g4
  have H_g6_W7 := Lib.hid h_g6
  have H_g8_W7 := Lib.hid h_g8
  have H_g9_W7 := Lib.hid hr9
  have H_g10_W7 := Lib.hid hr10
  have H_g11_W7 := Lib.hid hr11
  have H_g12_W7 := Lib.hid hr12
  clear hbr hbr0 hSn hHeld h_g4 h_g6 h_g8 hr9 hr10 hr11 hr12 hB9 hB10 hB11 hB12 
  generalize ((((wn.setRow g9 ((N8 1) : List Value).toArray).setRow g10 ((N8 0) : List Value).toArray).setRow g11 ((N8 x) : List Value).toArray).setRow g12 ((N8 1) : List Value).toArray) = W7 at *
  clear HB3 R4 R6 R8
  go_wp2_with fail
  go_loopw [13] (fun i wr => ∃ j A B C D : Nat, j ≤ 255 ∧ i = .int .i64 ((j : Int) - 1) ∧ Hid (F (255 - j) = (A, B, C, D)) ∧ Hid (RowL wr g4 ((zs 32).map vb) 50) ∧ Hid (RowL wr g6 (n.map vb) 50) ∧ Hid (RowL wr g8 ((N8 x)) 34) ∧ Hid (RowL wr g9 ((N8 A)) 34) ∧ Hid (RowL wr g10 ((N8 B)) 34) ∧ Hid (RowL wr g11 ((N8 C)) 34) ∧ Hid (RowL wr g12 ((N8 D)) 34) ∧ Hid (Below w.heap.size w wr)) (fun i _ => (intOf i + 1).toNat)
  case atStart => exact ⟨255, 1, 0, x, 1, Nat.le_refl _, rfl, HF0, H_g4_W7, H_g6_W7, H_g8_W7, H_g9_W7, H_g10_W7, H_g11_W7, H_g12_W7, nB_W7⟩
  case round =>
    obtain ⟨j, A, B, C, D, hj, rfl, hFk, r4, r6, r8, r9, r10, r11, r12, hB0⟩ := hrel
    clear HF0 nB_W7 H_g4_W7 H_g6_W7 H_g8_W7 H_g9_W7 H_g10_W7 H_g11_W7 H_g12_W7
    have h4 := HF4.out (255 - j)
    rw [hFk.out] at h4
    have ZA : Hid (A < W4) := Lib.hid h4.a; have ZB : Hid (B < W4) := Lib.hid h4.b; have ZC : Hid (C < W4) := Lib.hid h4.c; have ZD : Hid (D < W4) := Lib.hid h4.d
    clear h4
    cases j with
    | succ m =>
      have e1 : ((m + 1 : Nat) : Int) - 1 = (m : Int) := by omega
      rw [e1]
      clear e1
      have hm0 : (0 : Int) ≤ (m : Int) := by omega
      have hm1 : (m : Int) ≤ 254 := by omega
      obtain ⟨qq, hqq⟩ : ∃ qq : Nat, qq = m / 8 := ⟨_, rfl⟩
      obtain ⟨r, hr⟩ : ∃ r : Nat, r = m % 8 := ⟨_, rfl⟩
      have hq32 : qq < 32 := by omega
      have hr8 : r < 8 := by omega
      have eq1 : (m : Int) / 8 = (qq : Int) := by omega
      have er1 : (m : Int) % 8 = (r : Int) := by omega
      obtain ⟨y, hy⟩ : ∃ y : UInt8, y = n.getD qq 0 := ⟨_, rfl⟩
      have cy : wr.cell? ⟨g6, qq, none⟩ = some (.int .u8 (y.toNat : Int)) := by rw [cell_of_row _ _ _ _ _ _ r6.out, hy]; simp [vb, HNL.out, hq32]
      obtain ⟨z, hz⟩ : ∃ z : Nat, z = y.toNat / 2 ^ r := ⟨_, rfl⟩
      have hz256 : z < 256 := by rw [hz]; exact Nat.lt_of_le_of_lt (Nat.div_le_self _ _) y.toNat_lt
      have ez : (y.toNat : Int) / 2 ^ r = (z : Int) := by rw [hz]; simp
      have z0 : (0 : Int) ≤ (z : Int) := by omega
      have z1 : (z : Int) ≤ 255 := by omega
      have hbc : bitC n m = decide (z % 2 = 1) := by rw [hz]; simp only [bitC, hy, hqq, hr]
      obtain ⟨kk, hkk⟩ : ∃ kk, kk = 255 - (m + 1) := ⟨_, rfl⟩
      rw [← hkk] at hFk
      have hk1 : 255 - m = kk + 1 := by omega
      have hbt : 254 - kk = m := by omega
      have hst : F (255 - m) = ladS x (bitC n m) (A, B, C, D) := by rw [hk1, HFS.out kk, hbt, hFk.out]
      have HST := Lib.hid hst
      have HBC := Lib.hid hbc
      have Hm := Lib.hid (show m ≤ 255 by omega)
      clear hqq hr hy hz hk1 hbt hkk hst hbc hFk
      by_cases hb : z % 2 = 1
      · have eb : (z : Int) % 2 = 1 := by omega
        have HB := Lib.hid hb
        clear hb
        obtain ⟨a, qa⟩ : ∃ a, a = sumP [C, D] := ⟨_, rfl⟩
        obtain ⟨b, qb⟩ : ∃ b, b = subN C D := ⟨_, rfl⟩
        obtain ⟨c, qc⟩ : ∃ c, c = sumP [A, B] := ⟨_, rfl⟩
        obtain ⟨d, qd⟩ : ∃ d, d = subN A B := ⟨_, rfl⟩
        obtain ⟨da, qda⟩ : ∃ da, da = prodP [d, a] := ⟨_, rfl⟩
        obtain ⟨cb, qcb⟩ : ∃ cb, cb = prodP [c, b] := ⟨_, rfl⟩
        obtain ⟨aa, qaa⟩ : ∃ aa, aa = a * a % PP := ⟨_, rfl⟩
        obtain ⟨bb, qbb⟩ : ∃ bb, bb = b * b % PP := ⟨_, rfl⟩
        obtain ⟨ee, qee⟩ : ∃ ee, ee = subN aa bb := ⟨_, rfl⟩
        obtain ⟨pe, qpe⟩ : ∃ pe, pe = prodP [121665, ee] := ⟨_, rfl⟩
        obtain ⟨se, qse⟩ : ∃ se, se = sumP [aa, pe] := ⟨_, rfl⟩
        obtain ⟨E1, qE1⟩ : ∃ E1, E1 = prodP [aa, bb] := ⟨_, rfl⟩
        obtain ⟨U1, qU1⟩ : ∃ U1, U1 = prodP [ee, se] := ⟨_, rfl⟩
        obtain ⟨s, qs⟩ : ∃ s, s = sumP [da, cb] := ⟨_, rfl⟩
        obtain ⟨t, qt⟩ : ∃ t, t = subN da cb := ⟨_, rfl⟩
        obtain ⟨E2, qE2⟩ : ∃ E2, E2 = s * s % PP := ⟨_, rfl⟩
        obtain ⟨tt, qtt⟩ : ∃ tt, tt = t * t % PP := ⟨_, rfl⟩
        obtain ⟨U2, qU2⟩ : ∃ U2, U2 = prodP [x, tt] := ⟨_, rfl⟩
        have Za : Hid (a < W4) := Lib.hid (by rw [qa]; exact sumP_lt4 _)
        have Zb : Hid (b < W4) := Lib.hid (by rw [qb]; exact subN_lt _ _)
        have Zc : Hid (c < W4) := Lib.hid (by rw [qc]; exact sumP_lt4 _)
        have Zd : Hid (d < W4) := Lib.hid (by rw [qd]; exact subN_lt _ _)
        have Zda : Hid (da < W4) := Lib.hid (by rw [qda]; exact prodP_lt4 _)
        have Zcb : Hid (cb < W4) := Lib.hid (by rw [qcb]; exact prodP_lt4 _)
        have Zaa : Hid (aa < W4) := Lib.hid (by rw [qaa]; exact mod_lt4 _)
        have Zbb : Hid (bb < W4) := Lib.hid (by rw [qbb]; exact mod_lt4 _)
        have Zee : Hid (ee < W4) := Lib.hid (by rw [qee]; exact subN_lt _ _)
        have Zpe : Hid (pe < W4) := Lib.hid (by rw [qpe]; exact prodP_lt4 _)
        have Zse : Hid (se < W4) := Lib.hid (by rw [qse]; exact sumP_lt4 _)
        have ZE1 : Hid (E1 < W4) := Lib.hid (by rw [qE1]; exact prodP_lt4 _)
        have ZU1 : Hid (U1 < W4) := Lib.hid (by rw [qU1]; exact prodP_lt4 _)
        have Zs : Hid (s < W4) := Lib.hid (by rw [qs]; exact sumP_lt4 _)
        have Zt : Hid (t < W4) := Lib.hid (by rw [qt]; exact subN_lt _ _)
        have ZE2 : Hid (E2 < W4) := Lib.hid (by rw [qE2]; exact mod_lt4 _)
        have Ztt : Hid (tt < W4) := Lib.hid (by rw [qtt]; exact mod_lt4 _)
        have ZU2 : Hid (U2 < W4) := Lib.hid (by rw [qU2]; exact prodP_lt4 _)
        have Qa := Lib.hid qa
        have Qb := Lib.hid qb
        have Qc := Lib.hid qc
        have Qd := Lib.hid qd
        have Qda := Lib.hid qda
        have Qcb := Lib.hid qcb
        have Qaa := Lib.hid qaa
        have Qbb := Lib.hid qbb
        have Qee := Lib.hid qee
        have Qpe := Lib.hid qpe
        have Qse := Lib.hid qse
        have QE1 := Lib.hid qE1
        have QU1 := Lib.hid qU1
        have Qs := Lib.hid qs
        have Qt := Lib.hid qt
        have QE2 := Lib.hid qE2
        have Qtt := Lib.hid qtt
        have QU2 := Lib.hid qU2
        have hrung : rungN x C D A B = (E1, U1, E2, U2) := by subst qU2 qtt qE2 qt qs qU1 qE1 qse qpe qee qbb qaa qcb qda qd qc qb qa; rfl
        have HRU := Lib.hid hrung
        clear hrung qa qb qc qd qda qcb qaa qbb qee qpe qse qE1 qU1 qs qt qE2 qtt qU2
        go_upto_region 13 with fail
        have s1_g4 := Lib.hid (RowL.set_ne (w := wr.drew) r4.out ((N8 C) : List Value).toArray K_g4_g9.out)
        have s1_g6 := Lib.hid (RowL.set_ne (w := wr.drew) r6.out ((N8 C) : List Value).toArray K_g6_g9.out)
        have s1_g8 := Lib.hid (RowL.set_ne (w := wr.drew) r8.out ((N8 C) : List Value).toArray K_g8_g9.out)
        have s1_g9 := Lib.hid (RowL.set (w := wr.drew) r9.out ((N8 C)))
        have s1_g10 := Lib.hid (RowL.set_ne (w := wr.drew) r10.out ((N8 C) : List Value).toArray (Ne.symm K_g9_g10.out))
        have s1_g11 := Lib.hid (RowL.set_ne (w := wr.drew) r11.out ((N8 C) : List Value).toArray (Ne.symm K_g9_g11.out))
        have s1_g12 := Lib.hid (RowL.set_ne (w := wr.drew) r12.out ((N8 C) : List Value).toArray (Ne.symm K_g9_g12.out))
        have s2_g4 := Lib.hid (RowL.set_ne (w := ((wr.drew).setRow g9 ((N8 C) : List Value).toArray)) s1_g4.out ((N8 D) : List Value).toArray K_g4_g10.out)
        have s2_g6 := Lib.hid (RowL.set_ne (w := ((wr.drew).setRow g9 ((N8 C) : List Value).toArray)) s1_g6.out ((N8 D) : List Value).toArray K_g6_g10.out)
        have s2_g8 := Lib.hid (RowL.set_ne (w := ((wr.drew).setRow g9 ((N8 C) : List Value).toArray)) s1_g8.out ((N8 D) : List Value).toArray K_g8_g10.out)
        have s2_g9 := Lib.hid (RowL.set_ne (w := ((wr.drew).setRow g9 ((N8 C) : List Value).toArray)) s1_g9.out ((N8 D) : List Value).toArray K_g9_g10.out)
        have s2_g10 := Lib.hid (RowL.set (w := ((wr.drew).setRow g9 ((N8 C) : List Value).toArray)) s1_g10.out ((N8 D)))
        have s2_g11 := Lib.hid (RowL.set_ne (w := ((wr.drew).setRow g9 ((N8 C) : List Value).toArray)) s1_g11.out ((N8 D) : List Value).toArray (Ne.symm K_g10_g11.out))
        have s2_g12 := Lib.hid (RowL.set_ne (w := ((wr.drew).setRow g9 ((N8 C) : List Value).toArray)) s1_g12.out ((N8 D) : List Value).toArray (Ne.symm K_g10_g12.out))
        have s3_g4 := Lib.hid (RowL.set_ne (w := ((((wr.drew).setRow g9 ((N8 C) : List Value).toArray)).setRow g10 ((N8 D) : List Value).toArray)) s2_g4.out ((N8 A) : List Value).toArray K_g4_g11.out)
        have s3_g6 := Lib.hid (RowL.set_ne (w := ((((wr.drew).setRow g9 ((N8 C) : List Value).toArray)).setRow g10 ((N8 D) : List Value).toArray)) s2_g6.out ((N8 A) : List Value).toArray K_g6_g11.out)
        have s3_g8 := Lib.hid (RowL.set_ne (w := ((((wr.drew).setRow g9 ((N8 C) : List Value).toArray)).setRow g10 ((N8 D) : List Value).toArray)) s2_g8.out ((N8 A) : List Value).toArray K_g8_g11.out)
        have s3_g9 := Lib.hid (RowL.set_ne (w := ((((wr.drew).setRow g9 ((N8 C) : List Value).toArray)).setRow g10 ((N8 D) : List Value).toArray)) s2_g9.out ((N8 A) : List Value).toArray K_g9_g11.out)
        have s3_g10 := Lib.hid (RowL.set_ne (w := ((((wr.drew).setRow g9 ((N8 C) : List Value).toArray)).setRow g10 ((N8 D) : List Value).toArray)) s2_g10.out ((N8 A) : List Value).toArray K_g10_g11.out)
        have s3_g11 := Lib.hid (RowL.set (w := ((((wr.drew).setRow g9 ((N8 C) : List Value).toArray)).setRow g10 ((N8 D) : List Value).toArray)) s2_g11.out ((N8 A)))
        have s3_g12 := Lib.hid (RowL.set_ne (w := ((((wr.drew).setRow g9 ((N8 C) : List Value).toArray)).setRow g10 ((N8 D) : List Value).toArray)) s2_g12.out ((N8 A) : List Value).toArray (Ne.symm K_g11_g12.out))
        have s4_g4 := Lib.hid (RowL.set_ne (w := ((((((wr.drew).setRow g9 ((N8 C) : List Value).toArray)).setRow g10 ((N8 D) : List Value).toArray)).setRow g11 ((N8 A) : List Value).toArray)) s3_g4.out ((N8 B) : List Value).toArray K_g4_g12.out)
        have s4_g6 := Lib.hid (RowL.set_ne (w := ((((((wr.drew).setRow g9 ((N8 C) : List Value).toArray)).setRow g10 ((N8 D) : List Value).toArray)).setRow g11 ((N8 A) : List Value).toArray)) s3_g6.out ((N8 B) : List Value).toArray K_g6_g12.out)
        have s4_g8 := Lib.hid (RowL.set_ne (w := ((((((wr.drew).setRow g9 ((N8 C) : List Value).toArray)).setRow g10 ((N8 D) : List Value).toArray)).setRow g11 ((N8 A) : List Value).toArray)) s3_g8.out ((N8 B) : List Value).toArray K_g8_g12.out)
        have s4_g9 := Lib.hid (RowL.set_ne (w := ((((((wr.drew).setRow g9 ((N8 C) : List Value).toArray)).setRow g10 ((N8 D) : List Value).toArray)).setRow g11 ((N8 A) : List Value).toArray)) s3_g9.out ((N8 B) : List Value).toArray K_g9_g12.out)
        have s4_g10 := Lib.hid (RowL.set_ne (w := ((((((wr.drew).setRow g9 ((N8 C) : List Value).toArray)).setRow g10 ((N8 D) : List Value).toArray)).setRow g11 ((N8 A) : List Value).toArray)) s3_g10.out ((N8 B) : List Value).toArray K_g10_g12.out)
        have s4_g11 := Lib.hid (RowL.set_ne (w := ((((((wr.drew).setRow g9 ((N8 C) : List Value).toArray)).setRow g10 ((N8 D) : List Value).toArray)).setRow g11 ((N8 A) : List Value).toArray)) s3_g11.out ((N8 B) : List Value).toArray K_g11_g12.out)
        have s4_g12 := Lib.hid (RowL.set (w := ((((((wr.drew).setRow g9 ((N8 C) : List Value).toArray)).setRow g10 ((N8 D) : List Value).toArray)).setRow g11 ((N8 A) : List Value).toArray)) s3_g12.out ((N8 B)))
        have nB_Ws := Lib.hid (set_below (set_below (set_below (set_below (Below.drew hB0.out) U_g9.out ((N8 C) : List Value).toArray) U_g10.out ((N8 D) : List Value).toArray) U_g11.out ((N8 A) : List Value).toArray) U_g12.out ((N8 B) : List Value).toArray)
        refine wp_region_swap 4 [61, 62, 63, 64] [.agg (N8 C).toArray, .agg (N8 D).toArray, .agg (N8 A).toArray, .agg (N8 B).toArray] (fun s => match s with | 0 => wr.drew | 1 => ((wr.drew).setRow g9 ((N8 C) : List Value).toArray) | 2 => ((((wr.drew).setRow g9 ((N8 C) : List Value).toArray)).setRow g10 ((N8 D) : List Value).toArray) | 3 => ((((((wr.drew).setRow g9 ((N8 C) : List Value).toArray)).setRow g10 ((N8 D) : List Value).toArray)).setRow g11 ((N8 A) : List Value).toArray) | _ => ((((((((wr.drew).setRow g9 ((N8 C) : List Value).toArray)).setRow g10 ((N8 D) : List Value).toArray)).setRow g11 ((N8 A) : List Value).toArray)).setRow g12 ((N8 B) : List Value).toArray)) (by kernel_rfl) rfl rfl (by kernel_rfl) rfl rfl (by kernel_rfl) (by kernel_rfl) (by kernel_rfl) ?_ ?_ ?_
        · intro i v s hv hs hno
          have hi4 : i < 4 := (List.getElem?_eq_some_iff.1 hv).1
          rcases (show i = 0 ∨ i = 1 ∨ i = 2 ∨ i = 3 by omega) with rfl | rfl | rfl | rfl
          · obtain rfl : .agg (N8 C).toArray = v := by simpa using hv
            have hs2 : s ≤ 0 := by
              refine Decidable.byContradiction fun hc => hno 0 (by omega) (memE (by kernel_rfl))
            rcases (show s = 0 by omega) with rfl
            · intro a hst
              exact ⟨_, rfl, rfl, fun K hK => wp_load_mid 34 (.tmp 11) rfl g11 0 (eval_of (hst 11 (by decide))) ((N8 C)) _ (RowL.range (w := wr.drew) r11.out 0 _ rfl) undN rfl (by kernel_rfl) hK⟩
          · obtain rfl : .agg (N8 D).toArray = v := by simpa using hv
            have hs2 : s ≤ 1 := by
              refine Decidable.byContradiction fun hc => hno 1 (by omega) (memE (by kernel_rfl))
            rcases (show s = 0 ∨ s = 1 by omega) with rfl | rfl
            · intro a hst
              exact ⟨_, rfl, rfl, fun K hK => wp_load_mid 34 (.tmp 12) rfl g12 0 (eval_of (hst 12 (by decide))) ((N8 D)) _ (RowL.range (w := wr.drew) r12.out 0 _ rfl) undN rfl (by kernel_rfl) hK⟩
            · intro a hst
              exact ⟨_, rfl, rfl, fun K hK => wp_load_mid 34 (.tmp 12) rfl g12 0 (eval_of (hst 12 (by decide))) ((N8 D)) _ (RowL.range (w := ((wr.drew).setRow g9 ((N8 C) : List Value).toArray)) s1_g12.out 0 _ rfl) undN rfl (by kernel_rfl) hK⟩
          · obtain rfl : .agg (N8 A).toArray = v := by simpa using hv
            have hs2 : s ≤ 0 := by
              refine Decidable.byContradiction fun hc => hno 0 (by omega) (memE (by kernel_rfl))
            rcases (show s = 0 by omega) with rfl
            · intro a hst
              exact ⟨_, rfl, rfl, fun K hK => wp_load_mid 34 (.tmp 9) rfl g9 0 (eval_of (hst 9 (by decide))) ((N8 A)) _ (RowL.range (w := wr.drew) r9.out 0 _ rfl) undN rfl (by kernel_rfl) hK⟩
          · obtain rfl : .agg (N8 B).toArray = v := by simpa using hv
            have hs2 : s ≤ 0 := by
              refine Decidable.byContradiction fun hc => hno 0 (by omega) (memE (by kernel_rfl))
            rcases (show s = 0 by omega) with rfl
            · intro a hst
              exact ⟨_, rfl, rfl, fun K hK => wp_load_mid 34 (.tmp 10) rfl g10 0 (eval_of (hst 10 (by decide))) ((N8 B)) _ (RowL.range (w := wr.drew) r10.out 0 _ rfl) undN rfl (by kernel_rfl) hK⟩
        · intro s hs
          have hs4 : s < 4 := by simp at hs; omega
          rcases (show s = 0 ∨ s = 1 ∨ s = 2 ∨ s = 3 by omega) with rfl | rfl | rfl | rfl
          · intro a hst hval
            exact ⟨_, rfl, rfl, rfl, fun K hK => wp_store_row 34 (.tmp 9) (.tmp 61) rfl g9 ((N8 C) : List Value).toArray (eval_of (hst 9 (by decide))) (eval_of (hval 0 61 _ (memE (by kernel_rfl)) rfl rfl)) 34 _ r9.out (by kernel_rfl) rfl (by kernel_rfl) hK⟩
          · intro a hst hval
            exact ⟨_, rfl, rfl, rfl, fun K hK => wp_store_row 34 (.tmp 10) (.tmp 62) rfl g10 ((N8 D) : List Value).toArray (eval_of (hst 10 (by decide))) (eval_of (hval 1 62 _ (memE (by kernel_rfl)) rfl rfl)) 34 _ s1_g10.out (by kernel_rfl) rfl (by kernel_rfl) hK⟩
          · intro a hst hval
            exact ⟨_, rfl, rfl, rfl, fun K hK => wp_store_row 34 (.tmp 11) (.tmp 63) rfl g11 ((N8 A) : List Value).toArray (eval_of (hst 11 (by decide))) (eval_of (hval 2 63 _ (memE (by kernel_rfl)) rfl rfl)) 34 _ s2_g11.out (by kernel_rfl) rfl (by kernel_rfl) hK⟩
          · intro a hst hval
            exact ⟨_, rfl, rfl, rfl, fun K hK => wp_store_row 34 (.tmp 12) (.tmp 64) rfl g12 ((N8 B) : List Value).toArray (eval_of (hst 12 (by decide))) (eval_of (hval 3 64 _ (memE (by kernel_rfl)) rfl rfl)) 34 _ s3_g12.out (by kernel_rfl) rfl (by kernel_rfl) hK⟩
        try simp only [List.zip_cons_cons, List.zip_nil_right, List.zip_nil_left, puts, Act.put, List.setIfInBounds_toArray, List.set_cons_zero, List.set_cons_succ]
        have H_g4_Ws := Lib.hid s4_g4.out
        have H_g6_Ws := Lib.hid s4_g6.out
        have H_g8_Ws := Lib.hid s4_g8.out
        have H_g9_Ws := Lib.hid s4_g9.out
        have H_g10_Ws := Lib.hid s4_g10.out
        have H_g11_Ws := Lib.hid s4_g11.out
        have H_g12_Ws := Lib.hid s4_g12.out
        clear s1_g4 s1_g6 s1_g8 s1_g9 s1_g10 s1_g11 s1_g12 s2_g4 s2_g6 s2_g8 s2_g9 s2_g10 s2_g11 s2_g12 s3_g4 s3_g6 s3_g8 s3_g9 s3_g10 s3_g11 s3_g12 s4_g4 s4_g6 s4_g8 s4_g9 s4_g10 s4_g11 s4_g12
        generalize hgw : ((((((((wr.drew).setRow g9 ((N8 C) : List Value).toArray)).setRow g10 ((N8 D) : List Value).toArray)).setRow g11 ((N8 A) : List Value).toArray)).setRow g12 ((N8 B) : List Value).toArray) = Ws at *
        clear hgw hB0 r4 r6 r8 r9 r10 r11 r12
        go_upto_region 14 with fail
        refine wp_region_seq 4 [65, 66, 67, 15] (phi [IsV (.agg (N8 C).toArray), IsV (.agg (N8 D).toArray), IsV (.agg (N8 a).toArray), IsR Ws.heap.size ([.int .u32 0, .int .u32 0, .int .u32 0, .int .u32 0, .int .u32 0, .int .u32 0, .int .u32 0, .int .u32 0]) 34]) [3] rfl (by kernel_rfl) rfl rfl (by kernel_rfl) rfl (by kernel_rfl) (by kernel_rfl) (phi_mono (by repeat (first | exact mono_v _ | exact mono_r _ _ _ | exact mono_s _ _ _ | exact trivial | refine ⟨?_, ?_⟩))) ?_ ?_
        · intro i hi
          rcases (show i = 0 ∨ i = 1 ∨ i = 2 ∨ i = 3 by omega) with rfl | rfl | rfl | rfl
          · intro ac W hB hst hdep
            have e9 : ac.tmps[9]? = some (.pointer (some ⟨g9, 0, none⟩)) := hst 9 (by decide)
            exact st_load rfl (wanted_no rfl) 34 (.tmp 9) rfl (eval_of e9) ((N8 C)) _ ((RowL.upS (w := Ws) H_g9_Ws.out hB).range 0 _ rfl) undN rfl (by kernel_rfl) rfl (notE rfl)
          · intro ac W hB hst hdep
            have e10 : ac.tmps[10]? = some (.pointer (some ⟨g10, 0, none⟩)) := hst 10 (by decide)
            exact st_load rfl (wanted_no rfl) 34 (.tmp 10) rfl (eval_of e10) ((N8 D)) _ ((RowL.upS (w := Ws) H_g10_Ws.out hB).range 0 _ rfl) undN rfl (by kernel_rfl) rfl (notE rfl)
          · intro ac W hB hst hdep
            obtain ⟨x65, e65, h65⟩ := hdep 0 (memE (by kernel_rfl)) 65 rfl
            replace h65 : x65 = .agg (N8 C).toArray := h65
            subst h65
            obtain ⟨x66, e66, h66⟩ := hdep 1 (memE (by kernel_rfl)) 66 rfl
            replace h66 : x66 = .agg (N8 D).toArray := h66
            subst h66
            exact st_call rfl (wanted_no rfl) rfl (show (#[.tmp 65, .tmp 66] : Array Operand).map ac.eval = (#[.agg (N8 C).toArray, .agg (N8 D).toArray] : Array Value) by simp only [List.map_toArray, List.map_cons, List.map_nil, Act.eval_const, eval_of e65, eval_of e66]) (fun _ => by kernel_rfl) (Calls.mono (addR ZC.out ZD.out (Qa.out.trans (sumP2 _ _))) fun e w' h => ⟨_, h.1, h.2, rfl⟩) (notE rfl)
          · intro ac W hB hst hdep
            exact st_alloc rfl (wanted_no rfl) 34 rfl allocN ⟨_, rfl, hB.size, heap_alloc_new _ _⟩
        intro vs hvs wn hbr hv hne
        obtain ⟨v65, v66, v67, v15, rfl⟩ := listr4 vs hvs
        obtain rfl : v65 = .agg (N8 C).toArray := hv 0 _ rfl
        obtain rfl : v66 = .agg (N8 D).toArray := hv 1 _ rfl
        obtain rfl : v67 = .agg (N8 a).toArray := hv 2 _ rfl
        obtain ⟨g15, hg15, hB15, hr15⟩ : IsR Ws.heap.size ([.int .u32 0, .int .u32 0, .int .u32 0, .int .u32 0, .int .u32 0, .int .u32 0, .int .u32 0, .int .u32 0]) 34 v15 wn := hv 3 _ rfl
        subst hg15
        clear hvs hv hne
        try simp only [List.zip_cons_cons, List.zip_nil_right, List.zip_nil_left, puts, Act.put, List.setIfInBounds_toArray, List.set_cons_zero, List.set_cons_succ]
        have nB_Wm14 := Lib.hid (nB_Ws.out.trans (hbr.mono nB_Ws.out.size))
        have h_g4 := H_g4_Ws.out.upS hbr
        have h_g6 := H_g6_Ws.out.upS hbr
        have h_g8 := H_g8_Ws.out.upS hbr
        have h_g9 := H_g9_Ws.out.upS hbr
        have h_g10 := H_g10_Ws.out.upS hbr
        have h_g11 := H_g11_Ws.out.upS hbr
        have h_g12 := H_g12_Ws.out.upS hbr
        have K_g4_g15 : Hid (g4 ≠ g15) := Lib.hid (Nat.ne_of_lt (Nat.lt_of_lt_of_le H_g4_Ws.out.lt hB15))
        have K_g6_g15 : Hid (g6 ≠ g15) := Lib.hid (Nat.ne_of_lt (Nat.lt_of_lt_of_le H_g6_Ws.out.lt hB15))
        have K_g8_g15 : Hid (g8 ≠ g15) := Lib.hid (Nat.ne_of_lt (Nat.lt_of_lt_of_le H_g8_Ws.out.lt hB15))
        have K_g9_g15 : Hid (g9 ≠ g15) := Lib.hid (Nat.ne_of_lt (Nat.lt_of_lt_of_le H_g9_Ws.out.lt hB15))
        have K_g10_g15 : Hid (g10 ≠ g15) := Lib.hid (Nat.ne_of_lt (Nat.lt_of_lt_of_le H_g10_Ws.out.lt hB15))
        have K_g11_g15 : Hid (g11 ≠ g15) := Lib.hid (Nat.ne_of_lt (Nat.lt_of_lt_of_le H_g11_Ws.out.lt hB15))
        have K_g12_g15 : Hid (g12 ≠ g15) := Lib.hid (Nat.ne_of_lt (Nat.lt_of_lt_of_le H_g12_Ws.out.lt hB15))
        have U_g15 : Hid (w.heap.size ≤ g15) := Lib.hid (Nat.le_trans nB_Ws.out.size hB15)
        refine tail_store (k := 4) (by kernel_rfl) rfl rfl rfl 34 (.tmp 15) (.tmp 67) rfl g15 ((N8 a) : List Value).toArray (by kernel_rfl) (by kernel_rfl) _ _ hr15 (by kernel_rfl) rfl (by kernel_rfl) ?_
        replace h_g4 := RowL.set_ne h_g4 ((N8 a) : List Value).toArray K_g4_g15.out
        replace h_g6 := RowL.set_ne h_g6 ((N8 a) : List Value).toArray K_g6_g15.out
        replace h_g8 := RowL.set_ne h_g8 ((N8 a) : List Value).toArray K_g8_g15.out
        replace h_g9 := RowL.set_ne h_g9 ((N8 a) : List Value).toArray K_g9_g15.out
        replace h_g10 := RowL.set_ne h_g10 ((N8 a) : List Value).toArray K_g10_g15.out
        replace h_g11 := RowL.set_ne h_g11 ((N8 a) : List Value).toArray K_g11_g15.out
        replace h_g12 := RowL.set_ne h_g12 ((N8 a) : List Value).toArray K_g12_g15.out
        replace hr15 := RowL.set hr15 ((N8 a))
        replace nB_Wm14 := Lib.hid (set_below nB_Wm14.out U_g15.out ((N8 a) : List Value).toArray)
        refine wpAny_done (by kernel_rfl) ?_ _
        have H_g4_Wm14 := Lib.hid h_g4
        have H_g6_Wm14 := Lib.hid h_g6
        have H_g8_Wm14 := Lib.hid h_g8
        have H_g9_Wm14 := Lib.hid h_g9
        have H_g10_Wm14 := Lib.hid h_g10
        have H_g11_Wm14 := Lib.hid h_g11
        have H_g12_Wm14 := Lib.hid h_g12
        have H_g15_Wm14 := Lib.hid hr15
        clear hbr h_g4 h_g6 h_g8 h_g9 h_g10 h_g11 h_g12 hr15 hB15 
        generalize (wn.setRow g15 ((N8 a) : List Value).toArray) = Wm14 at *
        clear nB_Ws H_g4_Ws H_g6_Ws H_g8_Ws H_g9_Ws H_g10_Ws H_g11_Ws H_g12_Ws
        go_upto_region 15 with fail
        refine wp_region_seq 4 [68, 69, 70, 16] (phi [IsV (.agg (N8 C).toArray), IsV (.agg (N8 D).toArray), IsV (.agg (N8 b).toArray), IsR Wm14.heap.size ([.int .u32 0, .int .u32 0, .int .u32 0, .int .u32 0, .int .u32 0, .int .u32 0, .int .u32 0, .int .u32 0]) 34]) [3] rfl (by kernel_rfl) rfl rfl (by kernel_rfl) rfl (by kernel_rfl) (by kernel_rfl) (phi_mono (by repeat (first | exact mono_v _ | exact mono_r _ _ _ | exact mono_s _ _ _ | exact trivial | refine ⟨?_, ?_⟩))) ?_ ?_
        · intro i hi
          rcases (show i = 0 ∨ i = 1 ∨ i = 2 ∨ i = 3 by omega) with rfl | rfl | rfl | rfl
          · intro ac W hB hst hdep
            have e9 : ac.tmps[9]? = some (.pointer (some ⟨g9, 0, none⟩)) := hst 9 (by decide)
            exact st_load rfl (wanted_no rfl) 34 (.tmp 9) rfl (eval_of e9) ((N8 C)) _ ((RowL.upS (w := Wm14) H_g9_Wm14.out hB).range 0 _ rfl) undN rfl (by kernel_rfl) rfl (notE rfl)
          · intro ac W hB hst hdep
            have e10 : ac.tmps[10]? = some (.pointer (some ⟨g10, 0, none⟩)) := hst 10 (by decide)
            exact st_load rfl (wanted_no rfl) 34 (.tmp 10) rfl (eval_of e10) ((N8 D)) _ ((RowL.upS (w := Wm14) H_g10_Wm14.out hB).range 0 _ rfl) undN rfl (by kernel_rfl) rfl (notE rfl)
          · intro ac W hB hst hdep
            obtain ⟨x68, e68, h68⟩ := hdep 0 (memE (by kernel_rfl)) 68 rfl
            replace h68 : x68 = .agg (N8 C).toArray := h68
            subst h68
            obtain ⟨x69, e69, h69⟩ := hdep 1 (memE (by kernel_rfl)) 69 rfl
            replace h69 : x69 = .agg (N8 D).toArray := h69
            subst h69
            exact st_call rfl (wanted_no rfl) rfl (show (#[.tmp 68, .tmp 69] : Array Operand).map ac.eval = (#[.agg (N8 C).toArray, .agg (N8 D).toArray] : Array Value) by simp only [List.map_toArray, List.map_cons, List.map_nil, Act.eval_const, eval_of e68, eval_of e69]) (fun _ => by kernel_rfl) (Calls.mono (subR ZC.out ZD.out (Qb.out)) fun e w' h => ⟨_, h.1, h.2, rfl⟩) (notE rfl)
          · intro ac W hB hst hdep
            exact st_alloc rfl (wanted_no rfl) 34 rfl allocN ⟨_, rfl, hB.size, heap_alloc_new _ _⟩
        intro vs hvs wn hbr hv hne
        obtain ⟨v68, v69, v70, v16, rfl⟩ := listr4 vs hvs
        obtain rfl : v68 = .agg (N8 C).toArray := hv 0 _ rfl
        obtain rfl : v69 = .agg (N8 D).toArray := hv 1 _ rfl
        obtain rfl : v70 = .agg (N8 b).toArray := hv 2 _ rfl
        obtain ⟨g16, hg16, hB16, hr16⟩ : IsR Wm14.heap.size ([.int .u32 0, .int .u32 0, .int .u32 0, .int .u32 0, .int .u32 0, .int .u32 0, .int .u32 0, .int .u32 0]) 34 v16 wn := hv 3 _ rfl
        subst hg16
        clear hvs hv hne
        try simp only [List.zip_cons_cons, List.zip_nil_right, List.zip_nil_left, puts, Act.put, List.setIfInBounds_toArray, List.set_cons_zero, List.set_cons_succ]
        have nB_Wm15 := Lib.hid (nB_Wm14.out.trans (hbr.mono nB_Wm14.out.size))
        have h_g4 := H_g4_Wm14.out.upS hbr
        have h_g6 := H_g6_Wm14.out.upS hbr
        have h_g8 := H_g8_Wm14.out.upS hbr
        have h_g9 := H_g9_Wm14.out.upS hbr
        have h_g10 := H_g10_Wm14.out.upS hbr
        have h_g11 := H_g11_Wm14.out.upS hbr
        have h_g12 := H_g12_Wm14.out.upS hbr
        have h_g15 := H_g15_Wm14.out.upS hbr
        have K_g4_g16 : Hid (g4 ≠ g16) := Lib.hid (Nat.ne_of_lt (Nat.lt_of_lt_of_le H_g4_Wm14.out.lt hB16))
        have K_g6_g16 : Hid (g6 ≠ g16) := Lib.hid (Nat.ne_of_lt (Nat.lt_of_lt_of_le H_g6_Wm14.out.lt hB16))
        have K_g8_g16 : Hid (g8 ≠ g16) := Lib.hid (Nat.ne_of_lt (Nat.lt_of_lt_of_le H_g8_Wm14.out.lt hB16))
        have K_g9_g16 : Hid (g9 ≠ g16) := Lib.hid (Nat.ne_of_lt (Nat.lt_of_lt_of_le H_g9_Wm14.out.lt hB16))
        have K_g10_g16 : Hid (g10 ≠ g16) := Lib.hid (Nat.ne_of_lt (Nat.lt_of_lt_of_le H_g10_Wm14.out.lt hB16))
        have K_g11_g16 : Hid (g11 ≠ g16) := Lib.hid (Nat.ne_of_lt (Nat.lt_of_lt_of_le H_g11_Wm14.out.lt hB16))
        have K_g12_g16 : Hid (g12 ≠ g16) := Lib.hid (Nat.ne_of_lt (Nat.lt_of_lt_of_le H_g12_Wm14.out.lt hB16))
        have K_g15_g16 : Hid (g15 ≠ g16) := Lib.hid (Nat.ne_of_lt (Nat.lt_of_lt_of_le H_g15_Wm14.out.lt hB16))
        have U_g16 : Hid (w.heap.size ≤ g16) := Lib.hid (Nat.le_trans nB_Wm14.out.size hB16)
        refine tail_store (k := 4) (by kernel_rfl) rfl rfl rfl 34 (.tmp 16) (.tmp 70) rfl g16 ((N8 b) : List Value).toArray (by kernel_rfl) (by kernel_rfl) _ _ hr16 (by kernel_rfl) rfl (by kernel_rfl) ?_
        replace h_g4 := RowL.set_ne h_g4 ((N8 b) : List Value).toArray K_g4_g16.out
        replace h_g6 := RowL.set_ne h_g6 ((N8 b) : List Value).toArray K_g6_g16.out
        replace h_g8 := RowL.set_ne h_g8 ((N8 b) : List Value).toArray K_g8_g16.out
        replace h_g9 := RowL.set_ne h_g9 ((N8 b) : List Value).toArray K_g9_g16.out
        replace h_g10 := RowL.set_ne h_g10 ((N8 b) : List Value).toArray K_g10_g16.out
        replace h_g11 := RowL.set_ne h_g11 ((N8 b) : List Value).toArray K_g11_g16.out
        replace h_g12 := RowL.set_ne h_g12 ((N8 b) : List Value).toArray K_g12_g16.out
        replace h_g15 := RowL.set_ne h_g15 ((N8 b) : List Value).toArray K_g15_g16.out
        replace hr16 := RowL.set hr16 ((N8 b))
        replace nB_Wm15 := Lib.hid (set_below nB_Wm15.out U_g16.out ((N8 b) : List Value).toArray)
        refine wpAny_done (by kernel_rfl) ?_ _
        have H_g4_Wm15 := Lib.hid h_g4
        have H_g6_Wm15 := Lib.hid h_g6
        have H_g8_Wm15 := Lib.hid h_g8
        have H_g9_Wm15 := Lib.hid h_g9
        have H_g10_Wm15 := Lib.hid h_g10
        have H_g11_Wm15 := Lib.hid h_g11
        have H_g12_Wm15 := Lib.hid h_g12
        have H_g15_Wm15 := Lib.hid h_g15
        have H_g16_Wm15 := Lib.hid hr16
        clear hbr h_g4 h_g6 h_g8 h_g9 h_g10 h_g11 h_g12 h_g15 hr16 hB16 
        generalize (wn.setRow g16 ((N8 b) : List Value).toArray) = Wm15 at *
        clear nB_Wm14 H_g4_Wm14 H_g6_Wm14 H_g8_Wm14 H_g9_Wm14 H_g10_Wm14 H_g11_Wm14 H_g12_Wm14 H_g15_Wm14
        go_upto_region 16 with fail
        refine wp_region_mono 6 [71, 72, 73, 74, 75, 17] (phi [IsV (.agg (N8 A).toArray), IsV (.agg (N8 B).toArray), IsV (.agg (N8 d).toArray), IsV (.agg (N8 a).toArray), IsV (.agg (N8 da).toArray), IsR Wm15.heap.size ([.int .u32 0, .int .u32 0, .int .u32 0, .int .u32 0, .int .u32 0, .int .u32 0, .int .u32 0, .int .u32 0]) 34]) [5] rfl (by kernel_rfl) rfl rfl (by kernel_rfl) rfl (by kernel_rfl) (by kernel_rfl) (phi_mono (by repeat (first | exact mono_v _ | exact mono_r _ _ _ | exact mono_s _ _ _ | exact trivial | refine ⟨?_, ?_⟩))) ?_ ?_
        · intro i hi
          rcases (show i = 0 ∨ i = 1 ∨ i = 2 ∨ i = 3 ∨ i = 4 ∨ i = 5 by omega) with rfl | rfl | rfl | rfl | rfl | rfl
          · intro ac W hB hst hdep
            have e11 : ac.tmps[11]? = some (.pointer (some ⟨g11, 0, none⟩)) := hst 11 (by decide)
            exact st_load rfl (wanted_no rfl) 34 (.tmp 11) rfl (eval_of e11) ((N8 A)) _ ((RowL.upS (w := Wm15.drew) H_g11_Wm15.out hB).range 0 _ rfl) undN rfl (by kernel_rfl) rfl (notE rfl)
          · intro ac W hB hst hdep
            have e12 : ac.tmps[12]? = some (.pointer (some ⟨g12, 0, none⟩)) := hst 12 (by decide)
            exact st_load rfl (wanted_no rfl) 34 (.tmp 12) rfl (eval_of e12) ((N8 B)) _ ((RowL.upS (w := Wm15.drew) H_g12_Wm15.out hB).range 0 _ rfl) undN rfl (by kernel_rfl) rfl (notE rfl)
          · intro ac W hB hst hdep
            obtain ⟨x71, e71, h71⟩ := hdep 0 (memE (by kernel_rfl)) 71 rfl
            replace h71 : x71 = .agg (N8 A).toArray := h71
            subst h71
            obtain ⟨x72, e72, h72⟩ := hdep 1 (memE (by kernel_rfl)) 72 rfl
            replace h72 : x72 = .agg (N8 B).toArray := h72
            subst h72
            exact st_call rfl (wanted_no rfl) rfl (show (#[.tmp 71, .tmp 72] : Array Operand).map ac.eval = (#[.agg (N8 A).toArray, .agg (N8 B).toArray] : Array Value) by simp only [List.map_toArray, List.map_cons, List.map_nil, Act.eval_const, eval_of e71, eval_of e72]) (fun _ => by kernel_rfl) (Calls.mono (subR ZA.out ZB.out (Qd.out)) fun e w' h => ⟨_, h.1, h.2, rfl⟩) (notE rfl)
          · intro ac W hB hst hdep
            have e15 : ac.tmps[15]? = some (.pointer (some ⟨g15, 0, none⟩)) := hst 15 (by decide)
            exact st_load rfl (wanted_no rfl) 34 (.tmp 15) rfl (eval_of e15) ((N8 a)) _ ((RowL.upS (w := Wm15.drew) H_g15_Wm15.out hB).range 0 _ rfl) undN rfl (by kernel_rfl) rfl (notE rfl)
          · intro ac W hB hst hdep
            obtain ⟨x73, e73, h73⟩ := hdep 2 (memE (by kernel_rfl)) 73 rfl
            replace h73 : x73 = .agg (N8 d).toArray := h73
            subst h73
            obtain ⟨x74, e74, h74⟩ := hdep 3 (memE (by kernel_rfl)) 74 rfl
            replace h74 : x74 = .agg (N8 a).toArray := h74
            subst h74
            exact st_call rfl (wanted_no rfl) rfl (show (#[.tmp 73, .tmp 74] : Array Operand).map ac.eval = (#[.agg (N8 d).toArray, .agg (N8 a).toArray] : Array Value) by simp only [List.map_toArray, List.map_cons, List.map_nil, Act.eval_const, eval_of e73, eval_of e74]) (fun _ => by kernel_rfl) (Calls.mono (mulR Zd.out Za.out (Qda.out.trans (prodP2 _ _))) fun e w' h => ⟨_, h.1, h.2, rfl⟩) (notE rfl)
          · intro ac W hB hst hdep
            exact st_alloc rfl (wanted_no rfl) 34 rfl allocN ⟨_, rfl, hB.size, heap_alloc_new _ _⟩
        intro vs hvs wn hbr hv hne
        obtain ⟨v71, v72, v73, v74, v75, v17, rfl⟩ := listr6 vs hvs
        obtain rfl : v71 = .agg (N8 A).toArray := hv 0 _ rfl
        obtain rfl : v72 = .agg (N8 B).toArray := hv 1 _ rfl
        obtain rfl : v73 = .agg (N8 d).toArray := hv 2 _ rfl
        obtain rfl : v74 = .agg (N8 a).toArray := hv 3 _ rfl
        obtain rfl : v75 = .agg (N8 da).toArray := hv 4 _ rfl
        obtain ⟨g17, hg17, hB17, hr17⟩ : IsR Wm15.heap.size ([.int .u32 0, .int .u32 0, .int .u32 0, .int .u32 0, .int .u32 0, .int .u32 0, .int .u32 0, .int .u32 0]) 34 v17 wn := hv 5 _ rfl
        subst hg17
        clear hvs hv hne
        try simp only [List.zip_cons_cons, List.zip_nil_right, List.zip_nil_left, puts, Act.put, List.setIfInBounds_toArray, List.set_cons_zero, List.set_cons_succ]
        have nB_Wm16 := Lib.hid (nB_Wm15.out.trans (hbr.mono nB_Wm15.out.size))
        have h_g4 := H_g4_Wm15.out.upS hbr
        have h_g6 := H_g6_Wm15.out.upS hbr
        have h_g8 := H_g8_Wm15.out.upS hbr
        have h_g9 := H_g9_Wm15.out.upS hbr
        have h_g10 := H_g10_Wm15.out.upS hbr
        have h_g11 := H_g11_Wm15.out.upS hbr
        have h_g12 := H_g12_Wm15.out.upS hbr
        have h_g15 := H_g15_Wm15.out.upS hbr
        have h_g16 := H_g16_Wm15.out.upS hbr
        have K_g4_g17 : Hid (g4 ≠ g17) := Lib.hid (Nat.ne_of_lt (Nat.lt_of_lt_of_le H_g4_Wm15.out.lt hB17))
        have K_g6_g17 : Hid (g6 ≠ g17) := Lib.hid (Nat.ne_of_lt (Nat.lt_of_lt_of_le H_g6_Wm15.out.lt hB17))
        have K_g8_g17 : Hid (g8 ≠ g17) := Lib.hid (Nat.ne_of_lt (Nat.lt_of_lt_of_le H_g8_Wm15.out.lt hB17))
        have K_g9_g17 : Hid (g9 ≠ g17) := Lib.hid (Nat.ne_of_lt (Nat.lt_of_lt_of_le H_g9_Wm15.out.lt hB17))
        have K_g10_g17 : Hid (g10 ≠ g17) := Lib.hid (Nat.ne_of_lt (Nat.lt_of_lt_of_le H_g10_Wm15.out.lt hB17))
        have K_g11_g17 : Hid (g11 ≠ g17) := Lib.hid (Nat.ne_of_lt (Nat.lt_of_lt_of_le H_g11_Wm15.out.lt hB17))
        have K_g12_g17 : Hid (g12 ≠ g17) := Lib.hid (Nat.ne_of_lt (Nat.lt_of_lt_of_le H_g12_Wm15.out.lt hB17))
        have K_g15_g17 : Hid (g15 ≠ g17) := Lib.hid (Nat.ne_of_lt (Nat.lt_of_lt_of_le H_g15_Wm15.out.lt hB17))
        have K_g16_g17 : Hid (g16 ≠ g17) := Lib.hid (Nat.ne_of_lt (Nat.lt_of_lt_of_le H_g16_Wm15.out.lt hB17))
        have U_g17 : Hid (w.heap.size ≤ g17) := Lib.hid (Nat.le_trans nB_Wm15.out.size hB17)
        refine tail_store (k := 6) (by kernel_rfl) rfl rfl rfl 34 (.tmp 17) (.tmp 75) rfl g17 ((N8 da) : List Value).toArray (by kernel_rfl) (by kernel_rfl) _ _ hr17 (by kernel_rfl) rfl (by kernel_rfl) ?_
        replace h_g4 := RowL.set_ne h_g4 ((N8 da) : List Value).toArray K_g4_g17.out
        replace h_g6 := RowL.set_ne h_g6 ((N8 da) : List Value).toArray K_g6_g17.out
        replace h_g8 := RowL.set_ne h_g8 ((N8 da) : List Value).toArray K_g8_g17.out
        replace h_g9 := RowL.set_ne h_g9 ((N8 da) : List Value).toArray K_g9_g17.out
        replace h_g10 := RowL.set_ne h_g10 ((N8 da) : List Value).toArray K_g10_g17.out
        replace h_g11 := RowL.set_ne h_g11 ((N8 da) : List Value).toArray K_g11_g17.out
        replace h_g12 := RowL.set_ne h_g12 ((N8 da) : List Value).toArray K_g12_g17.out
        replace h_g15 := RowL.set_ne h_g15 ((N8 da) : List Value).toArray K_g15_g17.out
        replace h_g16 := RowL.set_ne h_g16 ((N8 da) : List Value).toArray K_g16_g17.out
        replace hr17 := RowL.set hr17 ((N8 da))
        replace nB_Wm16 := Lib.hid (set_below nB_Wm16.out U_g17.out ((N8 da) : List Value).toArray)
        refine wpAny_done (by kernel_rfl) ?_ _
        have H_g4_Wm16 := Lib.hid h_g4
        have H_g6_Wm16 := Lib.hid h_g6
        have H_g8_Wm16 := Lib.hid h_g8
        have H_g9_Wm16 := Lib.hid h_g9
        have H_g10_Wm16 := Lib.hid h_g10
        have H_g11_Wm16 := Lib.hid h_g11
        have H_g12_Wm16 := Lib.hid h_g12
        have H_g15_Wm16 := Lib.hid h_g15
        have H_g16_Wm16 := Lib.hid h_g16
        have H_g17_Wm16 := Lib.hid hr17
        clear hbr h_g4 h_g6 h_g8 h_g9 h_g10 h_g11 h_g12 h_g15 h_g16 hr17 hB17 
        generalize (wn.setRow g17 ((N8 da) : List Value).toArray) = Wm16 at *
        clear nB_Wm15 H_g4_Wm15 H_g6_Wm15 H_g8_Wm15 H_g9_Wm15 H_g10_Wm15 H_g11_Wm15 H_g12_Wm15 H_g15_Wm15 H_g16_Wm15
        go_upto_region 17 with fail
        refine wp_region_mono 6 [76, 77, 78, 79, 80, 18] (phi [IsV (.agg (N8 A).toArray), IsV (.agg (N8 B).toArray), IsV (.agg (N8 c).toArray), IsV (.agg (N8 b).toArray), IsV (.agg (N8 cb).toArray), IsR Wm16.heap.size ([.int .u32 0, .int .u32 0, .int .u32 0, .int .u32 0, .int .u32 0, .int .u32 0, .int .u32 0, .int .u32 0]) 34]) [5] rfl (by kernel_rfl) rfl rfl (by kernel_rfl) rfl (by kernel_rfl) (by kernel_rfl) (phi_mono (by repeat (first | exact mono_v _ | exact mono_r _ _ _ | exact mono_s _ _ _ | exact trivial | refine ⟨?_, ?_⟩))) ?_ ?_
        · intro i hi
          rcases (show i = 0 ∨ i = 1 ∨ i = 2 ∨ i = 3 ∨ i = 4 ∨ i = 5 by omega) with rfl | rfl | rfl | rfl | rfl | rfl
          · intro ac W hB hst hdep
            have e11 : ac.tmps[11]? = some (.pointer (some ⟨g11, 0, none⟩)) := hst 11 (by decide)
            exact st_load rfl (wanted_no rfl) 34 (.tmp 11) rfl (eval_of e11) ((N8 A)) _ ((RowL.upS (w := Wm16.drew) H_g11_Wm16.out hB).range 0 _ rfl) undN rfl (by kernel_rfl) rfl (notE rfl)
          · intro ac W hB hst hdep
            have e12 : ac.tmps[12]? = some (.pointer (some ⟨g12, 0, none⟩)) := hst 12 (by decide)
            exact st_load rfl (wanted_no rfl) 34 (.tmp 12) rfl (eval_of e12) ((N8 B)) _ ((RowL.upS (w := Wm16.drew) H_g12_Wm16.out hB).range 0 _ rfl) undN rfl (by kernel_rfl) rfl (notE rfl)
          · intro ac W hB hst hdep
            obtain ⟨x76, e76, h76⟩ := hdep 0 (memE (by kernel_rfl)) 76 rfl
            replace h76 : x76 = .agg (N8 A).toArray := h76
            subst h76
            obtain ⟨x77, e77, h77⟩ := hdep 1 (memE (by kernel_rfl)) 77 rfl
            replace h77 : x77 = .agg (N8 B).toArray := h77
            subst h77
            exact st_call rfl (wanted_no rfl) rfl (show (#[.tmp 76, .tmp 77] : Array Operand).map ac.eval = (#[.agg (N8 A).toArray, .agg (N8 B).toArray] : Array Value) by simp only [List.map_toArray, List.map_cons, List.map_nil, Act.eval_const, eval_of e76, eval_of e77]) (fun _ => by kernel_rfl) (Calls.mono (addR ZA.out ZB.out (Qc.out.trans (sumP2 _ _))) fun e w' h => ⟨_, h.1, h.2, rfl⟩) (notE rfl)
          · intro ac W hB hst hdep
            have e16 : ac.tmps[16]? = some (.pointer (some ⟨g16, 0, none⟩)) := hst 16 (by decide)
            exact st_load rfl (wanted_no rfl) 34 (.tmp 16) rfl (eval_of e16) ((N8 b)) _ ((RowL.upS (w := Wm16.drew) H_g16_Wm16.out hB).range 0 _ rfl) undN rfl (by kernel_rfl) rfl (notE rfl)
          · intro ac W hB hst hdep
            obtain ⟨x78, e78, h78⟩ := hdep 2 (memE (by kernel_rfl)) 78 rfl
            replace h78 : x78 = .agg (N8 c).toArray := h78
            subst h78
            obtain ⟨x79, e79, h79⟩ := hdep 3 (memE (by kernel_rfl)) 79 rfl
            replace h79 : x79 = .agg (N8 b).toArray := h79
            subst h79
            exact st_call rfl (wanted_no rfl) rfl (show (#[.tmp 78, .tmp 79] : Array Operand).map ac.eval = (#[.agg (N8 c).toArray, .agg (N8 b).toArray] : Array Value) by simp only [List.map_toArray, List.map_cons, List.map_nil, Act.eval_const, eval_of e78, eval_of e79]) (fun _ => by kernel_rfl) (Calls.mono (mulR Zc.out Zb.out (Qcb.out.trans (prodP2 _ _))) fun e w' h => ⟨_, h.1, h.2, rfl⟩) (notE rfl)
          · intro ac W hB hst hdep
            exact st_alloc rfl (wanted_no rfl) 34 rfl allocN ⟨_, rfl, hB.size, heap_alloc_new _ _⟩
        intro vs hvs wn hbr hv hne
        obtain ⟨v76, v77, v78, v79, v80, v18, rfl⟩ := listr6 vs hvs
        obtain rfl : v76 = .agg (N8 A).toArray := hv 0 _ rfl
        obtain rfl : v77 = .agg (N8 B).toArray := hv 1 _ rfl
        obtain rfl : v78 = .agg (N8 c).toArray := hv 2 _ rfl
        obtain rfl : v79 = .agg (N8 b).toArray := hv 3 _ rfl
        obtain rfl : v80 = .agg (N8 cb).toArray := hv 4 _ rfl
        obtain ⟨g18, hg18, hB18, hr18⟩ : IsR Wm16.heap.size ([.int .u32 0, .int .u32 0, .int .u32 0, .int .u32 0, .int .u32 0, .int .u32 0, .int .u32 0, .int .u32 0]) 34 v18 wn := hv 5 _ rfl
        subst hg18
        clear hvs hv hne
        try simp only [List.zip_cons_cons, List.zip_nil_right, List.zip_nil_left, puts, Act.put, List.setIfInBounds_toArray, List.set_cons_zero, List.set_cons_succ]
        have nB_Wm17 := Lib.hid (nB_Wm16.out.trans (hbr.mono nB_Wm16.out.size))
        have h_g4 := H_g4_Wm16.out.upS hbr
        have h_g6 := H_g6_Wm16.out.upS hbr
        have h_g8 := H_g8_Wm16.out.upS hbr
        have h_g9 := H_g9_Wm16.out.upS hbr
        have h_g10 := H_g10_Wm16.out.upS hbr
        have h_g11 := H_g11_Wm16.out.upS hbr
        have h_g12 := H_g12_Wm16.out.upS hbr
        have h_g15 := H_g15_Wm16.out.upS hbr
        have h_g16 := H_g16_Wm16.out.upS hbr
        have h_g17 := H_g17_Wm16.out.upS hbr
        have K_g4_g18 : Hid (g4 ≠ g18) := Lib.hid (Nat.ne_of_lt (Nat.lt_of_lt_of_le H_g4_Wm16.out.lt hB18))
        have K_g6_g18 : Hid (g6 ≠ g18) := Lib.hid (Nat.ne_of_lt (Nat.lt_of_lt_of_le H_g6_Wm16.out.lt hB18))
        have K_g8_g18 : Hid (g8 ≠ g18) := Lib.hid (Nat.ne_of_lt (Nat.lt_of_lt_of_le H_g8_Wm16.out.lt hB18))
        have K_g9_g18 : Hid (g9 ≠ g18) := Lib.hid (Nat.ne_of_lt (Nat.lt_of_lt_of_le H_g9_Wm16.out.lt hB18))
        have K_g10_g18 : Hid (g10 ≠ g18) := Lib.hid (Nat.ne_of_lt (Nat.lt_of_lt_of_le H_g10_Wm16.out.lt hB18))
        have K_g11_g18 : Hid (g11 ≠ g18) := Lib.hid (Nat.ne_of_lt (Nat.lt_of_lt_of_le H_g11_Wm16.out.lt hB18))
        have K_g12_g18 : Hid (g12 ≠ g18) := Lib.hid (Nat.ne_of_lt (Nat.lt_of_lt_of_le H_g12_Wm16.out.lt hB18))
        have K_g15_g18 : Hid (g15 ≠ g18) := Lib.hid (Nat.ne_of_lt (Nat.lt_of_lt_of_le H_g15_Wm16.out.lt hB18))
        have K_g16_g18 : Hid (g16 ≠ g18) := Lib.hid (Nat.ne_of_lt (Nat.lt_of_lt_of_le H_g16_Wm16.out.lt hB18))
        have K_g17_g18 : Hid (g17 ≠ g18) := Lib.hid (Nat.ne_of_lt (Nat.lt_of_lt_of_le H_g17_Wm16.out.lt hB18))
        have U_g18 : Hid (w.heap.size ≤ g18) := Lib.hid (Nat.le_trans nB_Wm16.out.size hB18)
        refine tail_store (k := 6) (by kernel_rfl) rfl rfl rfl 34 (.tmp 18) (.tmp 80) rfl g18 ((N8 cb) : List Value).toArray (by kernel_rfl) (by kernel_rfl) _ _ hr18 (by kernel_rfl) rfl (by kernel_rfl) ?_
        replace h_g4 := RowL.set_ne h_g4 ((N8 cb) : List Value).toArray K_g4_g18.out
        replace h_g6 := RowL.set_ne h_g6 ((N8 cb) : List Value).toArray K_g6_g18.out
        replace h_g8 := RowL.set_ne h_g8 ((N8 cb) : List Value).toArray K_g8_g18.out
        replace h_g9 := RowL.set_ne h_g9 ((N8 cb) : List Value).toArray K_g9_g18.out
        replace h_g10 := RowL.set_ne h_g10 ((N8 cb) : List Value).toArray K_g10_g18.out
        replace h_g11 := RowL.set_ne h_g11 ((N8 cb) : List Value).toArray K_g11_g18.out
        replace h_g12 := RowL.set_ne h_g12 ((N8 cb) : List Value).toArray K_g12_g18.out
        replace h_g15 := RowL.set_ne h_g15 ((N8 cb) : List Value).toArray K_g15_g18.out
        replace h_g16 := RowL.set_ne h_g16 ((N8 cb) : List Value).toArray K_g16_g18.out
        replace h_g17 := RowL.set_ne h_g17 ((N8 cb) : List Value).toArray K_g17_g18.out
        replace hr18 := RowL.set hr18 ((N8 cb))
        replace nB_Wm17 := Lib.hid (set_below nB_Wm17.out U_g18.out ((N8 cb) : List Value).toArray)
        refine wpAny_done (by kernel_rfl) ?_ _
        have H_g4_Wm17 := Lib.hid h_g4
        have H_g6_Wm17 := Lib.hid h_g6
        have H_g8_Wm17 := Lib.hid h_g8
        have H_g9_Wm17 := Lib.hid h_g9
        have H_g10_Wm17 := Lib.hid h_g10
        have H_g11_Wm17 := Lib.hid h_g11
        have H_g12_Wm17 := Lib.hid h_g12
        have H_g15_Wm17 := Lib.hid h_g15
        have H_g16_Wm17 := Lib.hid h_g16
        have H_g17_Wm17 := Lib.hid h_g17
        have H_g18_Wm17 := Lib.hid hr18
        clear hbr h_g4 h_g6 h_g8 h_g9 h_g10 h_g11 h_g12 h_g15 h_g16 h_g17 hr18 hB18 
        generalize (wn.setRow g18 ((N8 cb) : List Value).toArray) = Wm17 at *
        clear nB_Wm16 H_g4_Wm16 H_g6_Wm16 H_g8_Wm16 H_g9_Wm16 H_g10_Wm16 H_g11_Wm16 H_g12_Wm16 H_g15_Wm16 H_g16_Wm16 H_g17_Wm16
        go_upto_region 18 with fail
        refine wp_region_seq 4 [81, 82, 83, 19] (phi [IsV (.agg (N8 a).toArray), IsV (.agg (N8 a).toArray), IsV (.agg (N8 aa).toArray), IsR Wm17.heap.size ([.int .u32 0, .int .u32 0, .int .u32 0, .int .u32 0, .int .u32 0, .int .u32 0, .int .u32 0, .int .u32 0]) 34]) [3] rfl (by kernel_rfl) rfl rfl (by kernel_rfl) rfl (by kernel_rfl) (by kernel_rfl) (phi_mono (by repeat (first | exact mono_v _ | exact mono_r _ _ _ | exact mono_s _ _ _ | exact trivial | refine ⟨?_, ?_⟩))) ?_ ?_
        · intro i hi
          rcases (show i = 0 ∨ i = 1 ∨ i = 2 ∨ i = 3 by omega) with rfl | rfl | rfl | rfl
          · intro ac W hB hst hdep
            have e15 : ac.tmps[15]? = some (.pointer (some ⟨g15, 0, none⟩)) := hst 15 (by decide)
            exact st_load rfl (wanted_no rfl) 34 (.tmp 15) rfl (eval_of e15) ((N8 a)) _ ((RowL.upS (w := Wm17) H_g15_Wm17.out hB).range 0 _ rfl) undN rfl (by kernel_rfl) rfl (notE rfl)
          · intro ac W hB hst hdep
            have e15 : ac.tmps[15]? = some (.pointer (some ⟨g15, 0, none⟩)) := hst 15 (by decide)
            exact st_load rfl (wanted_no rfl) 34 (.tmp 15) rfl (eval_of e15) ((N8 a)) _ ((RowL.upS (w := Wm17) H_g15_Wm17.out hB).range 0 _ rfl) undN rfl (by kernel_rfl) rfl (notE rfl)
          · intro ac W hB hst hdep
            obtain ⟨x81, e81, h81⟩ := hdep 0 (memE (by kernel_rfl)) 81 rfl
            replace h81 : x81 = .agg (N8 a).toArray := h81
            subst h81
            obtain ⟨x82, e82, h82⟩ := hdep 1 (memE (by kernel_rfl)) 82 rfl
            replace h82 : x82 = .agg (N8 a).toArray := h82
            subst h82
            exact st_call rfl (wanted_no rfl) rfl (show (#[.tmp 81, .tmp 82] : Array Operand).map ac.eval = (#[.agg (N8 a).toArray, .agg (N8 a).toArray] : Array Value) by simp only [List.map_toArray, List.map_cons, List.map_nil, Act.eval_const, eval_of e81, eval_of e82]) (fun _ => by kernel_rfl) (Calls.mono (mulR Za.out Za.out (Qaa.out)) fun e w' h => ⟨_, h.1, h.2, rfl⟩) (notE rfl)
          · intro ac W hB hst hdep
            exact st_alloc rfl (wanted_no rfl) 34 rfl allocN ⟨_, rfl, hB.size, heap_alloc_new _ _⟩
        intro vs hvs wn hbr hv hne
        obtain ⟨v81, v82, v83, v19, rfl⟩ := listr4 vs hvs
        obtain rfl : v81 = .agg (N8 a).toArray := hv 0 _ rfl
        obtain rfl : v82 = .agg (N8 a).toArray := hv 1 _ rfl
        obtain rfl : v83 = .agg (N8 aa).toArray := hv 2 _ rfl
        obtain ⟨g19, hg19, hB19, hr19⟩ : IsR Wm17.heap.size ([.int .u32 0, .int .u32 0, .int .u32 0, .int .u32 0, .int .u32 0, .int .u32 0, .int .u32 0, .int .u32 0]) 34 v19 wn := hv 3 _ rfl
        subst hg19
        clear hvs hv hne
        try simp only [List.zip_cons_cons, List.zip_nil_right, List.zip_nil_left, puts, Act.put, List.setIfInBounds_toArray, List.set_cons_zero, List.set_cons_succ]
        have nB_Wm18 := Lib.hid (nB_Wm17.out.trans (hbr.mono nB_Wm17.out.size))
        have h_g4 := H_g4_Wm17.out.upS hbr
        have h_g6 := H_g6_Wm17.out.upS hbr
        have h_g8 := H_g8_Wm17.out.upS hbr
        have h_g9 := H_g9_Wm17.out.upS hbr
        have h_g10 := H_g10_Wm17.out.upS hbr
        have h_g11 := H_g11_Wm17.out.upS hbr
        have h_g12 := H_g12_Wm17.out.upS hbr
        have h_g16 := H_g16_Wm17.out.upS hbr
        have h_g17 := H_g17_Wm17.out.upS hbr
        have h_g18 := H_g18_Wm17.out.upS hbr
        have K_g4_g19 : Hid (g4 ≠ g19) := Lib.hid (Nat.ne_of_lt (Nat.lt_of_lt_of_le H_g4_Wm17.out.lt hB19))
        have K_g6_g19 : Hid (g6 ≠ g19) := Lib.hid (Nat.ne_of_lt (Nat.lt_of_lt_of_le H_g6_Wm17.out.lt hB19))
        have K_g8_g19 : Hid (g8 ≠ g19) := Lib.hid (Nat.ne_of_lt (Nat.lt_of_lt_of_le H_g8_Wm17.out.lt hB19))
        have K_g9_g19 : Hid (g9 ≠ g19) := Lib.hid (Nat.ne_of_lt (Nat.lt_of_lt_of_le H_g9_Wm17.out.lt hB19))
        have K_g10_g19 : Hid (g10 ≠ g19) := Lib.hid (Nat.ne_of_lt (Nat.lt_of_lt_of_le H_g10_Wm17.out.lt hB19))
        have K_g11_g19 : Hid (g11 ≠ g19) := Lib.hid (Nat.ne_of_lt (Nat.lt_of_lt_of_le H_g11_Wm17.out.lt hB19))
        have K_g12_g19 : Hid (g12 ≠ g19) := Lib.hid (Nat.ne_of_lt (Nat.lt_of_lt_of_le H_g12_Wm17.out.lt hB19))
        have K_g16_g19 : Hid (g16 ≠ g19) := Lib.hid (Nat.ne_of_lt (Nat.lt_of_lt_of_le H_g16_Wm17.out.lt hB19))
        have K_g17_g19 : Hid (g17 ≠ g19) := Lib.hid (Nat.ne_of_lt (Nat.lt_of_lt_of_le H_g17_Wm17.out.lt hB19))
        have K_g18_g19 : Hid (g18 ≠ g19) := Lib.hid (Nat.ne_of_lt (Nat.lt_of_lt_of_le H_g18_Wm17.out.lt hB19))
        have U_g19 : Hid (w.heap.size ≤ g19) := Lib.hid (Nat.le_trans nB_Wm17.out.size hB19)
        refine tail_store (k := 4) (by kernel_rfl) rfl rfl rfl 34 (.tmp 19) (.tmp 83) rfl g19 ((N8 aa) : List Value).toArray (by kernel_rfl) (by kernel_rfl) _ _ hr19 (by kernel_rfl) rfl (by kernel_rfl) ?_
        replace h_g4 := RowL.set_ne h_g4 ((N8 aa) : List Value).toArray K_g4_g19.out
        replace h_g6 := RowL.set_ne h_g6 ((N8 aa) : List Value).toArray K_g6_g19.out
        replace h_g8 := RowL.set_ne h_g8 ((N8 aa) : List Value).toArray K_g8_g19.out
        replace h_g9 := RowL.set_ne h_g9 ((N8 aa) : List Value).toArray K_g9_g19.out
        replace h_g10 := RowL.set_ne h_g10 ((N8 aa) : List Value).toArray K_g10_g19.out
        replace h_g11 := RowL.set_ne h_g11 ((N8 aa) : List Value).toArray K_g11_g19.out
        replace h_g12 := RowL.set_ne h_g12 ((N8 aa) : List Value).toArray K_g12_g19.out
        replace h_g16 := RowL.set_ne h_g16 ((N8 aa) : List Value).toArray K_g16_g19.out
        replace h_g17 := RowL.set_ne h_g17 ((N8 aa) : List Value).toArray K_g17_g19.out
        replace h_g18 := RowL.set_ne h_g18 ((N8 aa) : List Value).toArray K_g18_g19.out
        replace hr19 := RowL.set hr19 ((N8 aa))
        replace nB_Wm18 := Lib.hid (set_below nB_Wm18.out U_g19.out ((N8 aa) : List Value).toArray)
        refine wpAny_done (by kernel_rfl) ?_ _
        have H_g4_Wm18 := Lib.hid h_g4
        have H_g6_Wm18 := Lib.hid h_g6
        have H_g8_Wm18 := Lib.hid h_g8
        have H_g9_Wm18 := Lib.hid h_g9
        have H_g10_Wm18 := Lib.hid h_g10
        have H_g11_Wm18 := Lib.hid h_g11
        have H_g12_Wm18 := Lib.hid h_g12
        have H_g16_Wm18 := Lib.hid h_g16
        have H_g17_Wm18 := Lib.hid h_g17
        have H_g18_Wm18 := Lib.hid h_g18
        have H_g19_Wm18 := Lib.hid hr19
        clear hbr h_g4 h_g6 h_g8 h_g9 h_g10 h_g11 h_g12 h_g16 h_g17 h_g18 hr19 hB19 
        generalize (wn.setRow g19 ((N8 aa) : List Value).toArray) = Wm18 at *
        clear nB_Wm17 H_g4_Wm17 H_g6_Wm17 H_g8_Wm17 H_g9_Wm17 H_g10_Wm17 H_g11_Wm17 H_g12_Wm17 H_g15_Wm17 H_g16_Wm17 H_g17_Wm17 H_g18_Wm17
        go_upto_region 19 with fail
        refine wp_region_seq 4 [84, 85, 86, 20] (phi [IsV (.agg (N8 b).toArray), IsV (.agg (N8 b).toArray), IsV (.agg (N8 bb).toArray), IsR Wm18.heap.size ([.int .u32 0, .int .u32 0, .int .u32 0, .int .u32 0, .int .u32 0, .int .u32 0, .int .u32 0, .int .u32 0]) 34]) [3] rfl (by kernel_rfl) rfl rfl (by kernel_rfl) rfl (by kernel_rfl) (by kernel_rfl) (phi_mono (by repeat (first | exact mono_v _ | exact mono_r _ _ _ | exact mono_s _ _ _ | exact trivial | refine ⟨?_, ?_⟩))) ?_ ?_
        · intro i hi
          rcases (show i = 0 ∨ i = 1 ∨ i = 2 ∨ i = 3 by omega) with rfl | rfl | rfl | rfl
          · intro ac W hB hst hdep
            have e16 : ac.tmps[16]? = some (.pointer (some ⟨g16, 0, none⟩)) := hst 16 (by decide)
            exact st_load rfl (wanted_no rfl) 34 (.tmp 16) rfl (eval_of e16) ((N8 b)) _ ((RowL.upS (w := Wm18) H_g16_Wm18.out hB).range 0 _ rfl) undN rfl (by kernel_rfl) rfl (notE rfl)
          · intro ac W hB hst hdep
            have e16 : ac.tmps[16]? = some (.pointer (some ⟨g16, 0, none⟩)) := hst 16 (by decide)
            exact st_load rfl (wanted_no rfl) 34 (.tmp 16) rfl (eval_of e16) ((N8 b)) _ ((RowL.upS (w := Wm18) H_g16_Wm18.out hB).range 0 _ rfl) undN rfl (by kernel_rfl) rfl (notE rfl)
          · intro ac W hB hst hdep
            obtain ⟨x84, e84, h84⟩ := hdep 0 (memE (by kernel_rfl)) 84 rfl
            replace h84 : x84 = .agg (N8 b).toArray := h84
            subst h84
            obtain ⟨x85, e85, h85⟩ := hdep 1 (memE (by kernel_rfl)) 85 rfl
            replace h85 : x85 = .agg (N8 b).toArray := h85
            subst h85
            exact st_call rfl (wanted_no rfl) rfl (show (#[.tmp 84, .tmp 85] : Array Operand).map ac.eval = (#[.agg (N8 b).toArray, .agg (N8 b).toArray] : Array Value) by simp only [List.map_toArray, List.map_cons, List.map_nil, Act.eval_const, eval_of e84, eval_of e85]) (fun _ => by kernel_rfl) (Calls.mono (mulR Zb.out Zb.out (Qbb.out)) fun e w' h => ⟨_, h.1, h.2, rfl⟩) (notE rfl)
          · intro ac W hB hst hdep
            exact st_alloc rfl (wanted_no rfl) 34 rfl allocN ⟨_, rfl, hB.size, heap_alloc_new _ _⟩
        intro vs hvs wn hbr hv hne
        obtain ⟨v84, v85, v86, v20, rfl⟩ := listr4 vs hvs
        obtain rfl : v84 = .agg (N8 b).toArray := hv 0 _ rfl
        obtain rfl : v85 = .agg (N8 b).toArray := hv 1 _ rfl
        obtain rfl : v86 = .agg (N8 bb).toArray := hv 2 _ rfl
        obtain ⟨g20, hg20, hB20, hr20⟩ : IsR Wm18.heap.size ([.int .u32 0, .int .u32 0, .int .u32 0, .int .u32 0, .int .u32 0, .int .u32 0, .int .u32 0, .int .u32 0]) 34 v20 wn := hv 3 _ rfl
        subst hg20
        clear hvs hv hne
        try simp only [List.zip_cons_cons, List.zip_nil_right, List.zip_nil_left, puts, Act.put, List.setIfInBounds_toArray, List.set_cons_zero, List.set_cons_succ]
        have nB_Wm19 := Lib.hid (nB_Wm18.out.trans (hbr.mono nB_Wm18.out.size))
        have h_g4 := H_g4_Wm18.out.upS hbr
        have h_g6 := H_g6_Wm18.out.upS hbr
        have h_g8 := H_g8_Wm18.out.upS hbr
        have h_g9 := H_g9_Wm18.out.upS hbr
        have h_g10 := H_g10_Wm18.out.upS hbr
        have h_g11 := H_g11_Wm18.out.upS hbr
        have h_g12 := H_g12_Wm18.out.upS hbr
        have h_g17 := H_g17_Wm18.out.upS hbr
        have h_g18 := H_g18_Wm18.out.upS hbr
        have h_g19 := H_g19_Wm18.out.upS hbr
        have K_g4_g20 : Hid (g4 ≠ g20) := Lib.hid (Nat.ne_of_lt (Nat.lt_of_lt_of_le H_g4_Wm18.out.lt hB20))
        have K_g6_g20 : Hid (g6 ≠ g20) := Lib.hid (Nat.ne_of_lt (Nat.lt_of_lt_of_le H_g6_Wm18.out.lt hB20))
        have K_g8_g20 : Hid (g8 ≠ g20) := Lib.hid (Nat.ne_of_lt (Nat.lt_of_lt_of_le H_g8_Wm18.out.lt hB20))
        have K_g9_g20 : Hid (g9 ≠ g20) := Lib.hid (Nat.ne_of_lt (Nat.lt_of_lt_of_le H_g9_Wm18.out.lt hB20))
        have K_g10_g20 : Hid (g10 ≠ g20) := Lib.hid (Nat.ne_of_lt (Nat.lt_of_lt_of_le H_g10_Wm18.out.lt hB20))
        have K_g11_g20 : Hid (g11 ≠ g20) := Lib.hid (Nat.ne_of_lt (Nat.lt_of_lt_of_le H_g11_Wm18.out.lt hB20))
        have K_g12_g20 : Hid (g12 ≠ g20) := Lib.hid (Nat.ne_of_lt (Nat.lt_of_lt_of_le H_g12_Wm18.out.lt hB20))
        have K_g17_g20 : Hid (g17 ≠ g20) := Lib.hid (Nat.ne_of_lt (Nat.lt_of_lt_of_le H_g17_Wm18.out.lt hB20))
        have K_g18_g20 : Hid (g18 ≠ g20) := Lib.hid (Nat.ne_of_lt (Nat.lt_of_lt_of_le H_g18_Wm18.out.lt hB20))
        have K_g19_g20 : Hid (g19 ≠ g20) := Lib.hid (Nat.ne_of_lt (Nat.lt_of_lt_of_le H_g19_Wm18.out.lt hB20))
        have U_g20 : Hid (w.heap.size ≤ g20) := Lib.hid (Nat.le_trans nB_Wm18.out.size hB20)
        refine tail_store (k := 4) (by kernel_rfl) rfl rfl rfl 34 (.tmp 20) (.tmp 86) rfl g20 ((N8 bb) : List Value).toArray (by kernel_rfl) (by kernel_rfl) _ _ hr20 (by kernel_rfl) rfl (by kernel_rfl) ?_
        replace h_g4 := RowL.set_ne h_g4 ((N8 bb) : List Value).toArray K_g4_g20.out
        replace h_g6 := RowL.set_ne h_g6 ((N8 bb) : List Value).toArray K_g6_g20.out
        replace h_g8 := RowL.set_ne h_g8 ((N8 bb) : List Value).toArray K_g8_g20.out
        replace h_g9 := RowL.set_ne h_g9 ((N8 bb) : List Value).toArray K_g9_g20.out
        replace h_g10 := RowL.set_ne h_g10 ((N8 bb) : List Value).toArray K_g10_g20.out
        replace h_g11 := RowL.set_ne h_g11 ((N8 bb) : List Value).toArray K_g11_g20.out
        replace h_g12 := RowL.set_ne h_g12 ((N8 bb) : List Value).toArray K_g12_g20.out
        replace h_g17 := RowL.set_ne h_g17 ((N8 bb) : List Value).toArray K_g17_g20.out
        replace h_g18 := RowL.set_ne h_g18 ((N8 bb) : List Value).toArray K_g18_g20.out
        replace h_g19 := RowL.set_ne h_g19 ((N8 bb) : List Value).toArray K_g19_g20.out
        replace hr20 := RowL.set hr20 ((N8 bb))
        replace nB_Wm19 := Lib.hid (set_below nB_Wm19.out U_g20.out ((N8 bb) : List Value).toArray)
        refine wpAny_done (by kernel_rfl) ?_ _
        have H_g4_Wm19 := Lib.hid h_g4
        have H_g6_Wm19 := Lib.hid h_g6
        have H_g8_Wm19 := Lib.hid h_g8
        have H_g9_Wm19 := Lib.hid h_g9
        have H_g10_Wm19 := Lib.hid h_g10
        have H_g11_Wm19 := Lib.hid h_g11
        have H_g12_Wm19 := Lib.hid h_g12
        have H_g17_Wm19 := Lib.hid h_g17
        have H_g18_Wm19 := Lib.hid h_g18
        have H_g19_Wm19 := Lib.hid h_g19
        have H_g20_Wm19 := Lib.hid hr20
        clear hbr h_g4 h_g6 h_g8 h_g9 h_g10 h_g11 h_g12 h_g17 h_g18 h_g19 hr20 hB20 
        generalize (wn.setRow g20 ((N8 bb) : List Value).toArray) = Wm19 at *
        clear nB_Wm18 H_g4_Wm18 H_g6_Wm18 H_g8_Wm18 H_g9_Wm18 H_g10_Wm18 H_g11_Wm18 H_g12_Wm18 H_g16_Wm18 H_g17_Wm18 H_g18_Wm18 H_g19_Wm18
        go_upto_region 20 with fail
        refine wp_region_seq 4 [87, 88, 89, 21] (phi [IsV (.agg (N8 aa).toArray), IsV (.agg (N8 bb).toArray), IsV (.agg (N8 ee).toArray), IsR Wm19.heap.size ([.int .u32 0, .int .u32 0, .int .u32 0, .int .u32 0, .int .u32 0, .int .u32 0, .int .u32 0, .int .u32 0]) 34]) [3] rfl (by kernel_rfl) rfl rfl (by kernel_rfl) rfl (by kernel_rfl) (by kernel_rfl) (phi_mono (by repeat (first | exact mono_v _ | exact mono_r _ _ _ | exact mono_s _ _ _ | exact trivial | refine ⟨?_, ?_⟩))) ?_ ?_
        · intro i hi
          rcases (show i = 0 ∨ i = 1 ∨ i = 2 ∨ i = 3 by omega) with rfl | rfl | rfl | rfl
          · intro ac W hB hst hdep
            have e19 : ac.tmps[19]? = some (.pointer (some ⟨g19, 0, none⟩)) := hst 19 (by decide)
            exact st_load rfl (wanted_no rfl) 34 (.tmp 19) rfl (eval_of e19) ((N8 aa)) _ ((RowL.upS (w := Wm19) H_g19_Wm19.out hB).range 0 _ rfl) undN rfl (by kernel_rfl) rfl (notE rfl)
          · intro ac W hB hst hdep
            have e20 : ac.tmps[20]? = some (.pointer (some ⟨g20, 0, none⟩)) := hst 20 (by decide)
            exact st_load rfl (wanted_no rfl) 34 (.tmp 20) rfl (eval_of e20) ((N8 bb)) _ ((RowL.upS (w := Wm19) H_g20_Wm19.out hB).range 0 _ rfl) undN rfl (by kernel_rfl) rfl (notE rfl)
          · intro ac W hB hst hdep
            obtain ⟨x87, e87, h87⟩ := hdep 0 (memE (by kernel_rfl)) 87 rfl
            replace h87 : x87 = .agg (N8 aa).toArray := h87
            subst h87
            obtain ⟨x88, e88, h88⟩ := hdep 1 (memE (by kernel_rfl)) 88 rfl
            replace h88 : x88 = .agg (N8 bb).toArray := h88
            subst h88
            exact st_call rfl (wanted_no rfl) rfl (show (#[.tmp 87, .tmp 88] : Array Operand).map ac.eval = (#[.agg (N8 aa).toArray, .agg (N8 bb).toArray] : Array Value) by simp only [List.map_toArray, List.map_cons, List.map_nil, Act.eval_const, eval_of e87, eval_of e88]) (fun _ => by kernel_rfl) (Calls.mono (subR Zaa.out Zbb.out (Qee.out)) fun e w' h => ⟨_, h.1, h.2, rfl⟩) (notE rfl)
          · intro ac W hB hst hdep
            exact st_alloc rfl (wanted_no rfl) 34 rfl allocN ⟨_, rfl, hB.size, heap_alloc_new _ _⟩
        intro vs hvs wn hbr hv hne
        obtain ⟨v87, v88, v89, v21, rfl⟩ := listr4 vs hvs
        obtain rfl : v87 = .agg (N8 aa).toArray := hv 0 _ rfl
        obtain rfl : v88 = .agg (N8 bb).toArray := hv 1 _ rfl
        obtain rfl : v89 = .agg (N8 ee).toArray := hv 2 _ rfl
        obtain ⟨g21, hg21, hB21, hr21⟩ : IsR Wm19.heap.size ([.int .u32 0, .int .u32 0, .int .u32 0, .int .u32 0, .int .u32 0, .int .u32 0, .int .u32 0, .int .u32 0]) 34 v21 wn := hv 3 _ rfl
        subst hg21
        clear hvs hv hne
        try simp only [List.zip_cons_cons, List.zip_nil_right, List.zip_nil_left, puts, Act.put, List.setIfInBounds_toArray, List.set_cons_zero, List.set_cons_succ]
        have nB_Wm20 := Lib.hid (nB_Wm19.out.trans (hbr.mono nB_Wm19.out.size))
        have h_g4 := H_g4_Wm19.out.upS hbr
        have h_g6 := H_g6_Wm19.out.upS hbr
        have h_g8 := H_g8_Wm19.out.upS hbr
        have h_g9 := H_g9_Wm19.out.upS hbr
        have h_g10 := H_g10_Wm19.out.upS hbr
        have h_g11 := H_g11_Wm19.out.upS hbr
        have h_g12 := H_g12_Wm19.out.upS hbr
        have h_g17 := H_g17_Wm19.out.upS hbr
        have h_g18 := H_g18_Wm19.out.upS hbr
        have h_g19 := H_g19_Wm19.out.upS hbr
        have h_g20 := H_g20_Wm19.out.upS hbr
        have K_g4_g21 : Hid (g4 ≠ g21) := Lib.hid (Nat.ne_of_lt (Nat.lt_of_lt_of_le H_g4_Wm19.out.lt hB21))
        have K_g6_g21 : Hid (g6 ≠ g21) := Lib.hid (Nat.ne_of_lt (Nat.lt_of_lt_of_le H_g6_Wm19.out.lt hB21))
        have K_g8_g21 : Hid (g8 ≠ g21) := Lib.hid (Nat.ne_of_lt (Nat.lt_of_lt_of_le H_g8_Wm19.out.lt hB21))
        have K_g9_g21 : Hid (g9 ≠ g21) := Lib.hid (Nat.ne_of_lt (Nat.lt_of_lt_of_le H_g9_Wm19.out.lt hB21))
        have K_g10_g21 : Hid (g10 ≠ g21) := Lib.hid (Nat.ne_of_lt (Nat.lt_of_lt_of_le H_g10_Wm19.out.lt hB21))
        have K_g11_g21 : Hid (g11 ≠ g21) := Lib.hid (Nat.ne_of_lt (Nat.lt_of_lt_of_le H_g11_Wm19.out.lt hB21))
        have K_g12_g21 : Hid (g12 ≠ g21) := Lib.hid (Nat.ne_of_lt (Nat.lt_of_lt_of_le H_g12_Wm19.out.lt hB21))
        have K_g17_g21 : Hid (g17 ≠ g21) := Lib.hid (Nat.ne_of_lt (Nat.lt_of_lt_of_le H_g17_Wm19.out.lt hB21))
        have K_g18_g21 : Hid (g18 ≠ g21) := Lib.hid (Nat.ne_of_lt (Nat.lt_of_lt_of_le H_g18_Wm19.out.lt hB21))
        have K_g19_g21 : Hid (g19 ≠ g21) := Lib.hid (Nat.ne_of_lt (Nat.lt_of_lt_of_le H_g19_Wm19.out.lt hB21))
        have K_g20_g21 : Hid (g20 ≠ g21) := Lib.hid (Nat.ne_of_lt (Nat.lt_of_lt_of_le H_g20_Wm19.out.lt hB21))
        have U_g21 : Hid (w.heap.size ≤ g21) := Lib.hid (Nat.le_trans nB_Wm19.out.size hB21)
        refine tail_store (k := 4) (by kernel_rfl) rfl rfl rfl 34 (.tmp 21) (.tmp 89) rfl g21 ((N8 ee) : List Value).toArray (by kernel_rfl) (by kernel_rfl) _ _ hr21 (by kernel_rfl) rfl (by kernel_rfl) ?_
        replace h_g4 := RowL.set_ne h_g4 ((N8 ee) : List Value).toArray K_g4_g21.out
        replace h_g6 := RowL.set_ne h_g6 ((N8 ee) : List Value).toArray K_g6_g21.out
        replace h_g8 := RowL.set_ne h_g8 ((N8 ee) : List Value).toArray K_g8_g21.out
        replace h_g9 := RowL.set_ne h_g9 ((N8 ee) : List Value).toArray K_g9_g21.out
        replace h_g10 := RowL.set_ne h_g10 ((N8 ee) : List Value).toArray K_g10_g21.out
        replace h_g11 := RowL.set_ne h_g11 ((N8 ee) : List Value).toArray K_g11_g21.out
        replace h_g12 := RowL.set_ne h_g12 ((N8 ee) : List Value).toArray K_g12_g21.out
        replace h_g17 := RowL.set_ne h_g17 ((N8 ee) : List Value).toArray K_g17_g21.out
        replace h_g18 := RowL.set_ne h_g18 ((N8 ee) : List Value).toArray K_g18_g21.out
        replace h_g19 := RowL.set_ne h_g19 ((N8 ee) : List Value).toArray K_g19_g21.out
        replace h_g20 := RowL.set_ne h_g20 ((N8 ee) : List Value).toArray K_g20_g21.out
        replace hr21 := RowL.set hr21 ((N8 ee))
        replace nB_Wm20 := Lib.hid (set_below nB_Wm20.out U_g21.out ((N8 ee) : List Value).toArray)
        refine wpAny_done (by kernel_rfl) ?_ _
        have H_g4_Wm20 := Lib.hid h_g4
        have H_g6_Wm20 := Lib.hid h_g6
        have H_g8_Wm20 := Lib.hid h_g8
        have H_g9_Wm20 := Lib.hid h_g9
        have H_g10_Wm20 := Lib.hid h_g10
        have H_g11_Wm20 := Lib.hid h_g11
        have H_g12_Wm20 := Lib.hid h_g12
        have H_g17_Wm20 := Lib.hid h_g17
        have H_g18_Wm20 := Lib.hid h_g18
        have H_g19_Wm20 := Lib.hid h_g19
        have H_g20_Wm20 := Lib.hid h_g20
        have H_g21_Wm20 := Lib.hid hr21
        clear hbr h_g4 h_g6 h_g8 h_g9 h_g10 h_g11 h_g12 h_g17 h_g18 h_g19 h_g20 hr21 hB21 
        generalize (wn.setRow g21 ((N8 ee) : List Value).toArray) = Wm20 at *
        clear nB_Wm19 H_g4_Wm19 H_g6_Wm19 H_g8_Wm19 H_g9_Wm19 H_g10_Wm19 H_g11_Wm19 H_g12_Wm19 H_g17_Wm19 H_g18_Wm19 H_g19_Wm19 H_g20_Wm19
        go_upto_region 21 with fail
        refine wp_region_seq 4 [90, 91, 92, 22] (phi [IsV (.agg (N8 da).toArray), IsV (.agg (N8 cb).toArray), IsV (.agg (N8 s).toArray), IsR Wm20.heap.size ([.int .u32 0, .int .u32 0, .int .u32 0, .int .u32 0, .int .u32 0, .int .u32 0, .int .u32 0, .int .u32 0]) 34]) [3] rfl (by kernel_rfl) rfl rfl (by kernel_rfl) rfl (by kernel_rfl) (by kernel_rfl) (phi_mono (by repeat (first | exact mono_v _ | exact mono_r _ _ _ | exact mono_s _ _ _ | exact trivial | refine ⟨?_, ?_⟩))) ?_ ?_
        · intro i hi
          rcases (show i = 0 ∨ i = 1 ∨ i = 2 ∨ i = 3 by omega) with rfl | rfl | rfl | rfl
          · intro ac W hB hst hdep
            have e17 : ac.tmps[17]? = some (.pointer (some ⟨g17, 0, none⟩)) := hst 17 (by decide)
            exact st_load rfl (wanted_no rfl) 34 (.tmp 17) rfl (eval_of e17) ((N8 da)) _ ((RowL.upS (w := Wm20) H_g17_Wm20.out hB).range 0 _ rfl) undN rfl (by kernel_rfl) rfl (notE rfl)
          · intro ac W hB hst hdep
            have e18 : ac.tmps[18]? = some (.pointer (some ⟨g18, 0, none⟩)) := hst 18 (by decide)
            exact st_load rfl (wanted_no rfl) 34 (.tmp 18) rfl (eval_of e18) ((N8 cb)) _ ((RowL.upS (w := Wm20) H_g18_Wm20.out hB).range 0 _ rfl) undN rfl (by kernel_rfl) rfl (notE rfl)
          · intro ac W hB hst hdep
            obtain ⟨x90, e90, h90⟩ := hdep 0 (memE (by kernel_rfl)) 90 rfl
            replace h90 : x90 = .agg (N8 da).toArray := h90
            subst h90
            obtain ⟨x91, e91, h91⟩ := hdep 1 (memE (by kernel_rfl)) 91 rfl
            replace h91 : x91 = .agg (N8 cb).toArray := h91
            subst h91
            exact st_call rfl (wanted_no rfl) rfl (show (#[.tmp 90, .tmp 91] : Array Operand).map ac.eval = (#[.agg (N8 da).toArray, .agg (N8 cb).toArray] : Array Value) by simp only [List.map_toArray, List.map_cons, List.map_nil, Act.eval_const, eval_of e90, eval_of e91]) (fun _ => by kernel_rfl) (Calls.mono (addR Zda.out Zcb.out (Qs.out.trans (sumP2 _ _))) fun e w' h => ⟨_, h.1, h.2, rfl⟩) (notE rfl)
          · intro ac W hB hst hdep
            exact st_alloc rfl (wanted_no rfl) 34 rfl allocN ⟨_, rfl, hB.size, heap_alloc_new _ _⟩
        intro vs hvs wn hbr hv hne
        obtain ⟨v90, v91, v92, v22, rfl⟩ := listr4 vs hvs
        obtain rfl : v90 = .agg (N8 da).toArray := hv 0 _ rfl
        obtain rfl : v91 = .agg (N8 cb).toArray := hv 1 _ rfl
        obtain rfl : v92 = .agg (N8 s).toArray := hv 2 _ rfl
        obtain ⟨g22, hg22, hB22, hr22⟩ : IsR Wm20.heap.size ([.int .u32 0, .int .u32 0, .int .u32 0, .int .u32 0, .int .u32 0, .int .u32 0, .int .u32 0, .int .u32 0]) 34 v22 wn := hv 3 _ rfl
        subst hg22
        clear hvs hv hne
        try simp only [List.zip_cons_cons, List.zip_nil_right, List.zip_nil_left, puts, Act.put, List.setIfInBounds_toArray, List.set_cons_zero, List.set_cons_succ]
        have nB_Wm21 := Lib.hid (nB_Wm20.out.trans (hbr.mono nB_Wm20.out.size))
        have h_g4 := H_g4_Wm20.out.upS hbr
        have h_g6 := H_g6_Wm20.out.upS hbr
        have h_g8 := H_g8_Wm20.out.upS hbr
        have h_g9 := H_g9_Wm20.out.upS hbr
        have h_g10 := H_g10_Wm20.out.upS hbr
        have h_g11 := H_g11_Wm20.out.upS hbr
        have h_g12 := H_g12_Wm20.out.upS hbr
        have h_g17 := H_g17_Wm20.out.upS hbr
        have h_g18 := H_g18_Wm20.out.upS hbr
        have h_g19 := H_g19_Wm20.out.upS hbr
        have h_g20 := H_g20_Wm20.out.upS hbr
        have h_g21 := H_g21_Wm20.out.upS hbr
        have K_g4_g22 : Hid (g4 ≠ g22) := Lib.hid (Nat.ne_of_lt (Nat.lt_of_lt_of_le H_g4_Wm20.out.lt hB22))
        have K_g6_g22 : Hid (g6 ≠ g22) := Lib.hid (Nat.ne_of_lt (Nat.lt_of_lt_of_le H_g6_Wm20.out.lt hB22))
        have K_g8_g22 : Hid (g8 ≠ g22) := Lib.hid (Nat.ne_of_lt (Nat.lt_of_lt_of_le H_g8_Wm20.out.lt hB22))
        have K_g9_g22 : Hid (g9 ≠ g22) := Lib.hid (Nat.ne_of_lt (Nat.lt_of_lt_of_le H_g9_Wm20.out.lt hB22))
        have K_g10_g22 : Hid (g10 ≠ g22) := Lib.hid (Nat.ne_of_lt (Nat.lt_of_lt_of_le H_g10_Wm20.out.lt hB22))
        have K_g11_g22 : Hid (g11 ≠ g22) := Lib.hid (Nat.ne_of_lt (Nat.lt_of_lt_of_le H_g11_Wm20.out.lt hB22))
        have K_g12_g22 : Hid (g12 ≠ g22) := Lib.hid (Nat.ne_of_lt (Nat.lt_of_lt_of_le H_g12_Wm20.out.lt hB22))
        have K_g17_g22 : Hid (g17 ≠ g22) := Lib.hid (Nat.ne_of_lt (Nat.lt_of_lt_of_le H_g17_Wm20.out.lt hB22))
        have K_g18_g22 : Hid (g18 ≠ g22) := Lib.hid (Nat.ne_of_lt (Nat.lt_of_lt_of_le H_g18_Wm20.out.lt hB22))
        have K_g19_g22 : Hid (g19 ≠ g22) := Lib.hid (Nat.ne_of_lt (Nat.lt_of_lt_of_le H_g19_Wm20.out.lt hB22))
        have K_g20_g22 : Hid (g20 ≠ g22) := Lib.hid (Nat.ne_of_lt (Nat.lt_of_lt_of_le H_g20_Wm20.out.lt hB22))
        have K_g21_g22 : Hid (g21 ≠ g22) := Lib.hid (Nat.ne_of_lt (Nat.lt_of_lt_of_le H_g21_Wm20.out.lt hB22))
        have U_g22 : Hid (w.heap.size ≤ g22) := Lib.hid (Nat.le_trans nB_Wm20.out.size hB22)
        refine tail_store (k := 4) (by kernel_rfl) rfl rfl rfl 34 (.tmp 22) (.tmp 92) rfl g22 ((N8 s) : List Value).toArray (by kernel_rfl) (by kernel_rfl) _ _ hr22 (by kernel_rfl) rfl (by kernel_rfl) ?_
        replace h_g4 := RowL.set_ne h_g4 ((N8 s) : List Value).toArray K_g4_g22.out
        replace h_g6 := RowL.set_ne h_g6 ((N8 s) : List Value).toArray K_g6_g22.out
        replace h_g8 := RowL.set_ne h_g8 ((N8 s) : List Value).toArray K_g8_g22.out
        replace h_g9 := RowL.set_ne h_g9 ((N8 s) : List Value).toArray K_g9_g22.out
        replace h_g10 := RowL.set_ne h_g10 ((N8 s) : List Value).toArray K_g10_g22.out
        replace h_g11 := RowL.set_ne h_g11 ((N8 s) : List Value).toArray K_g11_g22.out
        replace h_g12 := RowL.set_ne h_g12 ((N8 s) : List Value).toArray K_g12_g22.out
        replace h_g17 := RowL.set_ne h_g17 ((N8 s) : List Value).toArray K_g17_g22.out
        replace h_g18 := RowL.set_ne h_g18 ((N8 s) : List Value).toArray K_g18_g22.out
        replace h_g19 := RowL.set_ne h_g19 ((N8 s) : List Value).toArray K_g19_g22.out
        replace h_g20 := RowL.set_ne h_g20 ((N8 s) : List Value).toArray K_g20_g22.out
        replace h_g21 := RowL.set_ne h_g21 ((N8 s) : List Value).toArray K_g21_g22.out
        replace hr22 := RowL.set hr22 ((N8 s))
        replace nB_Wm21 := Lib.hid (set_below nB_Wm21.out U_g22.out ((N8 s) : List Value).toArray)
        refine wpAny_done (by kernel_rfl) ?_ _
        have H_g4_Wm21 := Lib.hid h_g4
        have H_g6_Wm21 := Lib.hid h_g6
        have H_g8_Wm21 := Lib.hid h_g8
        have H_g9_Wm21 := Lib.hid h_g9
        have H_g10_Wm21 := Lib.hid h_g10
        have H_g11_Wm21 := Lib.hid h_g11
        have H_g12_Wm21 := Lib.hid h_g12
        have H_g17_Wm21 := Lib.hid h_g17
        have H_g18_Wm21 := Lib.hid h_g18
        have H_g19_Wm21 := Lib.hid h_g19
        have H_g20_Wm21 := Lib.hid h_g20
        have H_g21_Wm21 := Lib.hid h_g21
        have H_g22_Wm21 := Lib.hid hr22
        clear hbr h_g4 h_g6 h_g8 h_g9 h_g10 h_g11 h_g12 h_g17 h_g18 h_g19 h_g20 h_g21 hr22 hB22 
        generalize (wn.setRow g22 ((N8 s) : List Value).toArray) = Wm21 at *
        clear nB_Wm20 H_g4_Wm20 H_g6_Wm20 H_g8_Wm20 H_g9_Wm20 H_g10_Wm20 H_g11_Wm20 H_g12_Wm20 H_g17_Wm20 H_g18_Wm20 H_g19_Wm20 H_g20_Wm20 H_g21_Wm20
        go_upto_region 22 with fail
        refine wp_region_seq 4 [93, 94, 95, 23] (phi [IsV (.agg (N8 da).toArray), IsV (.agg (N8 cb).toArray), IsV (.agg (N8 t).toArray), IsR Wm21.heap.size ([.int .u32 0, .int .u32 0, .int .u32 0, .int .u32 0, .int .u32 0, .int .u32 0, .int .u32 0, .int .u32 0]) 34]) [3] rfl (by kernel_rfl) rfl rfl (by kernel_rfl) rfl (by kernel_rfl) (by kernel_rfl) (phi_mono (by repeat (first | exact mono_v _ | exact mono_r _ _ _ | exact mono_s _ _ _ | exact trivial | refine ⟨?_, ?_⟩))) ?_ ?_
        · intro i hi
          rcases (show i = 0 ∨ i = 1 ∨ i = 2 ∨ i = 3 by omega) with rfl | rfl | rfl | rfl
          · intro ac W hB hst hdep
            have e17 : ac.tmps[17]? = some (.pointer (some ⟨g17, 0, none⟩)) := hst 17 (by decide)
            exact st_load rfl (wanted_no rfl) 34 (.tmp 17) rfl (eval_of e17) ((N8 da)) _ ((RowL.upS (w := Wm21) H_g17_Wm21.out hB).range 0 _ rfl) undN rfl (by kernel_rfl) rfl (notE rfl)
          · intro ac W hB hst hdep
            have e18 : ac.tmps[18]? = some (.pointer (some ⟨g18, 0, none⟩)) := hst 18 (by decide)
            exact st_load rfl (wanted_no rfl) 34 (.tmp 18) rfl (eval_of e18) ((N8 cb)) _ ((RowL.upS (w := Wm21) H_g18_Wm21.out hB).range 0 _ rfl) undN rfl (by kernel_rfl) rfl (notE rfl)
          · intro ac W hB hst hdep
            obtain ⟨x93, e93, h93⟩ := hdep 0 (memE (by kernel_rfl)) 93 rfl
            replace h93 : x93 = .agg (N8 da).toArray := h93
            subst h93
            obtain ⟨x94, e94, h94⟩ := hdep 1 (memE (by kernel_rfl)) 94 rfl
            replace h94 : x94 = .agg (N8 cb).toArray := h94
            subst h94
            exact st_call rfl (wanted_no rfl) rfl (show (#[.tmp 93, .tmp 94] : Array Operand).map ac.eval = (#[.agg (N8 da).toArray, .agg (N8 cb).toArray] : Array Value) by simp only [List.map_toArray, List.map_cons, List.map_nil, Act.eval_const, eval_of e93, eval_of e94]) (fun _ => by kernel_rfl) (Calls.mono (subR Zda.out Zcb.out (Qt.out)) fun e w' h => ⟨_, h.1, h.2, rfl⟩) (notE rfl)
          · intro ac W hB hst hdep
            exact st_alloc rfl (wanted_no rfl) 34 rfl allocN ⟨_, rfl, hB.size, heap_alloc_new _ _⟩
        intro vs hvs wn hbr hv hne
        obtain ⟨v93, v94, v95, v23, rfl⟩ := listr4 vs hvs
        obtain rfl : v93 = .agg (N8 da).toArray := hv 0 _ rfl
        obtain rfl : v94 = .agg (N8 cb).toArray := hv 1 _ rfl
        obtain rfl : v95 = .agg (N8 t).toArray := hv 2 _ rfl
        obtain ⟨g23, hg23, hB23, hr23⟩ : IsR Wm21.heap.size ([.int .u32 0, .int .u32 0, .int .u32 0, .int .u32 0, .int .u32 0, .int .u32 0, .int .u32 0, .int .u32 0]) 34 v23 wn := hv 3 _ rfl
        subst hg23
        clear hvs hv hne
        try simp only [List.zip_cons_cons, List.zip_nil_right, List.zip_nil_left, puts, Act.put, List.setIfInBounds_toArray, List.set_cons_zero, List.set_cons_succ]
        have nB_Wm22 := Lib.hid (nB_Wm21.out.trans (hbr.mono nB_Wm21.out.size))
        have h_g4 := H_g4_Wm21.out.upS hbr
        have h_g6 := H_g6_Wm21.out.upS hbr
        have h_g8 := H_g8_Wm21.out.upS hbr
        have h_g9 := H_g9_Wm21.out.upS hbr
        have h_g10 := H_g10_Wm21.out.upS hbr
        have h_g11 := H_g11_Wm21.out.upS hbr
        have h_g12 := H_g12_Wm21.out.upS hbr
        have h_g19 := H_g19_Wm21.out.upS hbr
        have h_g20 := H_g20_Wm21.out.upS hbr
        have h_g21 := H_g21_Wm21.out.upS hbr
        have h_g22 := H_g22_Wm21.out.upS hbr
        have K_g4_g23 : Hid (g4 ≠ g23) := Lib.hid (Nat.ne_of_lt (Nat.lt_of_lt_of_le H_g4_Wm21.out.lt hB23))
        have K_g6_g23 : Hid (g6 ≠ g23) := Lib.hid (Nat.ne_of_lt (Nat.lt_of_lt_of_le H_g6_Wm21.out.lt hB23))
        have K_g8_g23 : Hid (g8 ≠ g23) := Lib.hid (Nat.ne_of_lt (Nat.lt_of_lt_of_le H_g8_Wm21.out.lt hB23))
        have K_g9_g23 : Hid (g9 ≠ g23) := Lib.hid (Nat.ne_of_lt (Nat.lt_of_lt_of_le H_g9_Wm21.out.lt hB23))
        have K_g10_g23 : Hid (g10 ≠ g23) := Lib.hid (Nat.ne_of_lt (Nat.lt_of_lt_of_le H_g10_Wm21.out.lt hB23))
        have K_g11_g23 : Hid (g11 ≠ g23) := Lib.hid (Nat.ne_of_lt (Nat.lt_of_lt_of_le H_g11_Wm21.out.lt hB23))
        have K_g12_g23 : Hid (g12 ≠ g23) := Lib.hid (Nat.ne_of_lt (Nat.lt_of_lt_of_le H_g12_Wm21.out.lt hB23))
        have K_g19_g23 : Hid (g19 ≠ g23) := Lib.hid (Nat.ne_of_lt (Nat.lt_of_lt_of_le H_g19_Wm21.out.lt hB23))
        have K_g20_g23 : Hid (g20 ≠ g23) := Lib.hid (Nat.ne_of_lt (Nat.lt_of_lt_of_le H_g20_Wm21.out.lt hB23))
        have K_g21_g23 : Hid (g21 ≠ g23) := Lib.hid (Nat.ne_of_lt (Nat.lt_of_lt_of_le H_g21_Wm21.out.lt hB23))
        have K_g22_g23 : Hid (g22 ≠ g23) := Lib.hid (Nat.ne_of_lt (Nat.lt_of_lt_of_le H_g22_Wm21.out.lt hB23))
        have U_g23 : Hid (w.heap.size ≤ g23) := Lib.hid (Nat.le_trans nB_Wm21.out.size hB23)
        refine tail_store (k := 4) (by kernel_rfl) rfl rfl rfl 34 (.tmp 23) (.tmp 95) rfl g23 ((N8 t) : List Value).toArray (by kernel_rfl) (by kernel_rfl) _ _ hr23 (by kernel_rfl) rfl (by kernel_rfl) ?_
        replace h_g4 := RowL.set_ne h_g4 ((N8 t) : List Value).toArray K_g4_g23.out
        replace h_g6 := RowL.set_ne h_g6 ((N8 t) : List Value).toArray K_g6_g23.out
        replace h_g8 := RowL.set_ne h_g8 ((N8 t) : List Value).toArray K_g8_g23.out
        replace h_g9 := RowL.set_ne h_g9 ((N8 t) : List Value).toArray K_g9_g23.out
        replace h_g10 := RowL.set_ne h_g10 ((N8 t) : List Value).toArray K_g10_g23.out
        replace h_g11 := RowL.set_ne h_g11 ((N8 t) : List Value).toArray K_g11_g23.out
        replace h_g12 := RowL.set_ne h_g12 ((N8 t) : List Value).toArray K_g12_g23.out
        replace h_g19 := RowL.set_ne h_g19 ((N8 t) : List Value).toArray K_g19_g23.out
        replace h_g20 := RowL.set_ne h_g20 ((N8 t) : List Value).toArray K_g20_g23.out
        replace h_g21 := RowL.set_ne h_g21 ((N8 t) : List Value).toArray K_g21_g23.out
        replace h_g22 := RowL.set_ne h_g22 ((N8 t) : List Value).toArray K_g22_g23.out
        replace hr23 := RowL.set hr23 ((N8 t))
        replace nB_Wm22 := Lib.hid (set_below nB_Wm22.out U_g23.out ((N8 t) : List Value).toArray)
        refine wpAny_done (by kernel_rfl) ?_ _
        have H_g4_Wm22 := Lib.hid h_g4
        have H_g6_Wm22 := Lib.hid h_g6
        have H_g8_Wm22 := Lib.hid h_g8
        have H_g9_Wm22 := Lib.hid h_g9
        have H_g10_Wm22 := Lib.hid h_g10
        have H_g11_Wm22 := Lib.hid h_g11
        have H_g12_Wm22 := Lib.hid h_g12
        have H_g19_Wm22 := Lib.hid h_g19
        have H_g20_Wm22 := Lib.hid h_g20
        have H_g21_Wm22 := Lib.hid h_g21
        have H_g22_Wm22 := Lib.hid h_g22
        have H_g23_Wm22 := Lib.hid hr23
        clear hbr h_g4 h_g6 h_g8 h_g9 h_g10 h_g11 h_g12 h_g19 h_g20 h_g21 h_g22 hr23 hB23 
        generalize (wn.setRow g23 ((N8 t) : List Value).toArray) = Wm22 at *
        clear nB_Wm21 H_g4_Wm21 H_g6_Wm21 H_g8_Wm21 H_g9_Wm21 H_g10_Wm21 H_g11_Wm21 H_g12_Wm21 H_g17_Wm21 H_g18_Wm21 H_g19_Wm21 H_g20_Wm21 H_g21_Wm21 H_g22_Wm21
        go_upto_region 23 with fail
        refine wp_region_seq 3 [96, 97, 98] (phi [IsV (.agg (N8 s).toArray), IsV (.agg (N8 s).toArray), IsV (.agg (N8 E2).toArray)]) [] rfl (by kernel_rfl) rfl rfl (by kernel_rfl) rfl (by kernel_rfl) (by kernel_rfl) (phi_mono (by repeat (first | exact mono_v _ | exact mono_r _ _ _ | exact mono_s _ _ _ | exact trivial | refine ⟨?_, ?_⟩))) ?_ ?_
        · intro i hi
          rcases (show i = 0 ∨ i = 1 ∨ i = 2 by omega) with rfl | rfl | rfl
          · intro ac W hB hst hdep
            have e22 : ac.tmps[22]? = some (.pointer (some ⟨g22, 0, none⟩)) := hst 22 (by decide)
            exact st_load rfl (wanted_no rfl) 34 (.tmp 22) rfl (eval_of e22) ((N8 s)) _ ((RowL.upS (w := Wm22) H_g22_Wm22.out hB).range 0 _ rfl) undN rfl (by kernel_rfl) rfl (notE rfl)
          · intro ac W hB hst hdep
            have e22 : ac.tmps[22]? = some (.pointer (some ⟨g22, 0, none⟩)) := hst 22 (by decide)
            exact st_load rfl (wanted_no rfl) 34 (.tmp 22) rfl (eval_of e22) ((N8 s)) _ ((RowL.upS (w := Wm22) H_g22_Wm22.out hB).range 0 _ rfl) undN rfl (by kernel_rfl) rfl (notE rfl)
          · intro ac W hB hst hdep
            obtain ⟨x96, e96, h96⟩ := hdep 0 (memE (by kernel_rfl)) 96 rfl
            replace h96 : x96 = .agg (N8 s).toArray := h96
            subst h96
            obtain ⟨x97, e97, h97⟩ := hdep 1 (memE (by kernel_rfl)) 97 rfl
            replace h97 : x97 = .agg (N8 s).toArray := h97
            subst h97
            exact st_call rfl (wanted_no rfl) rfl (show (#[.tmp 96, .tmp 97] : Array Operand).map ac.eval = (#[.agg (N8 s).toArray, .agg (N8 s).toArray] : Array Value) by simp only [List.map_toArray, List.map_cons, List.map_nil, Act.eval_const, eval_of e96, eval_of e97]) (fun _ => by kernel_rfl) (Calls.mono (mulR Zs.out Zs.out (QE2.out)) fun e w' h => ⟨_, h.1, h.2, rfl⟩) (notE rfl)
        intro vs hvs wn hbr hv hne
        obtain ⟨v96, v97, v98, rfl⟩ := listr3 vs hvs
        obtain rfl : v96 = .agg (N8 s).toArray := hv 0 _ rfl
        obtain rfl : v97 = .agg (N8 s).toArray := hv 1 _ rfl
        obtain rfl : v98 = .agg (N8 E2).toArray := hv 2 _ rfl
        clear hvs hv hne
        try simp only [List.zip_cons_cons, List.zip_nil_right, List.zip_nil_left, puts, Act.put, List.setIfInBounds_toArray, List.set_cons_zero, List.set_cons_succ]
        have nB_Wm23 := Lib.hid (nB_Wm22.out.trans (hbr.mono nB_Wm22.out.size))
        have h_g4 := H_g4_Wm22.out.upS hbr
        have h_g6 := H_g6_Wm22.out.upS hbr
        have h_g8 := H_g8_Wm22.out.upS hbr
        have h_g9 := H_g9_Wm22.out.upS hbr
        have h_g10 := H_g10_Wm22.out.upS hbr
        have h_g11 := H_g11_Wm22.out.upS hbr
        have h_g12 := H_g12_Wm22.out.upS hbr
        have h_g19 := H_g19_Wm22.out.upS hbr
        have h_g20 := H_g20_Wm22.out.upS hbr
        have h_g21 := H_g21_Wm22.out.upS hbr
        have h_g23 := H_g23_Wm22.out.upS hbr
        refine tail_store (k := 3) (by kernel_rfl) rfl rfl rfl 34 (.tmp 11) (.tmp 98) rfl g11 ((N8 E2) : List Value).toArray (by kernel_rfl) (by kernel_rfl) _ _ h_g11 (by kernel_rfl) rfl (by kernel_rfl) ?_
        replace h_g4 := RowL.set_ne h_g4 ((N8 E2) : List Value).toArray K_g4_g11.out
        replace h_g6 := RowL.set_ne h_g6 ((N8 E2) : List Value).toArray K_g6_g11.out
        replace h_g8 := RowL.set_ne h_g8 ((N8 E2) : List Value).toArray K_g8_g11.out
        replace h_g9 := RowL.set_ne h_g9 ((N8 E2) : List Value).toArray K_g9_g11.out
        replace h_g10 := RowL.set_ne h_g10 ((N8 E2) : List Value).toArray K_g10_g11.out
        replace h_g11 := RowL.set h_g11 ((N8 E2))
        replace h_g12 := RowL.set_ne h_g12 ((N8 E2) : List Value).toArray (Ne.symm K_g11_g12.out)
        replace h_g19 := RowL.set_ne h_g19 ((N8 E2) : List Value).toArray (Ne.symm K_g11_g19.out)
        replace h_g20 := RowL.set_ne h_g20 ((N8 E2) : List Value).toArray (Ne.symm K_g11_g20.out)
        replace h_g21 := RowL.set_ne h_g21 ((N8 E2) : List Value).toArray (Ne.symm K_g11_g21.out)
        replace h_g23 := RowL.set_ne h_g23 ((N8 E2) : List Value).toArray (Ne.symm K_g11_g23.out)
        replace nB_Wm23 := Lib.hid (set_below nB_Wm23.out U_g11.out ((N8 E2) : List Value).toArray)
        refine wpAny_done (by kernel_rfl) ?_ _
        have H_g4_Wm23 := Lib.hid h_g4
        have H_g6_Wm23 := Lib.hid h_g6
        have H_g8_Wm23 := Lib.hid h_g8
        have H_g9_Wm23 := Lib.hid h_g9
        have H_g10_Wm23 := Lib.hid h_g10
        have H_g11_Wm23 := Lib.hid h_g11
        have H_g12_Wm23 := Lib.hid h_g12
        have H_g19_Wm23 := Lib.hid h_g19
        have H_g20_Wm23 := Lib.hid h_g20
        have H_g21_Wm23 := Lib.hid h_g21
        have H_g23_Wm23 := Lib.hid h_g23
        clear hbr h_g4 h_g6 h_g8 h_g9 h_g10 h_g11 h_g12 h_g19 h_g20 h_g21 h_g23  
        generalize (wn.setRow g11 ((N8 E2) : List Value).toArray) = Wm23 at *
        clear nB_Wm22 H_g4_Wm22 H_g6_Wm22 H_g8_Wm22 H_g9_Wm22 H_g10_Wm22 H_g11_Wm22 H_g12_Wm22 H_g19_Wm22 H_g20_Wm22 H_g21_Wm22 H_g22_Wm22 H_g23_Wm22
        go_upto_region 24 with fail
        refine wp_region_mono 5 [99, 100, 101, 102, 103] (phi [IsV (.agg (N8 x).toArray), IsV (.agg (N8 t).toArray), IsV (.agg (N8 t).toArray), IsV (.agg (N8 tt).toArray), IsV (.agg (N8 U2).toArray)]) [] rfl (by kernel_rfl) rfl rfl (by kernel_rfl) rfl (by kernel_rfl) (by kernel_rfl) (phi_mono (by repeat (first | exact mono_v _ | exact mono_r _ _ _ | exact mono_s _ _ _ | exact trivial | refine ⟨?_, ?_⟩))) ?_ ?_
        · intro i hi
          rcases (show i = 0 ∨ i = 1 ∨ i = 2 ∨ i = 3 ∨ i = 4 by omega) with rfl | rfl | rfl | rfl | rfl
          · intro ac W hB hst hdep
            have e8 : ac.tmps[8]? = some (.pointer (some ⟨g8, 0, none⟩)) := hst 8 (by decide)
            exact st_load rfl (wanted_no rfl) 34 (.tmp 8) rfl (eval_of e8) ((N8 x)) _ ((RowL.upS (w := Wm23.drew) H_g8_Wm23.out hB).range 0 _ rfl) undN rfl (by kernel_rfl) rfl (notE rfl)
          · intro ac W hB hst hdep
            have e23 : ac.tmps[23]? = some (.pointer (some ⟨g23, 0, none⟩)) := hst 23 (by decide)
            exact st_load rfl (wanted_no rfl) 34 (.tmp 23) rfl (eval_of e23) ((N8 t)) _ ((RowL.upS (w := Wm23.drew) H_g23_Wm23.out hB).range 0 _ rfl) undN rfl (by kernel_rfl) rfl (notE rfl)
          · intro ac W hB hst hdep
            have e23 : ac.tmps[23]? = some (.pointer (some ⟨g23, 0, none⟩)) := hst 23 (by decide)
            exact st_load rfl (wanted_no rfl) 34 (.tmp 23) rfl (eval_of e23) ((N8 t)) _ ((RowL.upS (w := Wm23.drew) H_g23_Wm23.out hB).range 0 _ rfl) undN rfl (by kernel_rfl) rfl (notE rfl)
          · intro ac W hB hst hdep
            obtain ⟨x100, e100, h100⟩ := hdep 1 (memE (by kernel_rfl)) 100 rfl
            replace h100 : x100 = .agg (N8 t).toArray := h100
            subst h100
            obtain ⟨x101, e101, h101⟩ := hdep 2 (memE (by kernel_rfl)) 101 rfl
            replace h101 : x101 = .agg (N8 t).toArray := h101
            subst h101
            exact st_call rfl (wanted_no rfl) rfl (show (#[.tmp 100, .tmp 101] : Array Operand).map ac.eval = (#[.agg (N8 t).toArray, .agg (N8 t).toArray] : Array Value) by simp only [List.map_toArray, List.map_cons, List.map_nil, Act.eval_const, eval_of e100, eval_of e101]) (fun _ => by kernel_rfl) (Calls.mono (mulR Zt.out Zt.out (Qtt.out)) fun e w' h => ⟨_, h.1, h.2, rfl⟩) (notE rfl)
          · intro ac W hB hst hdep
            obtain ⟨x99, e99, h99⟩ := hdep 0 (memE (by kernel_rfl)) 99 rfl
            replace h99 : x99 = .agg (N8 x).toArray := h99
            subst h99
            obtain ⟨x102, e102, h102⟩ := hdep 3 (memE (by kernel_rfl)) 102 rfl
            replace h102 : x102 = .agg (N8 tt).toArray := h102
            subst h102
            exact st_call rfl (wanted_no rfl) rfl (show (#[.tmp 99, .tmp 102] : Array Operand).map ac.eval = (#[.agg (N8 x).toArray, .agg (N8 tt).toArray] : Array Value) by simp only [List.map_toArray, List.map_cons, List.map_nil, Act.eval_const, eval_of e99, eval_of e102]) (fun _ => by kernel_rfl) (Calls.mono (mulR Zx.out Ztt.out (QU2.out.trans (prodP2 _ _))) fun e w' h => ⟨_, h.1, h.2, rfl⟩) (notE rfl)
        intro vs hvs wn hbr hv hne
        obtain ⟨v99, v100, v101, v102, v103, rfl⟩ := listr5 vs hvs
        obtain rfl : v99 = .agg (N8 x).toArray := hv 0 _ rfl
        obtain rfl : v100 = .agg (N8 t).toArray := hv 1 _ rfl
        obtain rfl : v101 = .agg (N8 t).toArray := hv 2 _ rfl
        obtain rfl : v102 = .agg (N8 tt).toArray := hv 3 _ rfl
        obtain rfl : v103 = .agg (N8 U2).toArray := hv 4 _ rfl
        clear hvs hv hne
        try simp only [List.zip_cons_cons, List.zip_nil_right, List.zip_nil_left, puts, Act.put, List.setIfInBounds_toArray, List.set_cons_zero, List.set_cons_succ]
        have nB_Wm24 := Lib.hid (nB_Wm23.out.trans (hbr.mono nB_Wm23.out.size))
        have h_g4 := H_g4_Wm23.out.upS hbr
        have h_g6 := H_g6_Wm23.out.upS hbr
        have h_g8 := H_g8_Wm23.out.upS hbr
        have h_g9 := H_g9_Wm23.out.upS hbr
        have h_g10 := H_g10_Wm23.out.upS hbr
        have h_g11 := H_g11_Wm23.out.upS hbr
        have h_g12 := H_g12_Wm23.out.upS hbr
        have h_g19 := H_g19_Wm23.out.upS hbr
        have h_g20 := H_g20_Wm23.out.upS hbr
        have h_g21 := H_g21_Wm23.out.upS hbr
        refine tail_store (k := 5) (by kernel_rfl) rfl rfl rfl 34 (.tmp 12) (.tmp 103) rfl g12 ((N8 U2) : List Value).toArray (by kernel_rfl) (by kernel_rfl) _ _ h_g12 (by kernel_rfl) rfl (by kernel_rfl) ?_
        replace h_g4 := RowL.set_ne h_g4 ((N8 U2) : List Value).toArray K_g4_g12.out
        replace h_g6 := RowL.set_ne h_g6 ((N8 U2) : List Value).toArray K_g6_g12.out
        replace h_g8 := RowL.set_ne h_g8 ((N8 U2) : List Value).toArray K_g8_g12.out
        replace h_g9 := RowL.set_ne h_g9 ((N8 U2) : List Value).toArray K_g9_g12.out
        replace h_g10 := RowL.set_ne h_g10 ((N8 U2) : List Value).toArray K_g10_g12.out
        replace h_g11 := RowL.set_ne h_g11 ((N8 U2) : List Value).toArray K_g11_g12.out
        replace h_g12 := RowL.set h_g12 ((N8 U2))
        replace h_g19 := RowL.set_ne h_g19 ((N8 U2) : List Value).toArray (Ne.symm K_g12_g19.out)
        replace h_g20 := RowL.set_ne h_g20 ((N8 U2) : List Value).toArray (Ne.symm K_g12_g20.out)
        replace h_g21 := RowL.set_ne h_g21 ((N8 U2) : List Value).toArray (Ne.symm K_g12_g21.out)
        replace nB_Wm24 := Lib.hid (set_below nB_Wm24.out U_g12.out ((N8 U2) : List Value).toArray)
        refine wpAny_done (by kernel_rfl) ?_ _
        have H_g4_Wm24 := Lib.hid h_g4
        have H_g6_Wm24 := Lib.hid h_g6
        have H_g8_Wm24 := Lib.hid h_g8
        have H_g9_Wm24 := Lib.hid h_g9
        have H_g10_Wm24 := Lib.hid h_g10
        have H_g11_Wm24 := Lib.hid h_g11
        have H_g12_Wm24 := Lib.hid h_g12
        have H_g19_Wm24 := Lib.hid h_g19
        have H_g20_Wm24 := Lib.hid h_g20
        have H_g21_Wm24 := Lib.hid h_g21
        clear hbr h_g4 h_g6 h_g8 h_g9 h_g10 h_g11 h_g12 h_g19 h_g20 h_g21  
        generalize (wn.setRow g12 ((N8 U2) : List Value).toArray) = Wm24 at *
        clear nB_Wm23 H_g4_Wm23 H_g6_Wm23 H_g8_Wm23 H_g9_Wm23 H_g10_Wm23 H_g11_Wm23 H_g12_Wm23 H_g19_Wm23 H_g20_Wm23 H_g21_Wm23 H_g23_Wm23
        go_upto_region 25 with fail
        refine wp_region_seq 3 [104, 105, 106] (phi [IsV (.agg (N8 aa).toArray), IsV (.agg (N8 bb).toArray), IsV (.agg (N8 E1).toArray)]) [] rfl (by kernel_rfl) rfl rfl (by kernel_rfl) rfl (by kernel_rfl) (by kernel_rfl) (phi_mono (by repeat (first | exact mono_v _ | exact mono_r _ _ _ | exact mono_s _ _ _ | exact trivial | refine ⟨?_, ?_⟩))) ?_ ?_
        · intro i hi
          rcases (show i = 0 ∨ i = 1 ∨ i = 2 by omega) with rfl | rfl | rfl
          · intro ac W hB hst hdep
            have e19 : ac.tmps[19]? = some (.pointer (some ⟨g19, 0, none⟩)) := hst 19 (by decide)
            exact st_load rfl (wanted_no rfl) 34 (.tmp 19) rfl (eval_of e19) ((N8 aa)) _ ((RowL.upS (w := Wm24) H_g19_Wm24.out hB).range 0 _ rfl) undN rfl (by kernel_rfl) rfl (notE rfl)
          · intro ac W hB hst hdep
            have e20 : ac.tmps[20]? = some (.pointer (some ⟨g20, 0, none⟩)) := hst 20 (by decide)
            exact st_load rfl (wanted_no rfl) 34 (.tmp 20) rfl (eval_of e20) ((N8 bb)) _ ((RowL.upS (w := Wm24) H_g20_Wm24.out hB).range 0 _ rfl) undN rfl (by kernel_rfl) rfl (notE rfl)
          · intro ac W hB hst hdep
            obtain ⟨x104, e104, h104⟩ := hdep 0 (memE (by kernel_rfl)) 104 rfl
            replace h104 : x104 = .agg (N8 aa).toArray := h104
            subst h104
            obtain ⟨x105, e105, h105⟩ := hdep 1 (memE (by kernel_rfl)) 105 rfl
            replace h105 : x105 = .agg (N8 bb).toArray := h105
            subst h105
            exact st_call rfl (wanted_no rfl) rfl (show (#[.tmp 104, .tmp 105] : Array Operand).map ac.eval = (#[.agg (N8 aa).toArray, .agg (N8 bb).toArray] : Array Value) by simp only [List.map_toArray, List.map_cons, List.map_nil, Act.eval_const, eval_of e104, eval_of e105]) (fun _ => by kernel_rfl) (Calls.mono (mulR Zaa.out Zbb.out (QE1.out.trans (prodP2 _ _))) fun e w' h => ⟨_, h.1, h.2, rfl⟩) (notE rfl)
        intro vs hvs wn hbr hv hne
        obtain ⟨v104, v105, v106, rfl⟩ := listr3 vs hvs
        obtain rfl : v104 = .agg (N8 aa).toArray := hv 0 _ rfl
        obtain rfl : v105 = .agg (N8 bb).toArray := hv 1 _ rfl
        obtain rfl : v106 = .agg (N8 E1).toArray := hv 2 _ rfl
        clear hvs hv hne
        try simp only [List.zip_cons_cons, List.zip_nil_right, List.zip_nil_left, puts, Act.put, List.setIfInBounds_toArray, List.set_cons_zero, List.set_cons_succ]
        have nB_Wm25 := Lib.hid (nB_Wm24.out.trans (hbr.mono nB_Wm24.out.size))
        have h_g4 := H_g4_Wm24.out.upS hbr
        have h_g6 := H_g6_Wm24.out.upS hbr
        have h_g8 := H_g8_Wm24.out.upS hbr
        have h_g9 := H_g9_Wm24.out.upS hbr
        have h_g10 := H_g10_Wm24.out.upS hbr
        have h_g11 := H_g11_Wm24.out.upS hbr
        have h_g12 := H_g12_Wm24.out.upS hbr
        have h_g19 := H_g19_Wm24.out.upS hbr
        have h_g21 := H_g21_Wm24.out.upS hbr
        refine tail_store (k := 3) (by kernel_rfl) rfl rfl rfl 34 (.tmp 9) (.tmp 106) rfl g9 ((N8 E1) : List Value).toArray (by kernel_rfl) (by kernel_rfl) _ _ h_g9 (by kernel_rfl) rfl (by kernel_rfl) ?_
        replace h_g4 := RowL.set_ne h_g4 ((N8 E1) : List Value).toArray K_g4_g9.out
        replace h_g6 := RowL.set_ne h_g6 ((N8 E1) : List Value).toArray K_g6_g9.out
        replace h_g8 := RowL.set_ne h_g8 ((N8 E1) : List Value).toArray K_g8_g9.out
        replace h_g9 := RowL.set h_g9 ((N8 E1))
        replace h_g10 := RowL.set_ne h_g10 ((N8 E1) : List Value).toArray (Ne.symm K_g9_g10.out)
        replace h_g11 := RowL.set_ne h_g11 ((N8 E1) : List Value).toArray (Ne.symm K_g9_g11.out)
        replace h_g12 := RowL.set_ne h_g12 ((N8 E1) : List Value).toArray (Ne.symm K_g9_g12.out)
        replace h_g19 := RowL.set_ne h_g19 ((N8 E1) : List Value).toArray (Ne.symm K_g9_g19.out)
        replace h_g21 := RowL.set_ne h_g21 ((N8 E1) : List Value).toArray (Ne.symm K_g9_g21.out)
        replace nB_Wm25 := Lib.hid (set_below nB_Wm25.out U_g9.out ((N8 E1) : List Value).toArray)
        refine wpAny_done (by kernel_rfl) ?_ _
        have H_g4_Wm25 := Lib.hid h_g4
        have H_g6_Wm25 := Lib.hid h_g6
        have H_g8_Wm25 := Lib.hid h_g8
        have H_g9_Wm25 := Lib.hid h_g9
        have H_g10_Wm25 := Lib.hid h_g10
        have H_g11_Wm25 := Lib.hid h_g11
        have H_g12_Wm25 := Lib.hid h_g12
        have H_g19_Wm25 := Lib.hid h_g19
        have H_g21_Wm25 := Lib.hid h_g21
        clear hbr h_g4 h_g6 h_g8 h_g9 h_g10 h_g11 h_g12 h_g19 h_g21  
        generalize (wn.setRow g9 ((N8 E1) : List Value).toArray) = Wm25 at *
        clear nB_Wm24 H_g4_Wm24 H_g6_Wm24 H_g8_Wm24 H_g9_Wm24 H_g10_Wm24 H_g11_Wm24 H_g12_Wm24 H_g19_Wm24 H_g20_Wm24 H_g21_Wm24
        go_upto_region 26 with fail
        refine wp_region_mono 7 [107, 108, 109, 110, 111, 112, 113] (phi [IsV (.agg (N8 ee).toArray), IsV (.agg (N8 aa).toArray), IsV (.agg (N8 121665).toArray), IsV (.agg (N8 ee).toArray), IsV (.agg (N8 pe).toArray), IsV (.agg (N8 se).toArray), IsV (.agg (N8 U1).toArray)]) [] rfl (by kernel_rfl) rfl rfl (by kernel_rfl) rfl (by kernel_rfl) (by kernel_rfl) (phi_mono (by repeat (first | exact mono_v _ | exact mono_r _ _ _ | exact mono_s _ _ _ | exact trivial | refine ⟨?_, ?_⟩))) ?_ ?_
        · intro i hi
          rcases (show i = 0 ∨ i = 1 ∨ i = 2 ∨ i = 3 ∨ i = 4 ∨ i = 5 ∨ i = 6 by omega) with rfl | rfl | rfl | rfl | rfl | rfl | rfl
          · intro ac W hB hst hdep
            have e21 : ac.tmps[21]? = some (.pointer (some ⟨g21, 0, none⟩)) := hst 21 (by decide)
            exact st_load rfl (wanted_no rfl) 34 (.tmp 21) rfl (eval_of e21) ((N8 ee)) _ ((RowL.upS (w := Wm25.drew) H_g21_Wm25.out hB).range 0 _ rfl) undN rfl (by kernel_rfl) rfl (notE rfl)
          · intro ac W hB hst hdep
            have e19 : ac.tmps[19]? = some (.pointer (some ⟨g19, 0, none⟩)) := hst 19 (by decide)
            exact st_load rfl (wanted_no rfl) 34 (.tmp 19) rfl (eval_of e19) ((N8 aa)) _ ((RowL.upS (w := Wm25.drew) H_g19_Wm25.out hB).range 0 _ rfl) undN rfl (by kernel_rfl) rfl (notE rfl)
          · intro ac W hB hst hdep
            exact st_build rfl (wanted_no rfl) 34 _ rfl (show (#[(0, .const (.int .u32 121665))] : Array (Nat × Operand)).map (fun (i, x) => (i, ac.eval x)) = #[(0, .int .u32 121665)] by simp only [List.map_toArray, List.map_cons, List.map_nil, Act.eval_const]) bld121665 rfl (notE rfl)
          · intro ac W hB hst hdep
            have e21 : ac.tmps[21]? = some (.pointer (some ⟨g21, 0, none⟩)) := hst 21 (by decide)
            exact st_load rfl (wanted_no rfl) 34 (.tmp 21) rfl (eval_of e21) ((N8 ee)) _ ((RowL.upS (w := Wm25.drew) H_g21_Wm25.out hB).range 0 _ rfl) undN rfl (by kernel_rfl) rfl (notE rfl)
          · intro ac W hB hst hdep
            obtain ⟨x109, e109, h109⟩ := hdep 2 (memE (by kernel_rfl)) 109 rfl
            replace h109 : x109 = .agg (N8 121665).toArray := h109
            subst h109
            obtain ⟨x110, e110, h110⟩ := hdep 3 (memE (by kernel_rfl)) 110 rfl
            replace h110 : x110 = .agg (N8 ee).toArray := h110
            subst h110
            exact st_call rfl (wanted_no rfl) rfl (show (#[.tmp 109, .tmp 110] : Array Operand).map ac.eval = (#[.agg (N8 121665).toArray, .agg (N8 ee).toArray] : Array Value) by simp only [List.map_toArray, List.map_cons, List.map_nil, Act.eval_const, eval_of e109, eval_of e110]) (fun _ => by kernel_rfl) (Calls.mono (mulR (by decide) Zee.out (Qpe.out.trans (prodP2 _ _))) fun e w' h => ⟨_, h.1, h.2, rfl⟩) (notE rfl)
          · intro ac W hB hst hdep
            obtain ⟨x108, e108, h108⟩ := hdep 1 (memE (by kernel_rfl)) 108 rfl
            replace h108 : x108 = .agg (N8 aa).toArray := h108
            subst h108
            obtain ⟨x111, e111, h111⟩ := hdep 4 (memE (by kernel_rfl)) 111 rfl
            replace h111 : x111 = .agg (N8 pe).toArray := h111
            subst h111
            exact st_call rfl (wanted_no rfl) rfl (show (#[.tmp 108, .tmp 111] : Array Operand).map ac.eval = (#[.agg (N8 aa).toArray, .agg (N8 pe).toArray] : Array Value) by simp only [List.map_toArray, List.map_cons, List.map_nil, Act.eval_const, eval_of e108, eval_of e111]) (fun _ => by kernel_rfl) (Calls.mono (addR Zaa.out Zpe.out (Qse.out.trans (sumP2 _ _))) fun e w' h => ⟨_, h.1, h.2, rfl⟩) (notE rfl)
          · intro ac W hB hst hdep
            obtain ⟨x107, e107, h107⟩ := hdep 0 (memE (by kernel_rfl)) 107 rfl
            replace h107 : x107 = .agg (N8 ee).toArray := h107
            subst h107
            obtain ⟨x112, e112, h112⟩ := hdep 5 (memE (by kernel_rfl)) 112 rfl
            replace h112 : x112 = .agg (N8 se).toArray := h112
            subst h112
            exact st_call rfl (wanted_no rfl) rfl (show (#[.tmp 107, .tmp 112] : Array Operand).map ac.eval = (#[.agg (N8 ee).toArray, .agg (N8 se).toArray] : Array Value) by simp only [List.map_toArray, List.map_cons, List.map_nil, Act.eval_const, eval_of e107, eval_of e112]) (fun _ => by kernel_rfl) (Calls.mono (mulR Zee.out Zse.out (QU1.out.trans (prodP2 _ _))) fun e w' h => ⟨_, h.1, h.2, rfl⟩) (notE rfl)
        intro vs hvs wn hbr hv hne
        obtain ⟨v107, v108, v109, v110, v111, v112, v113, rfl⟩ := listr7 vs hvs
        obtain rfl : v107 = .agg (N8 ee).toArray := hv 0 _ rfl
        obtain rfl : v108 = .agg (N8 aa).toArray := hv 1 _ rfl
        obtain rfl : v109 = .agg (N8 121665).toArray := hv 2 _ rfl
        obtain rfl : v110 = .agg (N8 ee).toArray := hv 3 _ rfl
        obtain rfl : v111 = .agg (N8 pe).toArray := hv 4 _ rfl
        obtain rfl : v112 = .agg (N8 se).toArray := hv 5 _ rfl
        obtain rfl : v113 = .agg (N8 U1).toArray := hv 6 _ rfl
        clear hvs hv hne
        try simp only [List.zip_cons_cons, List.zip_nil_right, List.zip_nil_left, puts, Act.put, List.setIfInBounds_toArray, List.set_cons_zero, List.set_cons_succ]
        have nB_Wm26 := Lib.hid (nB_Wm25.out.trans (hbr.mono nB_Wm25.out.size))
        have h_g4 := H_g4_Wm25.out.upS hbr
        have h_g6 := H_g6_Wm25.out.upS hbr
        have h_g8 := H_g8_Wm25.out.upS hbr
        have h_g9 := H_g9_Wm25.out.upS hbr
        have h_g10 := H_g10_Wm25.out.upS hbr
        have h_g11 := H_g11_Wm25.out.upS hbr
        have h_g12 := H_g12_Wm25.out.upS hbr
        refine tail_store (k := 7) (by kernel_rfl) rfl rfl rfl 34 (.tmp 10) (.tmp 113) rfl g10 ((N8 U1) : List Value).toArray (by kernel_rfl) (by kernel_rfl) _ _ h_g10 (by kernel_rfl) rfl (by kernel_rfl) ?_
        replace h_g4 := RowL.set_ne h_g4 ((N8 U1) : List Value).toArray K_g4_g10.out
        replace h_g6 := RowL.set_ne h_g6 ((N8 U1) : List Value).toArray K_g6_g10.out
        replace h_g8 := RowL.set_ne h_g8 ((N8 U1) : List Value).toArray K_g8_g10.out
        replace h_g9 := RowL.set_ne h_g9 ((N8 U1) : List Value).toArray K_g9_g10.out
        replace h_g10 := RowL.set h_g10 ((N8 U1))
        replace h_g11 := RowL.set_ne h_g11 ((N8 U1) : List Value).toArray (Ne.symm K_g10_g11.out)
        replace h_g12 := RowL.set_ne h_g12 ((N8 U1) : List Value).toArray (Ne.symm K_g10_g12.out)
        replace nB_Wm26 := Lib.hid (set_below nB_Wm26.out U_g10.out ((N8 U1) : List Value).toArray)
        refine wpAny_done (by kernel_rfl) ?_ _
        have H_g4_Wm26 := Lib.hid h_g4
        have H_g6_Wm26 := Lib.hid h_g6
        have H_g8_Wm26 := Lib.hid h_g8
        have H_g9_Wm26 := Lib.hid h_g9
        have H_g10_Wm26 := Lib.hid h_g10
        have H_g11_Wm26 := Lib.hid h_g11
        have H_g12_Wm26 := Lib.hid h_g12
        clear hbr h_g4 h_g6 h_g8 h_g9 h_g10 h_g11 h_g12  
        generalize (wn.setRow g10 ((N8 U1) : List Value).toArray) = Wm26 at *
        clear nB_Wm25 H_g4_Wm25 H_g6_Wm25 H_g8_Wm25 H_g9_Wm25 H_g10_Wm25 H_g11_Wm25 H_g12_Wm25 H_g19_Wm25 H_g21_Wm25
        go_upto_region 28 with fail
        have s1_g4 := Lib.hid (RowL.set_ne (w := Wm26.drew) H_g4_Wm26.out ((N8 E2) : List Value).toArray K_g4_g9.out)
        have s1_g6 := Lib.hid (RowL.set_ne (w := Wm26.drew) H_g6_Wm26.out ((N8 E2) : List Value).toArray K_g6_g9.out)
        have s1_g8 := Lib.hid (RowL.set_ne (w := Wm26.drew) H_g8_Wm26.out ((N8 E2) : List Value).toArray K_g8_g9.out)
        have s1_g9 := Lib.hid (RowL.set (w := Wm26.drew) H_g9_Wm26.out ((N8 E2)))
        have s1_g10 := Lib.hid (RowL.set_ne (w := Wm26.drew) H_g10_Wm26.out ((N8 E2) : List Value).toArray (Ne.symm K_g9_g10.out))
        have s1_g11 := Lib.hid (RowL.set_ne (w := Wm26.drew) H_g11_Wm26.out ((N8 E2) : List Value).toArray (Ne.symm K_g9_g11.out))
        have s1_g12 := Lib.hid (RowL.set_ne (w := Wm26.drew) H_g12_Wm26.out ((N8 E2) : List Value).toArray (Ne.symm K_g9_g12.out))
        have s2_g4 := Lib.hid (RowL.set_ne (w := ((Wm26.drew).setRow g9 ((N8 E2) : List Value).toArray)) s1_g4.out ((N8 U2) : List Value).toArray K_g4_g10.out)
        have s2_g6 := Lib.hid (RowL.set_ne (w := ((Wm26.drew).setRow g9 ((N8 E2) : List Value).toArray)) s1_g6.out ((N8 U2) : List Value).toArray K_g6_g10.out)
        have s2_g8 := Lib.hid (RowL.set_ne (w := ((Wm26.drew).setRow g9 ((N8 E2) : List Value).toArray)) s1_g8.out ((N8 U2) : List Value).toArray K_g8_g10.out)
        have s2_g9 := Lib.hid (RowL.set_ne (w := ((Wm26.drew).setRow g9 ((N8 E2) : List Value).toArray)) s1_g9.out ((N8 U2) : List Value).toArray K_g9_g10.out)
        have s2_g10 := Lib.hid (RowL.set (w := ((Wm26.drew).setRow g9 ((N8 E2) : List Value).toArray)) s1_g10.out ((N8 U2)))
        have s2_g11 := Lib.hid (RowL.set_ne (w := ((Wm26.drew).setRow g9 ((N8 E2) : List Value).toArray)) s1_g11.out ((N8 U2) : List Value).toArray (Ne.symm K_g10_g11.out))
        have s2_g12 := Lib.hid (RowL.set_ne (w := ((Wm26.drew).setRow g9 ((N8 E2) : List Value).toArray)) s1_g12.out ((N8 U2) : List Value).toArray (Ne.symm K_g10_g12.out))
        have s3_g4 := Lib.hid (RowL.set_ne (w := ((((Wm26.drew).setRow g9 ((N8 E2) : List Value).toArray)).setRow g10 ((N8 U2) : List Value).toArray)) s2_g4.out ((N8 E1) : List Value).toArray K_g4_g11.out)
        have s3_g6 := Lib.hid (RowL.set_ne (w := ((((Wm26.drew).setRow g9 ((N8 E2) : List Value).toArray)).setRow g10 ((N8 U2) : List Value).toArray)) s2_g6.out ((N8 E1) : List Value).toArray K_g6_g11.out)
        have s3_g8 := Lib.hid (RowL.set_ne (w := ((((Wm26.drew).setRow g9 ((N8 E2) : List Value).toArray)).setRow g10 ((N8 U2) : List Value).toArray)) s2_g8.out ((N8 E1) : List Value).toArray K_g8_g11.out)
        have s3_g9 := Lib.hid (RowL.set_ne (w := ((((Wm26.drew).setRow g9 ((N8 E2) : List Value).toArray)).setRow g10 ((N8 U2) : List Value).toArray)) s2_g9.out ((N8 E1) : List Value).toArray K_g9_g11.out)
        have s3_g10 := Lib.hid (RowL.set_ne (w := ((((Wm26.drew).setRow g9 ((N8 E2) : List Value).toArray)).setRow g10 ((N8 U2) : List Value).toArray)) s2_g10.out ((N8 E1) : List Value).toArray K_g10_g11.out)
        have s3_g11 := Lib.hid (RowL.set (w := ((((Wm26.drew).setRow g9 ((N8 E2) : List Value).toArray)).setRow g10 ((N8 U2) : List Value).toArray)) s2_g11.out ((N8 E1)))
        have s3_g12 := Lib.hid (RowL.set_ne (w := ((((Wm26.drew).setRow g9 ((N8 E2) : List Value).toArray)).setRow g10 ((N8 U2) : List Value).toArray)) s2_g12.out ((N8 E1) : List Value).toArray (Ne.symm K_g11_g12.out))
        have s4_g4 := Lib.hid (RowL.set_ne (w := ((((((Wm26.drew).setRow g9 ((N8 E2) : List Value).toArray)).setRow g10 ((N8 U2) : List Value).toArray)).setRow g11 ((N8 E1) : List Value).toArray)) s3_g4.out ((N8 U1) : List Value).toArray K_g4_g12.out)
        have s4_g6 := Lib.hid (RowL.set_ne (w := ((((((Wm26.drew).setRow g9 ((N8 E2) : List Value).toArray)).setRow g10 ((N8 U2) : List Value).toArray)).setRow g11 ((N8 E1) : List Value).toArray)) s3_g6.out ((N8 U1) : List Value).toArray K_g6_g12.out)
        have s4_g8 := Lib.hid (RowL.set_ne (w := ((((((Wm26.drew).setRow g9 ((N8 E2) : List Value).toArray)).setRow g10 ((N8 U2) : List Value).toArray)).setRow g11 ((N8 E1) : List Value).toArray)) s3_g8.out ((N8 U1) : List Value).toArray K_g8_g12.out)
        have s4_g9 := Lib.hid (RowL.set_ne (w := ((((((Wm26.drew).setRow g9 ((N8 E2) : List Value).toArray)).setRow g10 ((N8 U2) : List Value).toArray)).setRow g11 ((N8 E1) : List Value).toArray)) s3_g9.out ((N8 U1) : List Value).toArray K_g9_g12.out)
        have s4_g10 := Lib.hid (RowL.set_ne (w := ((((((Wm26.drew).setRow g9 ((N8 E2) : List Value).toArray)).setRow g10 ((N8 U2) : List Value).toArray)).setRow g11 ((N8 E1) : List Value).toArray)) s3_g10.out ((N8 U1) : List Value).toArray K_g10_g12.out)
        have s4_g11 := Lib.hid (RowL.set_ne (w := ((((((Wm26.drew).setRow g9 ((N8 E2) : List Value).toArray)).setRow g10 ((N8 U2) : List Value).toArray)).setRow g11 ((N8 E1) : List Value).toArray)) s3_g11.out ((N8 U1) : List Value).toArray K_g11_g12.out)
        have s4_g12 := Lib.hid (RowL.set (w := ((((((Wm26.drew).setRow g9 ((N8 E2) : List Value).toArray)).setRow g10 ((N8 U2) : List Value).toArray)).setRow g11 ((N8 E1) : List Value).toArray)) s3_g12.out ((N8 U1)))
        have nB_Wt := Lib.hid (set_below (set_below (set_below (set_below (Below.drew nB_Wm26.out) U_g9.out ((N8 E2) : List Value).toArray) U_g10.out ((N8 U2) : List Value).toArray) U_g11.out ((N8 E1) : List Value).toArray) U_g12.out ((N8 U1) : List Value).toArray)
        refine wp_region_swap 4 [116, 117, 118, 119] [.agg (N8 E2).toArray, .agg (N8 U2).toArray, .agg (N8 E1).toArray, .agg (N8 U1).toArray] (fun s => match s with | 0 => Wm26.drew | 1 => ((Wm26.drew).setRow g9 ((N8 E2) : List Value).toArray) | 2 => ((((Wm26.drew).setRow g9 ((N8 E2) : List Value).toArray)).setRow g10 ((N8 U2) : List Value).toArray) | 3 => ((((((Wm26.drew).setRow g9 ((N8 E2) : List Value).toArray)).setRow g10 ((N8 U2) : List Value).toArray)).setRow g11 ((N8 E1) : List Value).toArray) | _ => ((((((((Wm26.drew).setRow g9 ((N8 E2) : List Value).toArray)).setRow g10 ((N8 U2) : List Value).toArray)).setRow g11 ((N8 E1) : List Value).toArray)).setRow g12 ((N8 U1) : List Value).toArray)) (by kernel_rfl) rfl rfl (by kernel_rfl) rfl rfl (by kernel_rfl) (by kernel_rfl) (by kernel_rfl) ?_ ?_ ?_
        · intro i v s hv hs hno
          have hi4 : i < 4 := (List.getElem?_eq_some_iff.1 hv).1
          rcases (show i = 0 ∨ i = 1 ∨ i = 2 ∨ i = 3 by omega) with rfl | rfl | rfl | rfl
          · obtain rfl : .agg (N8 E2).toArray = v := by simpa using hv
            have hs2 : s ≤ 0 := by
              refine Decidable.byContradiction fun hc => hno 0 (by omega) (memE (by kernel_rfl))
            rcases (show s = 0 by omega) with rfl
            · intro a hst
              exact ⟨_, rfl, rfl, fun K hK => wp_load_mid 34 (.tmp 11) rfl g11 0 (eval_of (hst 11 (by decide))) ((N8 E2)) _ (RowL.range (w := Wm26.drew) H_g11_Wm26.out 0 _ rfl) undN rfl (by kernel_rfl) hK⟩
          · obtain rfl : .agg (N8 U2).toArray = v := by simpa using hv
            have hs2 : s ≤ 1 := by
              refine Decidable.byContradiction fun hc => hno 1 (by omega) (memE (by kernel_rfl))
            rcases (show s = 0 ∨ s = 1 by omega) with rfl | rfl
            · intro a hst
              exact ⟨_, rfl, rfl, fun K hK => wp_load_mid 34 (.tmp 12) rfl g12 0 (eval_of (hst 12 (by decide))) ((N8 U2)) _ (RowL.range (w := Wm26.drew) H_g12_Wm26.out 0 _ rfl) undN rfl (by kernel_rfl) hK⟩
            · intro a hst
              exact ⟨_, rfl, rfl, fun K hK => wp_load_mid 34 (.tmp 12) rfl g12 0 (eval_of (hst 12 (by decide))) ((N8 U2)) _ (RowL.range (w := ((Wm26.drew).setRow g9 ((N8 E2) : List Value).toArray)) s1_g12.out 0 _ rfl) undN rfl (by kernel_rfl) hK⟩
          · obtain rfl : .agg (N8 E1).toArray = v := by simpa using hv
            have hs2 : s ≤ 0 := by
              refine Decidable.byContradiction fun hc => hno 0 (by omega) (memE (by kernel_rfl))
            rcases (show s = 0 by omega) with rfl
            · intro a hst
              exact ⟨_, rfl, rfl, fun K hK => wp_load_mid 34 (.tmp 9) rfl g9 0 (eval_of (hst 9 (by decide))) ((N8 E1)) _ (RowL.range (w := Wm26.drew) H_g9_Wm26.out 0 _ rfl) undN rfl (by kernel_rfl) hK⟩
          · obtain rfl : .agg (N8 U1).toArray = v := by simpa using hv
            have hs2 : s ≤ 0 := by
              refine Decidable.byContradiction fun hc => hno 0 (by omega) (memE (by kernel_rfl))
            rcases (show s = 0 by omega) with rfl
            · intro a hst
              exact ⟨_, rfl, rfl, fun K hK => wp_load_mid 34 (.tmp 10) rfl g10 0 (eval_of (hst 10 (by decide))) ((N8 U1)) _ (RowL.range (w := Wm26.drew) H_g10_Wm26.out 0 _ rfl) undN rfl (by kernel_rfl) hK⟩
        · intro s hs
          have hs4 : s < 4 := by simp at hs; omega
          rcases (show s = 0 ∨ s = 1 ∨ s = 2 ∨ s = 3 by omega) with rfl | rfl | rfl | rfl
          · intro a hst hval
            exact ⟨_, rfl, rfl, rfl, fun K hK => wp_store_row 34 (.tmp 9) (.tmp 116) rfl g9 ((N8 E2) : List Value).toArray (eval_of (hst 9 (by decide))) (eval_of (hval 0 116 _ (memE (by kernel_rfl)) rfl rfl)) 34 _ H_g9_Wm26.out (by kernel_rfl) rfl (by kernel_rfl) hK⟩
          · intro a hst hval
            exact ⟨_, rfl, rfl, rfl, fun K hK => wp_store_row 34 (.tmp 10) (.tmp 117) rfl g10 ((N8 U2) : List Value).toArray (eval_of (hst 10 (by decide))) (eval_of (hval 1 117 _ (memE (by kernel_rfl)) rfl rfl)) 34 _ s1_g10.out (by kernel_rfl) rfl (by kernel_rfl) hK⟩
          · intro a hst hval
            exact ⟨_, rfl, rfl, rfl, fun K hK => wp_store_row 34 (.tmp 11) (.tmp 118) rfl g11 ((N8 E1) : List Value).toArray (eval_of (hst 11 (by decide))) (eval_of (hval 2 118 _ (memE (by kernel_rfl)) rfl rfl)) 34 _ s2_g11.out (by kernel_rfl) rfl (by kernel_rfl) hK⟩
          · intro a hst hval
            exact ⟨_, rfl, rfl, rfl, fun K hK => wp_store_row 34 (.tmp 12) (.tmp 119) rfl g12 ((N8 U1) : List Value).toArray (eval_of (hst 12 (by decide))) (eval_of (hval 3 119 _ (memE (by kernel_rfl)) rfl rfl)) 34 _ s3_g12.out (by kernel_rfl) rfl (by kernel_rfl) hK⟩
        try simp only [List.zip_cons_cons, List.zip_nil_right, List.zip_nil_left, puts, Act.put, List.setIfInBounds_toArray, List.set_cons_zero, List.set_cons_succ]
        have H_g4_Wt := Lib.hid s4_g4.out
        have H_g6_Wt := Lib.hid s4_g6.out
        have H_g8_Wt := Lib.hid s4_g8.out
        have H_g9_Wt := Lib.hid s4_g9.out
        have H_g10_Wt := Lib.hid s4_g10.out
        have H_g11_Wt := Lib.hid s4_g11.out
        have H_g12_Wt := Lib.hid s4_g12.out
        clear s1_g4 s1_g6 s1_g8 s1_g9 s1_g10 s1_g11 s1_g12 s2_g4 s2_g6 s2_g8 s2_g9 s2_g10 s2_g11 s2_g12 s3_g4 s3_g6 s3_g8 s3_g9 s3_g10 s3_g11 s3_g12 s4_g4 s4_g6 s4_g8 s4_g9 s4_g10 s4_g11 s4_g12
        generalize hgw : ((((((((Wm26.drew).setRow g9 ((N8 E2) : List Value).toArray)).setRow g10 ((N8 U2) : List Value).toArray)).setRow g11 ((N8 E1) : List Value).toArray)).setRow g12 ((N8 U1) : List Value).toArray) = Wt at *
        clear hgw nB_Wm26 H_g4_Wm26 H_g6_Wm26 H_g8_Wm26 H_g9_Wm26 H_g10_Wm26 H_g11_Wm26 H_g12_Wm26
        have HFN : Hid (F (255 - m) = (E2, U2, E1, U1)) := Lib.hid (by rw [HST.out, HBC.out]; unfold ladS; simp only [HB.out, decide_true, if_true]; rw [HRU.out])
        go_wp2
        go_roundw
        case rel => exact ⟨m, E2, U2, E1, U1, Hm.out, rfl, HFN, H_g4_Wt, H_g6_Wt, H_g8_Wt, H_g9_Wt, H_g10_Wt, H_g11_Wt, H_g12_Wt, nB_Wt⟩
        case measure => simp [intOf]
      · have eb : (z : Int) % 2 = 0 := by omega
        have HB := Lib.hid hb
        clear hb
        obtain ⟨a, qa⟩ : ∃ a, a = sumP [A, B] := ⟨_, rfl⟩
        obtain ⟨b, qb⟩ : ∃ b, b = subN A B := ⟨_, rfl⟩
        obtain ⟨c, qc⟩ : ∃ c, c = sumP [C, D] := ⟨_, rfl⟩
        obtain ⟨d, qd⟩ : ∃ d, d = subN C D := ⟨_, rfl⟩
        obtain ⟨da, qda⟩ : ∃ da, da = prodP [d, a] := ⟨_, rfl⟩
        obtain ⟨cb, qcb⟩ : ∃ cb, cb = prodP [c, b] := ⟨_, rfl⟩
        obtain ⟨aa, qaa⟩ : ∃ aa, aa = a * a % PP := ⟨_, rfl⟩
        obtain ⟨bb, qbb⟩ : ∃ bb, bb = b * b % PP := ⟨_, rfl⟩
        obtain ⟨ee, qee⟩ : ∃ ee, ee = subN aa bb := ⟨_, rfl⟩
        obtain ⟨pe, qpe⟩ : ∃ pe, pe = prodP [121665, ee] := ⟨_, rfl⟩
        obtain ⟨se, qse⟩ : ∃ se, se = sumP [aa, pe] := ⟨_, rfl⟩
        obtain ⟨E1, qE1⟩ : ∃ E1, E1 = prodP [aa, bb] := ⟨_, rfl⟩
        obtain ⟨U1, qU1⟩ : ∃ U1, U1 = prodP [ee, se] := ⟨_, rfl⟩
        obtain ⟨s, qs⟩ : ∃ s, s = sumP [da, cb] := ⟨_, rfl⟩
        obtain ⟨t, qt⟩ : ∃ t, t = subN da cb := ⟨_, rfl⟩
        obtain ⟨E2, qE2⟩ : ∃ E2, E2 = s * s % PP := ⟨_, rfl⟩
        obtain ⟨tt, qtt⟩ : ∃ tt, tt = t * t % PP := ⟨_, rfl⟩
        obtain ⟨U2, qU2⟩ : ∃ U2, U2 = prodP [x, tt] := ⟨_, rfl⟩
        have Za : Hid (a < W4) := Lib.hid (by rw [qa]; exact sumP_lt4 _)
        have Zb : Hid (b < W4) := Lib.hid (by rw [qb]; exact subN_lt _ _)
        have Zc : Hid (c < W4) := Lib.hid (by rw [qc]; exact sumP_lt4 _)
        have Zd : Hid (d < W4) := Lib.hid (by rw [qd]; exact subN_lt _ _)
        have Zda : Hid (da < W4) := Lib.hid (by rw [qda]; exact prodP_lt4 _)
        have Zcb : Hid (cb < W4) := Lib.hid (by rw [qcb]; exact prodP_lt4 _)
        have Zaa : Hid (aa < W4) := Lib.hid (by rw [qaa]; exact mod_lt4 _)
        have Zbb : Hid (bb < W4) := Lib.hid (by rw [qbb]; exact mod_lt4 _)
        have Zee : Hid (ee < W4) := Lib.hid (by rw [qee]; exact subN_lt _ _)
        have Zpe : Hid (pe < W4) := Lib.hid (by rw [qpe]; exact prodP_lt4 _)
        have Zse : Hid (se < W4) := Lib.hid (by rw [qse]; exact sumP_lt4 _)
        have ZE1 : Hid (E1 < W4) := Lib.hid (by rw [qE1]; exact prodP_lt4 _)
        have ZU1 : Hid (U1 < W4) := Lib.hid (by rw [qU1]; exact prodP_lt4 _)
        have Zs : Hid (s < W4) := Lib.hid (by rw [qs]; exact sumP_lt4 _)
        have Zt : Hid (t < W4) := Lib.hid (by rw [qt]; exact subN_lt _ _)
        have ZE2 : Hid (E2 < W4) := Lib.hid (by rw [qE2]; exact mod_lt4 _)
        have Ztt : Hid (tt < W4) := Lib.hid (by rw [qtt]; exact mod_lt4 _)
        have ZU2 : Hid (U2 < W4) := Lib.hid (by rw [qU2]; exact prodP_lt4 _)
        have Qa := Lib.hid qa
        have Qb := Lib.hid qb
        have Qc := Lib.hid qc
        have Qd := Lib.hid qd
        have Qda := Lib.hid qda
        have Qcb := Lib.hid qcb
        have Qaa := Lib.hid qaa
        have Qbb := Lib.hid qbb
        have Qee := Lib.hid qee
        have Qpe := Lib.hid qpe
        have Qse := Lib.hid qse
        have QE1 := Lib.hid qE1
        have QU1 := Lib.hid qU1
        have Qs := Lib.hid qs
        have Qt := Lib.hid qt
        have QE2 := Lib.hid qE2
        have Qtt := Lib.hid qtt
        have QU2 := Lib.hid qU2
        have hrung : rungN x A B C D = (E1, U1, E2, U2) := by subst qU2 qtt qE2 qt qs qU1 qE1 qse qpe qee qbb qaa qcb qda qd qc qb qa; rfl
        have HRU := Lib.hid hrung
        clear hrung qa qb qc qd qda qcb qaa qbb qee qpe qse qE1 qU1 qs qt qE2 qtt qU2
        go_upto_region 14 with fail
        refine wp_region_seq 4 [65, 66, 67, 15] (phi [IsV (.agg (N8 A).toArray), IsV (.agg (N8 B).toArray), IsV (.agg (N8 a).toArray), IsR wr.heap.size ([.int .u32 0, .int .u32 0, .int .u32 0, .int .u32 0, .int .u32 0, .int .u32 0, .int .u32 0, .int .u32 0]) 34]) [3] rfl (by kernel_rfl) rfl rfl (by kernel_rfl) rfl (by kernel_rfl) (by kernel_rfl) (phi_mono (by repeat (first | exact mono_v _ | exact mono_r _ _ _ | exact mono_s _ _ _ | exact trivial | refine ⟨?_, ?_⟩))) ?_ ?_
        · intro i hi
          rcases (show i = 0 ∨ i = 1 ∨ i = 2 ∨ i = 3 by omega) with rfl | rfl | rfl | rfl
          · intro ac W hB hst hdep
            have e9 : ac.tmps[9]? = some (.pointer (some ⟨g9, 0, none⟩)) := hst 9 (by decide)
            exact st_load rfl (wanted_no rfl) 34 (.tmp 9) rfl (eval_of e9) ((N8 A)) _ ((RowL.upS (w := wr) r9.out hB).range 0 _ rfl) undN rfl (by kernel_rfl) rfl (notE rfl)
          · intro ac W hB hst hdep
            have e10 : ac.tmps[10]? = some (.pointer (some ⟨g10, 0, none⟩)) := hst 10 (by decide)
            exact st_load rfl (wanted_no rfl) 34 (.tmp 10) rfl (eval_of e10) ((N8 B)) _ ((RowL.upS (w := wr) r10.out hB).range 0 _ rfl) undN rfl (by kernel_rfl) rfl (notE rfl)
          · intro ac W hB hst hdep
            obtain ⟨x65, e65, h65⟩ := hdep 0 (memE (by kernel_rfl)) 65 rfl
            replace h65 : x65 = .agg (N8 A).toArray := h65
            subst h65
            obtain ⟨x66, e66, h66⟩ := hdep 1 (memE (by kernel_rfl)) 66 rfl
            replace h66 : x66 = .agg (N8 B).toArray := h66
            subst h66
            exact st_call rfl (wanted_no rfl) rfl (show (#[.tmp 65, .tmp 66] : Array Operand).map ac.eval = (#[.agg (N8 A).toArray, .agg (N8 B).toArray] : Array Value) by simp only [List.map_toArray, List.map_cons, List.map_nil, Act.eval_const, eval_of e65, eval_of e66]) (fun _ => by kernel_rfl) (Calls.mono (addR ZA.out ZB.out (Qa.out.trans (sumP2 _ _))) fun e w' h => ⟨_, h.1, h.2, rfl⟩) (notE rfl)
          · intro ac W hB hst hdep
            exact st_alloc rfl (wanted_no rfl) 34 rfl allocN ⟨_, rfl, hB.size, heap_alloc_new _ _⟩
        intro vs hvs wn hbr hv hne
        obtain ⟨v65, v66, v67, v15, rfl⟩ := listr4 vs hvs
        obtain rfl : v65 = .agg (N8 A).toArray := hv 0 _ rfl
        obtain rfl : v66 = .agg (N8 B).toArray := hv 1 _ rfl
        obtain rfl : v67 = .agg (N8 a).toArray := hv 2 _ rfl
        obtain ⟨g15, hg15, hB15, hr15⟩ : IsR wr.heap.size ([.int .u32 0, .int .u32 0, .int .u32 0, .int .u32 0, .int .u32 0, .int .u32 0, .int .u32 0, .int .u32 0]) 34 v15 wn := hv 3 _ rfl
        subst hg15
        clear hvs hv hne
        try simp only [List.zip_cons_cons, List.zip_nil_right, List.zip_nil_left, puts, Act.put, List.setIfInBounds_toArray, List.set_cons_zero, List.set_cons_succ]
        have nB_Wm14 := Lib.hid (hB0.out.trans (hbr.mono hB0.out.size))
        have h_g4 := r4.out.upS hbr
        have h_g6 := r6.out.upS hbr
        have h_g8 := r8.out.upS hbr
        have h_g9 := r9.out.upS hbr
        have h_g10 := r10.out.upS hbr
        have h_g11 := r11.out.upS hbr
        have h_g12 := r12.out.upS hbr
        have K_g4_g15 : Hid (g4 ≠ g15) := Lib.hid (Nat.ne_of_lt (Nat.lt_of_lt_of_le r4.out.lt hB15))
        have K_g6_g15 : Hid (g6 ≠ g15) := Lib.hid (Nat.ne_of_lt (Nat.lt_of_lt_of_le r6.out.lt hB15))
        have K_g8_g15 : Hid (g8 ≠ g15) := Lib.hid (Nat.ne_of_lt (Nat.lt_of_lt_of_le r8.out.lt hB15))
        have K_g9_g15 : Hid (g9 ≠ g15) := Lib.hid (Nat.ne_of_lt (Nat.lt_of_lt_of_le r9.out.lt hB15))
        have K_g10_g15 : Hid (g10 ≠ g15) := Lib.hid (Nat.ne_of_lt (Nat.lt_of_lt_of_le r10.out.lt hB15))
        have K_g11_g15 : Hid (g11 ≠ g15) := Lib.hid (Nat.ne_of_lt (Nat.lt_of_lt_of_le r11.out.lt hB15))
        have K_g12_g15 : Hid (g12 ≠ g15) := Lib.hid (Nat.ne_of_lt (Nat.lt_of_lt_of_le r12.out.lt hB15))
        have U_g15 : Hid (w.heap.size ≤ g15) := Lib.hid (Nat.le_trans hB0.out.size hB15)
        refine tail_store (k := 4) (by kernel_rfl) rfl rfl rfl 34 (.tmp 15) (.tmp 67) rfl g15 ((N8 a) : List Value).toArray (by kernel_rfl) (by kernel_rfl) _ _ hr15 (by kernel_rfl) rfl (by kernel_rfl) ?_
        replace h_g4 := RowL.set_ne h_g4 ((N8 a) : List Value).toArray K_g4_g15.out
        replace h_g6 := RowL.set_ne h_g6 ((N8 a) : List Value).toArray K_g6_g15.out
        replace h_g8 := RowL.set_ne h_g8 ((N8 a) : List Value).toArray K_g8_g15.out
        replace h_g9 := RowL.set_ne h_g9 ((N8 a) : List Value).toArray K_g9_g15.out
        replace h_g10 := RowL.set_ne h_g10 ((N8 a) : List Value).toArray K_g10_g15.out
        replace h_g11 := RowL.set_ne h_g11 ((N8 a) : List Value).toArray K_g11_g15.out
        replace h_g12 := RowL.set_ne h_g12 ((N8 a) : List Value).toArray K_g12_g15.out
        replace hr15 := RowL.set hr15 ((N8 a))
        replace nB_Wm14 := Lib.hid (set_below nB_Wm14.out U_g15.out ((N8 a) : List Value).toArray)
        refine wpAny_done (by kernel_rfl) ?_ _
        have H_g4_Wm14 := Lib.hid h_g4
        have H_g6_Wm14 := Lib.hid h_g6
        have H_g8_Wm14 := Lib.hid h_g8
        have H_g9_Wm14 := Lib.hid h_g9
        have H_g10_Wm14 := Lib.hid h_g10
        have H_g11_Wm14 := Lib.hid h_g11
        have H_g12_Wm14 := Lib.hid h_g12
        have H_g15_Wm14 := Lib.hid hr15
        clear hbr h_g4 h_g6 h_g8 h_g9 h_g10 h_g11 h_g12 hr15 hB15 
        generalize (wn.setRow g15 ((N8 a) : List Value).toArray) = Wm14 at *
        clear hB0 r4 r6 r8 r9 r10 r11 r12
        go_upto_region 15 with fail
        refine wp_region_seq 4 [68, 69, 70, 16] (phi [IsV (.agg (N8 A).toArray), IsV (.agg (N8 B).toArray), IsV (.agg (N8 b).toArray), IsR Wm14.heap.size ([.int .u32 0, .int .u32 0, .int .u32 0, .int .u32 0, .int .u32 0, .int .u32 0, .int .u32 0, .int .u32 0]) 34]) [3] rfl (by kernel_rfl) rfl rfl (by kernel_rfl) rfl (by kernel_rfl) (by kernel_rfl) (phi_mono (by repeat (first | exact mono_v _ | exact mono_r _ _ _ | exact mono_s _ _ _ | exact trivial | refine ⟨?_, ?_⟩))) ?_ ?_
        · intro i hi
          rcases (show i = 0 ∨ i = 1 ∨ i = 2 ∨ i = 3 by omega) with rfl | rfl | rfl | rfl
          · intro ac W hB hst hdep
            have e9 : ac.tmps[9]? = some (.pointer (some ⟨g9, 0, none⟩)) := hst 9 (by decide)
            exact st_load rfl (wanted_no rfl) 34 (.tmp 9) rfl (eval_of e9) ((N8 A)) _ ((RowL.upS (w := Wm14) H_g9_Wm14.out hB).range 0 _ rfl) undN rfl (by kernel_rfl) rfl (notE rfl)
          · intro ac W hB hst hdep
            have e10 : ac.tmps[10]? = some (.pointer (some ⟨g10, 0, none⟩)) := hst 10 (by decide)
            exact st_load rfl (wanted_no rfl) 34 (.tmp 10) rfl (eval_of e10) ((N8 B)) _ ((RowL.upS (w := Wm14) H_g10_Wm14.out hB).range 0 _ rfl) undN rfl (by kernel_rfl) rfl (notE rfl)
          · intro ac W hB hst hdep
            obtain ⟨x68, e68, h68⟩ := hdep 0 (memE (by kernel_rfl)) 68 rfl
            replace h68 : x68 = .agg (N8 A).toArray := h68
            subst h68
            obtain ⟨x69, e69, h69⟩ := hdep 1 (memE (by kernel_rfl)) 69 rfl
            replace h69 : x69 = .agg (N8 B).toArray := h69
            subst h69
            exact st_call rfl (wanted_no rfl) rfl (show (#[.tmp 68, .tmp 69] : Array Operand).map ac.eval = (#[.agg (N8 A).toArray, .agg (N8 B).toArray] : Array Value) by simp only [List.map_toArray, List.map_cons, List.map_nil, Act.eval_const, eval_of e68, eval_of e69]) (fun _ => by kernel_rfl) (Calls.mono (subR ZA.out ZB.out (Qb.out)) fun e w' h => ⟨_, h.1, h.2, rfl⟩) (notE rfl)
          · intro ac W hB hst hdep
            exact st_alloc rfl (wanted_no rfl) 34 rfl allocN ⟨_, rfl, hB.size, heap_alloc_new _ _⟩
        intro vs hvs wn hbr hv hne
        obtain ⟨v68, v69, v70, v16, rfl⟩ := listr4 vs hvs
        obtain rfl : v68 = .agg (N8 A).toArray := hv 0 _ rfl
        obtain rfl : v69 = .agg (N8 B).toArray := hv 1 _ rfl
        obtain rfl : v70 = .agg (N8 b).toArray := hv 2 _ rfl
        obtain ⟨g16, hg16, hB16, hr16⟩ : IsR Wm14.heap.size ([.int .u32 0, .int .u32 0, .int .u32 0, .int .u32 0, .int .u32 0, .int .u32 0, .int .u32 0, .int .u32 0]) 34 v16 wn := hv 3 _ rfl
        subst hg16
        clear hvs hv hne
        try simp only [List.zip_cons_cons, List.zip_nil_right, List.zip_nil_left, puts, Act.put, List.setIfInBounds_toArray, List.set_cons_zero, List.set_cons_succ]
        have nB_Wm15 := Lib.hid (nB_Wm14.out.trans (hbr.mono nB_Wm14.out.size))
        have h_g4 := H_g4_Wm14.out.upS hbr
        have h_g6 := H_g6_Wm14.out.upS hbr
        have h_g8 := H_g8_Wm14.out.upS hbr
        have h_g9 := H_g9_Wm14.out.upS hbr
        have h_g10 := H_g10_Wm14.out.upS hbr
        have h_g11 := H_g11_Wm14.out.upS hbr
        have h_g12 := H_g12_Wm14.out.upS hbr
        have h_g15 := H_g15_Wm14.out.upS hbr
        have K_g4_g16 : Hid (g4 ≠ g16) := Lib.hid (Nat.ne_of_lt (Nat.lt_of_lt_of_le H_g4_Wm14.out.lt hB16))
        have K_g6_g16 : Hid (g6 ≠ g16) := Lib.hid (Nat.ne_of_lt (Nat.lt_of_lt_of_le H_g6_Wm14.out.lt hB16))
        have K_g8_g16 : Hid (g8 ≠ g16) := Lib.hid (Nat.ne_of_lt (Nat.lt_of_lt_of_le H_g8_Wm14.out.lt hB16))
        have K_g9_g16 : Hid (g9 ≠ g16) := Lib.hid (Nat.ne_of_lt (Nat.lt_of_lt_of_le H_g9_Wm14.out.lt hB16))
        have K_g10_g16 : Hid (g10 ≠ g16) := Lib.hid (Nat.ne_of_lt (Nat.lt_of_lt_of_le H_g10_Wm14.out.lt hB16))
        have K_g11_g16 : Hid (g11 ≠ g16) := Lib.hid (Nat.ne_of_lt (Nat.lt_of_lt_of_le H_g11_Wm14.out.lt hB16))
        have K_g12_g16 : Hid (g12 ≠ g16) := Lib.hid (Nat.ne_of_lt (Nat.lt_of_lt_of_le H_g12_Wm14.out.lt hB16))
        have K_g15_g16 : Hid (g15 ≠ g16) := Lib.hid (Nat.ne_of_lt (Nat.lt_of_lt_of_le H_g15_Wm14.out.lt hB16))
        have U_g16 : Hid (w.heap.size ≤ g16) := Lib.hid (Nat.le_trans nB_Wm14.out.size hB16)
        refine tail_store (k := 4) (by kernel_rfl) rfl rfl rfl 34 (.tmp 16) (.tmp 70) rfl g16 ((N8 b) : List Value).toArray (by kernel_rfl) (by kernel_rfl) _ _ hr16 (by kernel_rfl) rfl (by kernel_rfl) ?_
        replace h_g4 := RowL.set_ne h_g4 ((N8 b) : List Value).toArray K_g4_g16.out
        replace h_g6 := RowL.set_ne h_g6 ((N8 b) : List Value).toArray K_g6_g16.out
        replace h_g8 := RowL.set_ne h_g8 ((N8 b) : List Value).toArray K_g8_g16.out
        replace h_g9 := RowL.set_ne h_g9 ((N8 b) : List Value).toArray K_g9_g16.out
        replace h_g10 := RowL.set_ne h_g10 ((N8 b) : List Value).toArray K_g10_g16.out
        replace h_g11 := RowL.set_ne h_g11 ((N8 b) : List Value).toArray K_g11_g16.out
        replace h_g12 := RowL.set_ne h_g12 ((N8 b) : List Value).toArray K_g12_g16.out
        replace h_g15 := RowL.set_ne h_g15 ((N8 b) : List Value).toArray K_g15_g16.out
        replace hr16 := RowL.set hr16 ((N8 b))
        replace nB_Wm15 := Lib.hid (set_below nB_Wm15.out U_g16.out ((N8 b) : List Value).toArray)
        refine wpAny_done (by kernel_rfl) ?_ _
        have H_g4_Wm15 := Lib.hid h_g4
        have H_g6_Wm15 := Lib.hid h_g6
        have H_g8_Wm15 := Lib.hid h_g8
        have H_g9_Wm15 := Lib.hid h_g9
        have H_g10_Wm15 := Lib.hid h_g10
        have H_g11_Wm15 := Lib.hid h_g11
        have H_g12_Wm15 := Lib.hid h_g12
        have H_g15_Wm15 := Lib.hid h_g15
        have H_g16_Wm15 := Lib.hid hr16
        clear hbr h_g4 h_g6 h_g8 h_g9 h_g10 h_g11 h_g12 h_g15 hr16 hB16 
        generalize (wn.setRow g16 ((N8 b) : List Value).toArray) = Wm15 at *
        clear nB_Wm14 H_g4_Wm14 H_g6_Wm14 H_g8_Wm14 H_g9_Wm14 H_g10_Wm14 H_g11_Wm14 H_g12_Wm14 H_g15_Wm14
        go_upto_region 16 with fail
        refine wp_region_mono 6 [71, 72, 73, 74, 75, 17] (phi [IsV (.agg (N8 C).toArray), IsV (.agg (N8 D).toArray), IsV (.agg (N8 d).toArray), IsV (.agg (N8 a).toArray), IsV (.agg (N8 da).toArray), IsR Wm15.heap.size ([.int .u32 0, .int .u32 0, .int .u32 0, .int .u32 0, .int .u32 0, .int .u32 0, .int .u32 0, .int .u32 0]) 34]) [5] rfl (by kernel_rfl) rfl rfl (by kernel_rfl) rfl (by kernel_rfl) (by kernel_rfl) (phi_mono (by repeat (first | exact mono_v _ | exact mono_r _ _ _ | exact mono_s _ _ _ | exact trivial | refine ⟨?_, ?_⟩))) ?_ ?_
        · intro i hi
          rcases (show i = 0 ∨ i = 1 ∨ i = 2 ∨ i = 3 ∨ i = 4 ∨ i = 5 by omega) with rfl | rfl | rfl | rfl | rfl | rfl
          · intro ac W hB hst hdep
            have e11 : ac.tmps[11]? = some (.pointer (some ⟨g11, 0, none⟩)) := hst 11 (by decide)
            exact st_load rfl (wanted_no rfl) 34 (.tmp 11) rfl (eval_of e11) ((N8 C)) _ ((RowL.upS (w := Wm15.drew) H_g11_Wm15.out hB).range 0 _ rfl) undN rfl (by kernel_rfl) rfl (notE rfl)
          · intro ac W hB hst hdep
            have e12 : ac.tmps[12]? = some (.pointer (some ⟨g12, 0, none⟩)) := hst 12 (by decide)
            exact st_load rfl (wanted_no rfl) 34 (.tmp 12) rfl (eval_of e12) ((N8 D)) _ ((RowL.upS (w := Wm15.drew) H_g12_Wm15.out hB).range 0 _ rfl) undN rfl (by kernel_rfl) rfl (notE rfl)
          · intro ac W hB hst hdep
            obtain ⟨x71, e71, h71⟩ := hdep 0 (memE (by kernel_rfl)) 71 rfl
            replace h71 : x71 = .agg (N8 C).toArray := h71
            subst h71
            obtain ⟨x72, e72, h72⟩ := hdep 1 (memE (by kernel_rfl)) 72 rfl
            replace h72 : x72 = .agg (N8 D).toArray := h72
            subst h72
            exact st_call rfl (wanted_no rfl) rfl (show (#[.tmp 71, .tmp 72] : Array Operand).map ac.eval = (#[.agg (N8 C).toArray, .agg (N8 D).toArray] : Array Value) by simp only [List.map_toArray, List.map_cons, List.map_nil, Act.eval_const, eval_of e71, eval_of e72]) (fun _ => by kernel_rfl) (Calls.mono (subR ZC.out ZD.out (Qd.out)) fun e w' h => ⟨_, h.1, h.2, rfl⟩) (notE rfl)
          · intro ac W hB hst hdep
            have e15 : ac.tmps[15]? = some (.pointer (some ⟨g15, 0, none⟩)) := hst 15 (by decide)
            exact st_load rfl (wanted_no rfl) 34 (.tmp 15) rfl (eval_of e15) ((N8 a)) _ ((RowL.upS (w := Wm15.drew) H_g15_Wm15.out hB).range 0 _ rfl) undN rfl (by kernel_rfl) rfl (notE rfl)
          · intro ac W hB hst hdep
            obtain ⟨x73, e73, h73⟩ := hdep 2 (memE (by kernel_rfl)) 73 rfl
            replace h73 : x73 = .agg (N8 d).toArray := h73
            subst h73
            obtain ⟨x74, e74, h74⟩ := hdep 3 (memE (by kernel_rfl)) 74 rfl
            replace h74 : x74 = .agg (N8 a).toArray := h74
            subst h74
            exact st_call rfl (wanted_no rfl) rfl (show (#[.tmp 73, .tmp 74] : Array Operand).map ac.eval = (#[.agg (N8 d).toArray, .agg (N8 a).toArray] : Array Value) by simp only [List.map_toArray, List.map_cons, List.map_nil, Act.eval_const, eval_of e73, eval_of e74]) (fun _ => by kernel_rfl) (Calls.mono (mulR Zd.out Za.out (Qda.out.trans (prodP2 _ _))) fun e w' h => ⟨_, h.1, h.2, rfl⟩) (notE rfl)
          · intro ac W hB hst hdep
            exact st_alloc rfl (wanted_no rfl) 34 rfl allocN ⟨_, rfl, hB.size, heap_alloc_new _ _⟩
        intro vs hvs wn hbr hv hne
        obtain ⟨v71, v72, v73, v74, v75, v17, rfl⟩ := listr6 vs hvs
        obtain rfl : v71 = .agg (N8 C).toArray := hv 0 _ rfl
        obtain rfl : v72 = .agg (N8 D).toArray := hv 1 _ rfl
        obtain rfl : v73 = .agg (N8 d).toArray := hv 2 _ rfl
        obtain rfl : v74 = .agg (N8 a).toArray := hv 3 _ rfl
        obtain rfl : v75 = .agg (N8 da).toArray := hv 4 _ rfl
        obtain ⟨g17, hg17, hB17, hr17⟩ : IsR Wm15.heap.size ([.int .u32 0, .int .u32 0, .int .u32 0, .int .u32 0, .int .u32 0, .int .u32 0, .int .u32 0, .int .u32 0]) 34 v17 wn := hv 5 _ rfl
        subst hg17
        clear hvs hv hne
        try simp only [List.zip_cons_cons, List.zip_nil_right, List.zip_nil_left, puts, Act.put, List.setIfInBounds_toArray, List.set_cons_zero, List.set_cons_succ]
        have nB_Wm16 := Lib.hid (nB_Wm15.out.trans (hbr.mono nB_Wm15.out.size))
        have h_g4 := H_g4_Wm15.out.upS hbr
        have h_g6 := H_g6_Wm15.out.upS hbr
        have h_g8 := H_g8_Wm15.out.upS hbr
        have h_g9 := H_g9_Wm15.out.upS hbr
        have h_g10 := H_g10_Wm15.out.upS hbr
        have h_g11 := H_g11_Wm15.out.upS hbr
        have h_g12 := H_g12_Wm15.out.upS hbr
        have h_g15 := H_g15_Wm15.out.upS hbr
        have h_g16 := H_g16_Wm15.out.upS hbr
        have K_g4_g17 : Hid (g4 ≠ g17) := Lib.hid (Nat.ne_of_lt (Nat.lt_of_lt_of_le H_g4_Wm15.out.lt hB17))
        have K_g6_g17 : Hid (g6 ≠ g17) := Lib.hid (Nat.ne_of_lt (Nat.lt_of_lt_of_le H_g6_Wm15.out.lt hB17))
        have K_g8_g17 : Hid (g8 ≠ g17) := Lib.hid (Nat.ne_of_lt (Nat.lt_of_lt_of_le H_g8_Wm15.out.lt hB17))
        have K_g9_g17 : Hid (g9 ≠ g17) := Lib.hid (Nat.ne_of_lt (Nat.lt_of_lt_of_le H_g9_Wm15.out.lt hB17))
        have K_g10_g17 : Hid (g10 ≠ g17) := Lib.hid (Nat.ne_of_lt (Nat.lt_of_lt_of_le H_g10_Wm15.out.lt hB17))
        have K_g11_g17 : Hid (g11 ≠ g17) := Lib.hid (Nat.ne_of_lt (Nat.lt_of_lt_of_le H_g11_Wm15.out.lt hB17))
        have K_g12_g17 : Hid (g12 ≠ g17) := Lib.hid (Nat.ne_of_lt (Nat.lt_of_lt_of_le H_g12_Wm15.out.lt hB17))
        have K_g15_g17 : Hid (g15 ≠ g17) := Lib.hid (Nat.ne_of_lt (Nat.lt_of_lt_of_le H_g15_Wm15.out.lt hB17))
        have K_g16_g17 : Hid (g16 ≠ g17) := Lib.hid (Nat.ne_of_lt (Nat.lt_of_lt_of_le H_g16_Wm15.out.lt hB17))
        have U_g17 : Hid (w.heap.size ≤ g17) := Lib.hid (Nat.le_trans nB_Wm15.out.size hB17)
        refine tail_store (k := 6) (by kernel_rfl) rfl rfl rfl 34 (.tmp 17) (.tmp 75) rfl g17 ((N8 da) : List Value).toArray (by kernel_rfl) (by kernel_rfl) _ _ hr17 (by kernel_rfl) rfl (by kernel_rfl) ?_
        replace h_g4 := RowL.set_ne h_g4 ((N8 da) : List Value).toArray K_g4_g17.out
        replace h_g6 := RowL.set_ne h_g6 ((N8 da) : List Value).toArray K_g6_g17.out
        replace h_g8 := RowL.set_ne h_g8 ((N8 da) : List Value).toArray K_g8_g17.out
        replace h_g9 := RowL.set_ne h_g9 ((N8 da) : List Value).toArray K_g9_g17.out
        replace h_g10 := RowL.set_ne h_g10 ((N8 da) : List Value).toArray K_g10_g17.out
        replace h_g11 := RowL.set_ne h_g11 ((N8 da) : List Value).toArray K_g11_g17.out
        replace h_g12 := RowL.set_ne h_g12 ((N8 da) : List Value).toArray K_g12_g17.out
        replace h_g15 := RowL.set_ne h_g15 ((N8 da) : List Value).toArray K_g15_g17.out
        replace h_g16 := RowL.set_ne h_g16 ((N8 da) : List Value).toArray K_g16_g17.out
        replace hr17 := RowL.set hr17 ((N8 da))
        replace nB_Wm16 := Lib.hid (set_below nB_Wm16.out U_g17.out ((N8 da) : List Value).toArray)
        refine wpAny_done (by kernel_rfl) ?_ _
        have H_g4_Wm16 := Lib.hid h_g4
        have H_g6_Wm16 := Lib.hid h_g6
        have H_g8_Wm16 := Lib.hid h_g8
        have H_g9_Wm16 := Lib.hid h_g9
        have H_g10_Wm16 := Lib.hid h_g10
        have H_g11_Wm16 := Lib.hid h_g11
        have H_g12_Wm16 := Lib.hid h_g12
        have H_g15_Wm16 := Lib.hid h_g15
        have H_g16_Wm16 := Lib.hid h_g16
        have H_g17_Wm16 := Lib.hid hr17
        clear hbr h_g4 h_g6 h_g8 h_g9 h_g10 h_g11 h_g12 h_g15 h_g16 hr17 hB17 
        generalize (wn.setRow g17 ((N8 da) : List Value).toArray) = Wm16 at *
        clear nB_Wm15 H_g4_Wm15 H_g6_Wm15 H_g8_Wm15 H_g9_Wm15 H_g10_Wm15 H_g11_Wm15 H_g12_Wm15 H_g15_Wm15 H_g16_Wm15
        go_upto_region 17 with fail
        refine wp_region_mono 6 [76, 77, 78, 79, 80, 18] (phi [IsV (.agg (N8 C).toArray), IsV (.agg (N8 D).toArray), IsV (.agg (N8 c).toArray), IsV (.agg (N8 b).toArray), IsV (.agg (N8 cb).toArray), IsR Wm16.heap.size ([.int .u32 0, .int .u32 0, .int .u32 0, .int .u32 0, .int .u32 0, .int .u32 0, .int .u32 0, .int .u32 0]) 34]) [5] rfl (by kernel_rfl) rfl rfl (by kernel_rfl) rfl (by kernel_rfl) (by kernel_rfl) (phi_mono (by repeat (first | exact mono_v _ | exact mono_r _ _ _ | exact mono_s _ _ _ | exact trivial | refine ⟨?_, ?_⟩))) ?_ ?_
        · intro i hi
          rcases (show i = 0 ∨ i = 1 ∨ i = 2 ∨ i = 3 ∨ i = 4 ∨ i = 5 by omega) with rfl | rfl | rfl | rfl | rfl | rfl
          · intro ac W hB hst hdep
            have e11 : ac.tmps[11]? = some (.pointer (some ⟨g11, 0, none⟩)) := hst 11 (by decide)
            exact st_load rfl (wanted_no rfl) 34 (.tmp 11) rfl (eval_of e11) ((N8 C)) _ ((RowL.upS (w := Wm16.drew) H_g11_Wm16.out hB).range 0 _ rfl) undN rfl (by kernel_rfl) rfl (notE rfl)
          · intro ac W hB hst hdep
            have e12 : ac.tmps[12]? = some (.pointer (some ⟨g12, 0, none⟩)) := hst 12 (by decide)
            exact st_load rfl (wanted_no rfl) 34 (.tmp 12) rfl (eval_of e12) ((N8 D)) _ ((RowL.upS (w := Wm16.drew) H_g12_Wm16.out hB).range 0 _ rfl) undN rfl (by kernel_rfl) rfl (notE rfl)
          · intro ac W hB hst hdep
            obtain ⟨x76, e76, h76⟩ := hdep 0 (memE (by kernel_rfl)) 76 rfl
            replace h76 : x76 = .agg (N8 C).toArray := h76
            subst h76
            obtain ⟨x77, e77, h77⟩ := hdep 1 (memE (by kernel_rfl)) 77 rfl
            replace h77 : x77 = .agg (N8 D).toArray := h77
            subst h77
            exact st_call rfl (wanted_no rfl) rfl (show (#[.tmp 76, .tmp 77] : Array Operand).map ac.eval = (#[.agg (N8 C).toArray, .agg (N8 D).toArray] : Array Value) by simp only [List.map_toArray, List.map_cons, List.map_nil, Act.eval_const, eval_of e76, eval_of e77]) (fun _ => by kernel_rfl) (Calls.mono (addR ZC.out ZD.out (Qc.out.trans (sumP2 _ _))) fun e w' h => ⟨_, h.1, h.2, rfl⟩) (notE rfl)
          · intro ac W hB hst hdep
            have e16 : ac.tmps[16]? = some (.pointer (some ⟨g16, 0, none⟩)) := hst 16 (by decide)
            exact st_load rfl (wanted_no rfl) 34 (.tmp 16) rfl (eval_of e16) ((N8 b)) _ ((RowL.upS (w := Wm16.drew) H_g16_Wm16.out hB).range 0 _ rfl) undN rfl (by kernel_rfl) rfl (notE rfl)
          · intro ac W hB hst hdep
            obtain ⟨x78, e78, h78⟩ := hdep 2 (memE (by kernel_rfl)) 78 rfl
            replace h78 : x78 = .agg (N8 c).toArray := h78
            subst h78
            obtain ⟨x79, e79, h79⟩ := hdep 3 (memE (by kernel_rfl)) 79 rfl
            replace h79 : x79 = .agg (N8 b).toArray := h79
            subst h79
            exact st_call rfl (wanted_no rfl) rfl (show (#[.tmp 78, .tmp 79] : Array Operand).map ac.eval = (#[.agg (N8 c).toArray, .agg (N8 b).toArray] : Array Value) by simp only [List.map_toArray, List.map_cons, List.map_nil, Act.eval_const, eval_of e78, eval_of e79]) (fun _ => by kernel_rfl) (Calls.mono (mulR Zc.out Zb.out (Qcb.out.trans (prodP2 _ _))) fun e w' h => ⟨_, h.1, h.2, rfl⟩) (notE rfl)
          · intro ac W hB hst hdep
            exact st_alloc rfl (wanted_no rfl) 34 rfl allocN ⟨_, rfl, hB.size, heap_alloc_new _ _⟩
        intro vs hvs wn hbr hv hne
        obtain ⟨v76, v77, v78, v79, v80, v18, rfl⟩ := listr6 vs hvs
        obtain rfl : v76 = .agg (N8 C).toArray := hv 0 _ rfl
        obtain rfl : v77 = .agg (N8 D).toArray := hv 1 _ rfl
        obtain rfl : v78 = .agg (N8 c).toArray := hv 2 _ rfl
        obtain rfl : v79 = .agg (N8 b).toArray := hv 3 _ rfl
        obtain rfl : v80 = .agg (N8 cb).toArray := hv 4 _ rfl
        obtain ⟨g18, hg18, hB18, hr18⟩ : IsR Wm16.heap.size ([.int .u32 0, .int .u32 0, .int .u32 0, .int .u32 0, .int .u32 0, .int .u32 0, .int .u32 0, .int .u32 0]) 34 v18 wn := hv 5 _ rfl
        subst hg18
        clear hvs hv hne
        try simp only [List.zip_cons_cons, List.zip_nil_right, List.zip_nil_left, puts, Act.put, List.setIfInBounds_toArray, List.set_cons_zero, List.set_cons_succ]
        have nB_Wm17 := Lib.hid (nB_Wm16.out.trans (hbr.mono nB_Wm16.out.size))
        have h_g4 := H_g4_Wm16.out.upS hbr
        have h_g6 := H_g6_Wm16.out.upS hbr
        have h_g8 := H_g8_Wm16.out.upS hbr
        have h_g9 := H_g9_Wm16.out.upS hbr
        have h_g10 := H_g10_Wm16.out.upS hbr
        have h_g11 := H_g11_Wm16.out.upS hbr
        have h_g12 := H_g12_Wm16.out.upS hbr
        have h_g15 := H_g15_Wm16.out.upS hbr
        have h_g16 := H_g16_Wm16.out.upS hbr
        have h_g17 := H_g17_Wm16.out.upS hbr
        have K_g4_g18 : Hid (g4 ≠ g18) := Lib.hid (Nat.ne_of_lt (Nat.lt_of_lt_of_le H_g4_Wm16.out.lt hB18))
        have K_g6_g18 : Hid (g6 ≠ g18) := Lib.hid (Nat.ne_of_lt (Nat.lt_of_lt_of_le H_g6_Wm16.out.lt hB18))
        have K_g8_g18 : Hid (g8 ≠ g18) := Lib.hid (Nat.ne_of_lt (Nat.lt_of_lt_of_le H_g8_Wm16.out.lt hB18))
        have K_g9_g18 : Hid (g9 ≠ g18) := Lib.hid (Nat.ne_of_lt (Nat.lt_of_lt_of_le H_g9_Wm16.out.lt hB18))
        have K_g10_g18 : Hid (g10 ≠ g18) := Lib.hid (Nat.ne_of_lt (Nat.lt_of_lt_of_le H_g10_Wm16.out.lt hB18))
        have K_g11_g18 : Hid (g11 ≠ g18) := Lib.hid (Nat.ne_of_lt (Nat.lt_of_lt_of_le H_g11_Wm16.out.lt hB18))
        have K_g12_g18 : Hid (g12 ≠ g18) := Lib.hid (Nat.ne_of_lt (Nat.lt_of_lt_of_le H_g12_Wm16.out.lt hB18))
        have K_g15_g18 : Hid (g15 ≠ g18) := Lib.hid (Nat.ne_of_lt (Nat.lt_of_lt_of_le H_g15_Wm16.out.lt hB18))
        have K_g16_g18 : Hid (g16 ≠ g18) := Lib.hid (Nat.ne_of_lt (Nat.lt_of_lt_of_le H_g16_Wm16.out.lt hB18))
        have K_g17_g18 : Hid (g17 ≠ g18) := Lib.hid (Nat.ne_of_lt (Nat.lt_of_lt_of_le H_g17_Wm16.out.lt hB18))
        have U_g18 : Hid (w.heap.size ≤ g18) := Lib.hid (Nat.le_trans nB_Wm16.out.size hB18)
        refine tail_store (k := 6) (by kernel_rfl) rfl rfl rfl 34 (.tmp 18) (.tmp 80) rfl g18 ((N8 cb) : List Value).toArray (by kernel_rfl) (by kernel_rfl) _ _ hr18 (by kernel_rfl) rfl (by kernel_rfl) ?_
        replace h_g4 := RowL.set_ne h_g4 ((N8 cb) : List Value).toArray K_g4_g18.out
        replace h_g6 := RowL.set_ne h_g6 ((N8 cb) : List Value).toArray K_g6_g18.out
        replace h_g8 := RowL.set_ne h_g8 ((N8 cb) : List Value).toArray K_g8_g18.out
        replace h_g9 := RowL.set_ne h_g9 ((N8 cb) : List Value).toArray K_g9_g18.out
        replace h_g10 := RowL.set_ne h_g10 ((N8 cb) : List Value).toArray K_g10_g18.out
        replace h_g11 := RowL.set_ne h_g11 ((N8 cb) : List Value).toArray K_g11_g18.out
        replace h_g12 := RowL.set_ne h_g12 ((N8 cb) : List Value).toArray K_g12_g18.out
        replace h_g15 := RowL.set_ne h_g15 ((N8 cb) : List Value).toArray K_g15_g18.out
        replace h_g16 := RowL.set_ne h_g16 ((N8 cb) : List Value).toArray K_g16_g18.out
        replace h_g17 := RowL.set_ne h_g17 ((N8 cb) : List Value).toArray K_g17_g18.out
        replace hr18 := RowL.set hr18 ((N8 cb))
        replace nB_Wm17 := Lib.hid (set_below nB_Wm17.out U_g18.out ((N8 cb) : List Value).toArray)
        refine wpAny_done (by kernel_rfl) ?_ _
        have H_g4_Wm17 := Lib.hid h_g4
        have H_g6_Wm17 := Lib.hid h_g6
        have H_g8_Wm17 := Lib.hid h_g8
        have H_g9_Wm17 := Lib.hid h_g9
        have H_g10_Wm17 := Lib.hid h_g10
        have H_g11_Wm17 := Lib.hid h_g11
        have H_g12_Wm17 := Lib.hid h_g12
        have H_g15_Wm17 := Lib.hid h_g15
        have H_g16_Wm17 := Lib.hid h_g16
        have H_g17_Wm17 := Lib.hid h_g17
        have H_g18_Wm17 := Lib.hid hr18
        clear hbr h_g4 h_g6 h_g8 h_g9 h_g10 h_g11 h_g12 h_g15 h_g16 h_g17 hr18 hB18 
        generalize (wn.setRow g18 ((N8 cb) : List Value).toArray) = Wm17 at *
        clear nB_Wm16 H_g4_Wm16 H_g6_Wm16 H_g8_Wm16 H_g9_Wm16 H_g10_Wm16 H_g11_Wm16 H_g12_Wm16 H_g15_Wm16 H_g16_Wm16 H_g17_Wm16
        go_upto_region 18 with fail
        refine wp_region_seq 4 [81, 82, 83, 19] (phi [IsV (.agg (N8 a).toArray), IsV (.agg (N8 a).toArray), IsV (.agg (N8 aa).toArray), IsR Wm17.heap.size ([.int .u32 0, .int .u32 0, .int .u32 0, .int .u32 0, .int .u32 0, .int .u32 0, .int .u32 0, .int .u32 0]) 34]) [3] rfl (by kernel_rfl) rfl rfl (by kernel_rfl) rfl (by kernel_rfl) (by kernel_rfl) (phi_mono (by repeat (first | exact mono_v _ | exact mono_r _ _ _ | exact mono_s _ _ _ | exact trivial | refine ⟨?_, ?_⟩))) ?_ ?_
        · intro i hi
          rcases (show i = 0 ∨ i = 1 ∨ i = 2 ∨ i = 3 by omega) with rfl | rfl | rfl | rfl
          · intro ac W hB hst hdep
            have e15 : ac.tmps[15]? = some (.pointer (some ⟨g15, 0, none⟩)) := hst 15 (by decide)
            exact st_load rfl (wanted_no rfl) 34 (.tmp 15) rfl (eval_of e15) ((N8 a)) _ ((RowL.upS (w := Wm17) H_g15_Wm17.out hB).range 0 _ rfl) undN rfl (by kernel_rfl) rfl (notE rfl)
          · intro ac W hB hst hdep
            have e15 : ac.tmps[15]? = some (.pointer (some ⟨g15, 0, none⟩)) := hst 15 (by decide)
            exact st_load rfl (wanted_no rfl) 34 (.tmp 15) rfl (eval_of e15) ((N8 a)) _ ((RowL.upS (w := Wm17) H_g15_Wm17.out hB).range 0 _ rfl) undN rfl (by kernel_rfl) rfl (notE rfl)
          · intro ac W hB hst hdep
            obtain ⟨x81, e81, h81⟩ := hdep 0 (memE (by kernel_rfl)) 81 rfl
            replace h81 : x81 = .agg (N8 a).toArray := h81
            subst h81
            obtain ⟨x82, e82, h82⟩ := hdep 1 (memE (by kernel_rfl)) 82 rfl
            replace h82 : x82 = .agg (N8 a).toArray := h82
            subst h82
            exact st_call rfl (wanted_no rfl) rfl (show (#[.tmp 81, .tmp 82] : Array Operand).map ac.eval = (#[.agg (N8 a).toArray, .agg (N8 a).toArray] : Array Value) by simp only [List.map_toArray, List.map_cons, List.map_nil, Act.eval_const, eval_of e81, eval_of e82]) (fun _ => by kernel_rfl) (Calls.mono (mulR Za.out Za.out (Qaa.out)) fun e w' h => ⟨_, h.1, h.2, rfl⟩) (notE rfl)
          · intro ac W hB hst hdep
            exact st_alloc rfl (wanted_no rfl) 34 rfl allocN ⟨_, rfl, hB.size, heap_alloc_new _ _⟩
        intro vs hvs wn hbr hv hne
        obtain ⟨v81, v82, v83, v19, rfl⟩ := listr4 vs hvs
        obtain rfl : v81 = .agg (N8 a).toArray := hv 0 _ rfl
        obtain rfl : v82 = .agg (N8 a).toArray := hv 1 _ rfl
        obtain rfl : v83 = .agg (N8 aa).toArray := hv 2 _ rfl
        obtain ⟨g19, hg19, hB19, hr19⟩ : IsR Wm17.heap.size ([.int .u32 0, .int .u32 0, .int .u32 0, .int .u32 0, .int .u32 0, .int .u32 0, .int .u32 0, .int .u32 0]) 34 v19 wn := hv 3 _ rfl
        subst hg19
        clear hvs hv hne
        try simp only [List.zip_cons_cons, List.zip_nil_right, List.zip_nil_left, puts, Act.put, List.setIfInBounds_toArray, List.set_cons_zero, List.set_cons_succ]
        have nB_Wm18 := Lib.hid (nB_Wm17.out.trans (hbr.mono nB_Wm17.out.size))
        have h_g4 := H_g4_Wm17.out.upS hbr
        have h_g6 := H_g6_Wm17.out.upS hbr
        have h_g8 := H_g8_Wm17.out.upS hbr
        have h_g9 := H_g9_Wm17.out.upS hbr
        have h_g10 := H_g10_Wm17.out.upS hbr
        have h_g11 := H_g11_Wm17.out.upS hbr
        have h_g12 := H_g12_Wm17.out.upS hbr
        have h_g16 := H_g16_Wm17.out.upS hbr
        have h_g17 := H_g17_Wm17.out.upS hbr
        have h_g18 := H_g18_Wm17.out.upS hbr
        have K_g4_g19 : Hid (g4 ≠ g19) := Lib.hid (Nat.ne_of_lt (Nat.lt_of_lt_of_le H_g4_Wm17.out.lt hB19))
        have K_g6_g19 : Hid (g6 ≠ g19) := Lib.hid (Nat.ne_of_lt (Nat.lt_of_lt_of_le H_g6_Wm17.out.lt hB19))
        have K_g8_g19 : Hid (g8 ≠ g19) := Lib.hid (Nat.ne_of_lt (Nat.lt_of_lt_of_le H_g8_Wm17.out.lt hB19))
        have K_g9_g19 : Hid (g9 ≠ g19) := Lib.hid (Nat.ne_of_lt (Nat.lt_of_lt_of_le H_g9_Wm17.out.lt hB19))
        have K_g10_g19 : Hid (g10 ≠ g19) := Lib.hid (Nat.ne_of_lt (Nat.lt_of_lt_of_le H_g10_Wm17.out.lt hB19))
        have K_g11_g19 : Hid (g11 ≠ g19) := Lib.hid (Nat.ne_of_lt (Nat.lt_of_lt_of_le H_g11_Wm17.out.lt hB19))
        have K_g12_g19 : Hid (g12 ≠ g19) := Lib.hid (Nat.ne_of_lt (Nat.lt_of_lt_of_le H_g12_Wm17.out.lt hB19))
        have K_g16_g19 : Hid (g16 ≠ g19) := Lib.hid (Nat.ne_of_lt (Nat.lt_of_lt_of_le H_g16_Wm17.out.lt hB19))
        have K_g17_g19 : Hid (g17 ≠ g19) := Lib.hid (Nat.ne_of_lt (Nat.lt_of_lt_of_le H_g17_Wm17.out.lt hB19))
        have K_g18_g19 : Hid (g18 ≠ g19) := Lib.hid (Nat.ne_of_lt (Nat.lt_of_lt_of_le H_g18_Wm17.out.lt hB19))
        have U_g19 : Hid (w.heap.size ≤ g19) := Lib.hid (Nat.le_trans nB_Wm17.out.size hB19)
        refine tail_store (k := 4) (by kernel_rfl) rfl rfl rfl 34 (.tmp 19) (.tmp 83) rfl g19 ((N8 aa) : List Value).toArray (by kernel_rfl) (by kernel_rfl) _ _ hr19 (by kernel_rfl) rfl (by kernel_rfl) ?_
        replace h_g4 := RowL.set_ne h_g4 ((N8 aa) : List Value).toArray K_g4_g19.out
        replace h_g6 := RowL.set_ne h_g6 ((N8 aa) : List Value).toArray K_g6_g19.out
        replace h_g8 := RowL.set_ne h_g8 ((N8 aa) : List Value).toArray K_g8_g19.out
        replace h_g9 := RowL.set_ne h_g9 ((N8 aa) : List Value).toArray K_g9_g19.out
        replace h_g10 := RowL.set_ne h_g10 ((N8 aa) : List Value).toArray K_g10_g19.out
        replace h_g11 := RowL.set_ne h_g11 ((N8 aa) : List Value).toArray K_g11_g19.out
        replace h_g12 := RowL.set_ne h_g12 ((N8 aa) : List Value).toArray K_g12_g19.out
        replace h_g16 := RowL.set_ne h_g16 ((N8 aa) : List Value).toArray K_g16_g19.out
        replace h_g17 := RowL.set_ne h_g17 ((N8 aa) : List Value).toArray K_g17_g19.out
        replace h_g18 := RowL.set_ne h_g18 ((N8 aa) : List Value).toArray K_g18_g19.out
        replace hr19 := RowL.set hr19 ((N8 aa))
        replace nB_Wm18 := Lib.hid (set_below nB_Wm18.out U_g19.out ((N8 aa) : List Value).toArray)
        refine wpAny_done (by kernel_rfl) ?_ _
        have H_g4_Wm18 := Lib.hid h_g4
        have H_g6_Wm18 := Lib.hid h_g6
        have H_g8_Wm18 := Lib.hid h_g8
        have H_g9_Wm18 := Lib.hid h_g9
        have H_g10_Wm18 := Lib.hid h_g10
        have H_g11_Wm18 := Lib.hid h_g11
        have H_g12_Wm18 := Lib.hid h_g12
        have H_g16_Wm18 := Lib.hid h_g16
        have H_g17_Wm18 := Lib.hid h_g17
        have H_g18_Wm18 := Lib.hid h_g18
        have H_g19_Wm18 := Lib.hid hr19
        clear hbr h_g4 h_g6 h_g8 h_g9 h_g10 h_g11 h_g12 h_g16 h_g17 h_g18 hr19 hB19 
        generalize (wn.setRow g19 ((N8 aa) : List Value).toArray) = Wm18 at *
        clear nB_Wm17 H_g4_Wm17 H_g6_Wm17 H_g8_Wm17 H_g9_Wm17 H_g10_Wm17 H_g11_Wm17 H_g12_Wm17 H_g15_Wm17 H_g16_Wm17 H_g17_Wm17 H_g18_Wm17
        go_upto_region 19 with fail
        refine wp_region_seq 4 [84, 85, 86, 20] (phi [IsV (.agg (N8 b).toArray), IsV (.agg (N8 b).toArray), IsV (.agg (N8 bb).toArray), IsR Wm18.heap.size ([.int .u32 0, .int .u32 0, .int .u32 0, .int .u32 0, .int .u32 0, .int .u32 0, .int .u32 0, .int .u32 0]) 34]) [3] rfl (by kernel_rfl) rfl rfl (by kernel_rfl) rfl (by kernel_rfl) (by kernel_rfl) (phi_mono (by repeat (first | exact mono_v _ | exact mono_r _ _ _ | exact mono_s _ _ _ | exact trivial | refine ⟨?_, ?_⟩))) ?_ ?_
        · intro i hi
          rcases (show i = 0 ∨ i = 1 ∨ i = 2 ∨ i = 3 by omega) with rfl | rfl | rfl | rfl
          · intro ac W hB hst hdep
            have e16 : ac.tmps[16]? = some (.pointer (some ⟨g16, 0, none⟩)) := hst 16 (by decide)
            exact st_load rfl (wanted_no rfl) 34 (.tmp 16) rfl (eval_of e16) ((N8 b)) _ ((RowL.upS (w := Wm18) H_g16_Wm18.out hB).range 0 _ rfl) undN rfl (by kernel_rfl) rfl (notE rfl)
          · intro ac W hB hst hdep
            have e16 : ac.tmps[16]? = some (.pointer (some ⟨g16, 0, none⟩)) := hst 16 (by decide)
            exact st_load rfl (wanted_no rfl) 34 (.tmp 16) rfl (eval_of e16) ((N8 b)) _ ((RowL.upS (w := Wm18) H_g16_Wm18.out hB).range 0 _ rfl) undN rfl (by kernel_rfl) rfl (notE rfl)
          · intro ac W hB hst hdep
            obtain ⟨x84, e84, h84⟩ := hdep 0 (memE (by kernel_rfl)) 84 rfl
            replace h84 : x84 = .agg (N8 b).toArray := h84
            subst h84
            obtain ⟨x85, e85, h85⟩ := hdep 1 (memE (by kernel_rfl)) 85 rfl
            replace h85 : x85 = .agg (N8 b).toArray := h85
            subst h85
            exact st_call rfl (wanted_no rfl) rfl (show (#[.tmp 84, .tmp 85] : Array Operand).map ac.eval = (#[.agg (N8 b).toArray, .agg (N8 b).toArray] : Array Value) by simp only [List.map_toArray, List.map_cons, List.map_nil, Act.eval_const, eval_of e84, eval_of e85]) (fun _ => by kernel_rfl) (Calls.mono (mulR Zb.out Zb.out (Qbb.out)) fun e w' h => ⟨_, h.1, h.2, rfl⟩) (notE rfl)
          · intro ac W hB hst hdep
            exact st_alloc rfl (wanted_no rfl) 34 rfl allocN ⟨_, rfl, hB.size, heap_alloc_new _ _⟩
        intro vs hvs wn hbr hv hne
        obtain ⟨v84, v85, v86, v20, rfl⟩ := listr4 vs hvs
        obtain rfl : v84 = .agg (N8 b).toArray := hv 0 _ rfl
        obtain rfl : v85 = .agg (N8 b).toArray := hv 1 _ rfl
        obtain rfl : v86 = .agg (N8 bb).toArray := hv 2 _ rfl
        obtain ⟨g20, hg20, hB20, hr20⟩ : IsR Wm18.heap.size ([.int .u32 0, .int .u32 0, .int .u32 0, .int .u32 0, .int .u32 0, .int .u32 0, .int .u32 0, .int .u32 0]) 34 v20 wn := hv 3 _ rfl
        subst hg20
        clear hvs hv hne
        try simp only [List.zip_cons_cons, List.zip_nil_right, List.zip_nil_left, puts, Act.put, List.setIfInBounds_toArray, List.set_cons_zero, List.set_cons_succ]
        have nB_Wm19 := Lib.hid (nB_Wm18.out.trans (hbr.mono nB_Wm18.out.size))
        have h_g4 := H_g4_Wm18.out.upS hbr
        have h_g6 := H_g6_Wm18.out.upS hbr
        have h_g8 := H_g8_Wm18.out.upS hbr
        have h_g9 := H_g9_Wm18.out.upS hbr
        have h_g10 := H_g10_Wm18.out.upS hbr
        have h_g11 := H_g11_Wm18.out.upS hbr
        have h_g12 := H_g12_Wm18.out.upS hbr
        have h_g17 := H_g17_Wm18.out.upS hbr
        have h_g18 := H_g18_Wm18.out.upS hbr
        have h_g19 := H_g19_Wm18.out.upS hbr
        have K_g4_g20 : Hid (g4 ≠ g20) := Lib.hid (Nat.ne_of_lt (Nat.lt_of_lt_of_le H_g4_Wm18.out.lt hB20))
        have K_g6_g20 : Hid (g6 ≠ g20) := Lib.hid (Nat.ne_of_lt (Nat.lt_of_lt_of_le H_g6_Wm18.out.lt hB20))
        have K_g8_g20 : Hid (g8 ≠ g20) := Lib.hid (Nat.ne_of_lt (Nat.lt_of_lt_of_le H_g8_Wm18.out.lt hB20))
        have K_g9_g20 : Hid (g9 ≠ g20) := Lib.hid (Nat.ne_of_lt (Nat.lt_of_lt_of_le H_g9_Wm18.out.lt hB20))
        have K_g10_g20 : Hid (g10 ≠ g20) := Lib.hid (Nat.ne_of_lt (Nat.lt_of_lt_of_le H_g10_Wm18.out.lt hB20))
        have K_g11_g20 : Hid (g11 ≠ g20) := Lib.hid (Nat.ne_of_lt (Nat.lt_of_lt_of_le H_g11_Wm18.out.lt hB20))
        have K_g12_g20 : Hid (g12 ≠ g20) := Lib.hid (Nat.ne_of_lt (Nat.lt_of_lt_of_le H_g12_Wm18.out.lt hB20))
        have K_g17_g20 : Hid (g17 ≠ g20) := Lib.hid (Nat.ne_of_lt (Nat.lt_of_lt_of_le H_g17_Wm18.out.lt hB20))
        have K_g18_g20 : Hid (g18 ≠ g20) := Lib.hid (Nat.ne_of_lt (Nat.lt_of_lt_of_le H_g18_Wm18.out.lt hB20))
        have K_g19_g20 : Hid (g19 ≠ g20) := Lib.hid (Nat.ne_of_lt (Nat.lt_of_lt_of_le H_g19_Wm18.out.lt hB20))
        have U_g20 : Hid (w.heap.size ≤ g20) := Lib.hid (Nat.le_trans nB_Wm18.out.size hB20)
        refine tail_store (k := 4) (by kernel_rfl) rfl rfl rfl 34 (.tmp 20) (.tmp 86) rfl g20 ((N8 bb) : List Value).toArray (by kernel_rfl) (by kernel_rfl) _ _ hr20 (by kernel_rfl) rfl (by kernel_rfl) ?_
        replace h_g4 := RowL.set_ne h_g4 ((N8 bb) : List Value).toArray K_g4_g20.out
        replace h_g6 := RowL.set_ne h_g6 ((N8 bb) : List Value).toArray K_g6_g20.out
        replace h_g8 := RowL.set_ne h_g8 ((N8 bb) : List Value).toArray K_g8_g20.out
        replace h_g9 := RowL.set_ne h_g9 ((N8 bb) : List Value).toArray K_g9_g20.out
        replace h_g10 := RowL.set_ne h_g10 ((N8 bb) : List Value).toArray K_g10_g20.out
        replace h_g11 := RowL.set_ne h_g11 ((N8 bb) : List Value).toArray K_g11_g20.out
        replace h_g12 := RowL.set_ne h_g12 ((N8 bb) : List Value).toArray K_g12_g20.out
        replace h_g17 := RowL.set_ne h_g17 ((N8 bb) : List Value).toArray K_g17_g20.out
        replace h_g18 := RowL.set_ne h_g18 ((N8 bb) : List Value).toArray K_g18_g20.out
        replace h_g19 := RowL.set_ne h_g19 ((N8 bb) : List Value).toArray K_g19_g20.out
        replace hr20 := RowL.set hr20 ((N8 bb))
        replace nB_Wm19 := Lib.hid (set_below nB_Wm19.out U_g20.out ((N8 bb) : List Value).toArray)
        refine wpAny_done (by kernel_rfl) ?_ _
        have H_g4_Wm19 := Lib.hid h_g4
        have H_g6_Wm19 := Lib.hid h_g6
        have H_g8_Wm19 := Lib.hid h_g8
        have H_g9_Wm19 := Lib.hid h_g9
        have H_g10_Wm19 := Lib.hid h_g10
        have H_g11_Wm19 := Lib.hid h_g11
        have H_g12_Wm19 := Lib.hid h_g12
        have H_g17_Wm19 := Lib.hid h_g17
        have H_g18_Wm19 := Lib.hid h_g18
        have H_g19_Wm19 := Lib.hid h_g19
        have H_g20_Wm19 := Lib.hid hr20
        clear hbr h_g4 h_g6 h_g8 h_g9 h_g10 h_g11 h_g12 h_g17 h_g18 h_g19 hr20 hB20 
        generalize (wn.setRow g20 ((N8 bb) : List Value).toArray) = Wm19 at *
        clear nB_Wm18 H_g4_Wm18 H_g6_Wm18 H_g8_Wm18 H_g9_Wm18 H_g10_Wm18 H_g11_Wm18 H_g12_Wm18 H_g16_Wm18 H_g17_Wm18 H_g18_Wm18 H_g19_Wm18
        go_upto_region 20 with fail
        refine wp_region_seq 4 [87, 88, 89, 21] (phi [IsV (.agg (N8 aa).toArray), IsV (.agg (N8 bb).toArray), IsV (.agg (N8 ee).toArray), IsR Wm19.heap.size ([.int .u32 0, .int .u32 0, .int .u32 0, .int .u32 0, .int .u32 0, .int .u32 0, .int .u32 0, .int .u32 0]) 34]) [3] rfl (by kernel_rfl) rfl rfl (by kernel_rfl) rfl (by kernel_rfl) (by kernel_rfl) (phi_mono (by repeat (first | exact mono_v _ | exact mono_r _ _ _ | exact mono_s _ _ _ | exact trivial | refine ⟨?_, ?_⟩))) ?_ ?_
        · intro i hi
          rcases (show i = 0 ∨ i = 1 ∨ i = 2 ∨ i = 3 by omega) with rfl | rfl | rfl | rfl
          · intro ac W hB hst hdep
            have e19 : ac.tmps[19]? = some (.pointer (some ⟨g19, 0, none⟩)) := hst 19 (by decide)
            exact st_load rfl (wanted_no rfl) 34 (.tmp 19) rfl (eval_of e19) ((N8 aa)) _ ((RowL.upS (w := Wm19) H_g19_Wm19.out hB).range 0 _ rfl) undN rfl (by kernel_rfl) rfl (notE rfl)
          · intro ac W hB hst hdep
            have e20 : ac.tmps[20]? = some (.pointer (some ⟨g20, 0, none⟩)) := hst 20 (by decide)
            exact st_load rfl (wanted_no rfl) 34 (.tmp 20) rfl (eval_of e20) ((N8 bb)) _ ((RowL.upS (w := Wm19) H_g20_Wm19.out hB).range 0 _ rfl) undN rfl (by kernel_rfl) rfl (notE rfl)
          · intro ac W hB hst hdep
            obtain ⟨x87, e87, h87⟩ := hdep 0 (memE (by kernel_rfl)) 87 rfl
            replace h87 : x87 = .agg (N8 aa).toArray := h87
            subst h87
            obtain ⟨x88, e88, h88⟩ := hdep 1 (memE (by kernel_rfl)) 88 rfl
            replace h88 : x88 = .agg (N8 bb).toArray := h88
            subst h88
            exact st_call rfl (wanted_no rfl) rfl (show (#[.tmp 87, .tmp 88] : Array Operand).map ac.eval = (#[.agg (N8 aa).toArray, .agg (N8 bb).toArray] : Array Value) by simp only [List.map_toArray, List.map_cons, List.map_nil, Act.eval_const, eval_of e87, eval_of e88]) (fun _ => by kernel_rfl) (Calls.mono (subR Zaa.out Zbb.out (Qee.out)) fun e w' h => ⟨_, h.1, h.2, rfl⟩) (notE rfl)
          · intro ac W hB hst hdep
            exact st_alloc rfl (wanted_no rfl) 34 rfl allocN ⟨_, rfl, hB.size, heap_alloc_new _ _⟩
        intro vs hvs wn hbr hv hne
        obtain ⟨v87, v88, v89, v21, rfl⟩ := listr4 vs hvs
        obtain rfl : v87 = .agg (N8 aa).toArray := hv 0 _ rfl
        obtain rfl : v88 = .agg (N8 bb).toArray := hv 1 _ rfl
        obtain rfl : v89 = .agg (N8 ee).toArray := hv 2 _ rfl
        obtain ⟨g21, hg21, hB21, hr21⟩ : IsR Wm19.heap.size ([.int .u32 0, .int .u32 0, .int .u32 0, .int .u32 0, .int .u32 0, .int .u32 0, .int .u32 0, .int .u32 0]) 34 v21 wn := hv 3 _ rfl
        subst hg21
        clear hvs hv hne
        try simp only [List.zip_cons_cons, List.zip_nil_right, List.zip_nil_left, puts, Act.put, List.setIfInBounds_toArray, List.set_cons_zero, List.set_cons_succ]
        have nB_Wm20 := Lib.hid (nB_Wm19.out.trans (hbr.mono nB_Wm19.out.size))
        have h_g4 := H_g4_Wm19.out.upS hbr
        have h_g6 := H_g6_Wm19.out.upS hbr
        have h_g8 := H_g8_Wm19.out.upS hbr
        have h_g9 := H_g9_Wm19.out.upS hbr
        have h_g10 := H_g10_Wm19.out.upS hbr
        have h_g11 := H_g11_Wm19.out.upS hbr
        have h_g12 := H_g12_Wm19.out.upS hbr
        have h_g17 := H_g17_Wm19.out.upS hbr
        have h_g18 := H_g18_Wm19.out.upS hbr
        have h_g19 := H_g19_Wm19.out.upS hbr
        have h_g20 := H_g20_Wm19.out.upS hbr
        have K_g4_g21 : Hid (g4 ≠ g21) := Lib.hid (Nat.ne_of_lt (Nat.lt_of_lt_of_le H_g4_Wm19.out.lt hB21))
        have K_g6_g21 : Hid (g6 ≠ g21) := Lib.hid (Nat.ne_of_lt (Nat.lt_of_lt_of_le H_g6_Wm19.out.lt hB21))
        have K_g8_g21 : Hid (g8 ≠ g21) := Lib.hid (Nat.ne_of_lt (Nat.lt_of_lt_of_le H_g8_Wm19.out.lt hB21))
        have K_g9_g21 : Hid (g9 ≠ g21) := Lib.hid (Nat.ne_of_lt (Nat.lt_of_lt_of_le H_g9_Wm19.out.lt hB21))
        have K_g10_g21 : Hid (g10 ≠ g21) := Lib.hid (Nat.ne_of_lt (Nat.lt_of_lt_of_le H_g10_Wm19.out.lt hB21))
        have K_g11_g21 : Hid (g11 ≠ g21) := Lib.hid (Nat.ne_of_lt (Nat.lt_of_lt_of_le H_g11_Wm19.out.lt hB21))
        have K_g12_g21 : Hid (g12 ≠ g21) := Lib.hid (Nat.ne_of_lt (Nat.lt_of_lt_of_le H_g12_Wm19.out.lt hB21))
        have K_g17_g21 : Hid (g17 ≠ g21) := Lib.hid (Nat.ne_of_lt (Nat.lt_of_lt_of_le H_g17_Wm19.out.lt hB21))
        have K_g18_g21 : Hid (g18 ≠ g21) := Lib.hid (Nat.ne_of_lt (Nat.lt_of_lt_of_le H_g18_Wm19.out.lt hB21))
        have K_g19_g21 : Hid (g19 ≠ g21) := Lib.hid (Nat.ne_of_lt (Nat.lt_of_lt_of_le H_g19_Wm19.out.lt hB21))
        have K_g20_g21 : Hid (g20 ≠ g21) := Lib.hid (Nat.ne_of_lt (Nat.lt_of_lt_of_le H_g20_Wm19.out.lt hB21))
        have U_g21 : Hid (w.heap.size ≤ g21) := Lib.hid (Nat.le_trans nB_Wm19.out.size hB21)
        refine tail_store (k := 4) (by kernel_rfl) rfl rfl rfl 34 (.tmp 21) (.tmp 89) rfl g21 ((N8 ee) : List Value).toArray (by kernel_rfl) (by kernel_rfl) _ _ hr21 (by kernel_rfl) rfl (by kernel_rfl) ?_
        replace h_g4 := RowL.set_ne h_g4 ((N8 ee) : List Value).toArray K_g4_g21.out
        replace h_g6 := RowL.set_ne h_g6 ((N8 ee) : List Value).toArray K_g6_g21.out
        replace h_g8 := RowL.set_ne h_g8 ((N8 ee) : List Value).toArray K_g8_g21.out
        replace h_g9 := RowL.set_ne h_g9 ((N8 ee) : List Value).toArray K_g9_g21.out
        replace h_g10 := RowL.set_ne h_g10 ((N8 ee) : List Value).toArray K_g10_g21.out
        replace h_g11 := RowL.set_ne h_g11 ((N8 ee) : List Value).toArray K_g11_g21.out
        replace h_g12 := RowL.set_ne h_g12 ((N8 ee) : List Value).toArray K_g12_g21.out
        replace h_g17 := RowL.set_ne h_g17 ((N8 ee) : List Value).toArray K_g17_g21.out
        replace h_g18 := RowL.set_ne h_g18 ((N8 ee) : List Value).toArray K_g18_g21.out
        replace h_g19 := RowL.set_ne h_g19 ((N8 ee) : List Value).toArray K_g19_g21.out
        replace h_g20 := RowL.set_ne h_g20 ((N8 ee) : List Value).toArray K_g20_g21.out
        replace hr21 := RowL.set hr21 ((N8 ee))
        replace nB_Wm20 := Lib.hid (set_below nB_Wm20.out U_g21.out ((N8 ee) : List Value).toArray)
        refine wpAny_done (by kernel_rfl) ?_ _
        have H_g4_Wm20 := Lib.hid h_g4
        have H_g6_Wm20 := Lib.hid h_g6
        have H_g8_Wm20 := Lib.hid h_g8
        have H_g9_Wm20 := Lib.hid h_g9
        have H_g10_Wm20 := Lib.hid h_g10
        have H_g11_Wm20 := Lib.hid h_g11
        have H_g12_Wm20 := Lib.hid h_g12
        have H_g17_Wm20 := Lib.hid h_g17
        have H_g18_Wm20 := Lib.hid h_g18
        have H_g19_Wm20 := Lib.hid h_g19
        have H_g20_Wm20 := Lib.hid h_g20
        have H_g21_Wm20 := Lib.hid hr21
        clear hbr h_g4 h_g6 h_g8 h_g9 h_g10 h_g11 h_g12 h_g17 h_g18 h_g19 h_g20 hr21 hB21 
        generalize (wn.setRow g21 ((N8 ee) : List Value).toArray) = Wm20 at *
        clear nB_Wm19 H_g4_Wm19 H_g6_Wm19 H_g8_Wm19 H_g9_Wm19 H_g10_Wm19 H_g11_Wm19 H_g12_Wm19 H_g17_Wm19 H_g18_Wm19 H_g19_Wm19 H_g20_Wm19
        go_upto_region 21 with fail
        refine wp_region_seq 4 [90, 91, 92, 22] (phi [IsV (.agg (N8 da).toArray), IsV (.agg (N8 cb).toArray), IsV (.agg (N8 s).toArray), IsR Wm20.heap.size ([.int .u32 0, .int .u32 0, .int .u32 0, .int .u32 0, .int .u32 0, .int .u32 0, .int .u32 0, .int .u32 0]) 34]) [3] rfl (by kernel_rfl) rfl rfl (by kernel_rfl) rfl (by kernel_rfl) (by kernel_rfl) (phi_mono (by repeat (first | exact mono_v _ | exact mono_r _ _ _ | exact mono_s _ _ _ | exact trivial | refine ⟨?_, ?_⟩))) ?_ ?_
        · intro i hi
          rcases (show i = 0 ∨ i = 1 ∨ i = 2 ∨ i = 3 by omega) with rfl | rfl | rfl | rfl
          · intro ac W hB hst hdep
            have e17 : ac.tmps[17]? = some (.pointer (some ⟨g17, 0, none⟩)) := hst 17 (by decide)
            exact st_load rfl (wanted_no rfl) 34 (.tmp 17) rfl (eval_of e17) ((N8 da)) _ ((RowL.upS (w := Wm20) H_g17_Wm20.out hB).range 0 _ rfl) undN rfl (by kernel_rfl) rfl (notE rfl)
          · intro ac W hB hst hdep
            have e18 : ac.tmps[18]? = some (.pointer (some ⟨g18, 0, none⟩)) := hst 18 (by decide)
            exact st_load rfl (wanted_no rfl) 34 (.tmp 18) rfl (eval_of e18) ((N8 cb)) _ ((RowL.upS (w := Wm20) H_g18_Wm20.out hB).range 0 _ rfl) undN rfl (by kernel_rfl) rfl (notE rfl)
          · intro ac W hB hst hdep
            obtain ⟨x90, e90, h90⟩ := hdep 0 (memE (by kernel_rfl)) 90 rfl
            replace h90 : x90 = .agg (N8 da).toArray := h90
            subst h90
            obtain ⟨x91, e91, h91⟩ := hdep 1 (memE (by kernel_rfl)) 91 rfl
            replace h91 : x91 = .agg (N8 cb).toArray := h91
            subst h91
            exact st_call rfl (wanted_no rfl) rfl (show (#[.tmp 90, .tmp 91] : Array Operand).map ac.eval = (#[.agg (N8 da).toArray, .agg (N8 cb).toArray] : Array Value) by simp only [List.map_toArray, List.map_cons, List.map_nil, Act.eval_const, eval_of e90, eval_of e91]) (fun _ => by kernel_rfl) (Calls.mono (addR Zda.out Zcb.out (Qs.out.trans (sumP2 _ _))) fun e w' h => ⟨_, h.1, h.2, rfl⟩) (notE rfl)
          · intro ac W hB hst hdep
            exact st_alloc rfl (wanted_no rfl) 34 rfl allocN ⟨_, rfl, hB.size, heap_alloc_new _ _⟩
        intro vs hvs wn hbr hv hne
        obtain ⟨v90, v91, v92, v22, rfl⟩ := listr4 vs hvs
        obtain rfl : v90 = .agg (N8 da).toArray := hv 0 _ rfl
        obtain rfl : v91 = .agg (N8 cb).toArray := hv 1 _ rfl
        obtain rfl : v92 = .agg (N8 s).toArray := hv 2 _ rfl
        obtain ⟨g22, hg22, hB22, hr22⟩ : IsR Wm20.heap.size ([.int .u32 0, .int .u32 0, .int .u32 0, .int .u32 0, .int .u32 0, .int .u32 0, .int .u32 0, .int .u32 0]) 34 v22 wn := hv 3 _ rfl
        subst hg22
        clear hvs hv hne
        try simp only [List.zip_cons_cons, List.zip_nil_right, List.zip_nil_left, puts, Act.put, List.setIfInBounds_toArray, List.set_cons_zero, List.set_cons_succ]
        have nB_Wm21 := Lib.hid (nB_Wm20.out.trans (hbr.mono nB_Wm20.out.size))
        have h_g4 := H_g4_Wm20.out.upS hbr
        have h_g6 := H_g6_Wm20.out.upS hbr
        have h_g8 := H_g8_Wm20.out.upS hbr
        have h_g9 := H_g9_Wm20.out.upS hbr
        have h_g10 := H_g10_Wm20.out.upS hbr
        have h_g11 := H_g11_Wm20.out.upS hbr
        have h_g12 := H_g12_Wm20.out.upS hbr
        have h_g17 := H_g17_Wm20.out.upS hbr
        have h_g18 := H_g18_Wm20.out.upS hbr
        have h_g19 := H_g19_Wm20.out.upS hbr
        have h_g20 := H_g20_Wm20.out.upS hbr
        have h_g21 := H_g21_Wm20.out.upS hbr
        have K_g4_g22 : Hid (g4 ≠ g22) := Lib.hid (Nat.ne_of_lt (Nat.lt_of_lt_of_le H_g4_Wm20.out.lt hB22))
        have K_g6_g22 : Hid (g6 ≠ g22) := Lib.hid (Nat.ne_of_lt (Nat.lt_of_lt_of_le H_g6_Wm20.out.lt hB22))
        have K_g8_g22 : Hid (g8 ≠ g22) := Lib.hid (Nat.ne_of_lt (Nat.lt_of_lt_of_le H_g8_Wm20.out.lt hB22))
        have K_g9_g22 : Hid (g9 ≠ g22) := Lib.hid (Nat.ne_of_lt (Nat.lt_of_lt_of_le H_g9_Wm20.out.lt hB22))
        have K_g10_g22 : Hid (g10 ≠ g22) := Lib.hid (Nat.ne_of_lt (Nat.lt_of_lt_of_le H_g10_Wm20.out.lt hB22))
        have K_g11_g22 : Hid (g11 ≠ g22) := Lib.hid (Nat.ne_of_lt (Nat.lt_of_lt_of_le H_g11_Wm20.out.lt hB22))
        have K_g12_g22 : Hid (g12 ≠ g22) := Lib.hid (Nat.ne_of_lt (Nat.lt_of_lt_of_le H_g12_Wm20.out.lt hB22))
        have K_g17_g22 : Hid (g17 ≠ g22) := Lib.hid (Nat.ne_of_lt (Nat.lt_of_lt_of_le H_g17_Wm20.out.lt hB22))
        have K_g18_g22 : Hid (g18 ≠ g22) := Lib.hid (Nat.ne_of_lt (Nat.lt_of_lt_of_le H_g18_Wm20.out.lt hB22))
        have K_g19_g22 : Hid (g19 ≠ g22) := Lib.hid (Nat.ne_of_lt (Nat.lt_of_lt_of_le H_g19_Wm20.out.lt hB22))
        have K_g20_g22 : Hid (g20 ≠ g22) := Lib.hid (Nat.ne_of_lt (Nat.lt_of_lt_of_le H_g20_Wm20.out.lt hB22))
        have K_g21_g22 : Hid (g21 ≠ g22) := Lib.hid (Nat.ne_of_lt (Nat.lt_of_lt_of_le H_g21_Wm20.out.lt hB22))
        have U_g22 : Hid (w.heap.size ≤ g22) := Lib.hid (Nat.le_trans nB_Wm20.out.size hB22)
        refine tail_store (k := 4) (by kernel_rfl) rfl rfl rfl 34 (.tmp 22) (.tmp 92) rfl g22 ((N8 s) : List Value).toArray (by kernel_rfl) (by kernel_rfl) _ _ hr22 (by kernel_rfl) rfl (by kernel_rfl) ?_
        replace h_g4 := RowL.set_ne h_g4 ((N8 s) : List Value).toArray K_g4_g22.out
        replace h_g6 := RowL.set_ne h_g6 ((N8 s) : List Value).toArray K_g6_g22.out
        replace h_g8 := RowL.set_ne h_g8 ((N8 s) : List Value).toArray K_g8_g22.out
        replace h_g9 := RowL.set_ne h_g9 ((N8 s) : List Value).toArray K_g9_g22.out
        replace h_g10 := RowL.set_ne h_g10 ((N8 s) : List Value).toArray K_g10_g22.out
        replace h_g11 := RowL.set_ne h_g11 ((N8 s) : List Value).toArray K_g11_g22.out
        replace h_g12 := RowL.set_ne h_g12 ((N8 s) : List Value).toArray K_g12_g22.out
        replace h_g17 := RowL.set_ne h_g17 ((N8 s) : List Value).toArray K_g17_g22.out
        replace h_g18 := RowL.set_ne h_g18 ((N8 s) : List Value).toArray K_g18_g22.out
        replace h_g19 := RowL.set_ne h_g19 ((N8 s) : List Value).toArray K_g19_g22.out
        replace h_g20 := RowL.set_ne h_g20 ((N8 s) : List Value).toArray K_g20_g22.out
        replace h_g21 := RowL.set_ne h_g21 ((N8 s) : List Value).toArray K_g21_g22.out
        replace hr22 := RowL.set hr22 ((N8 s))
        replace nB_Wm21 := Lib.hid (set_below nB_Wm21.out U_g22.out ((N8 s) : List Value).toArray)
        refine wpAny_done (by kernel_rfl) ?_ _
        have H_g4_Wm21 := Lib.hid h_g4
        have H_g6_Wm21 := Lib.hid h_g6
        have H_g8_Wm21 := Lib.hid h_g8
        have H_g9_Wm21 := Lib.hid h_g9
        have H_g10_Wm21 := Lib.hid h_g10
        have H_g11_Wm21 := Lib.hid h_g11
        have H_g12_Wm21 := Lib.hid h_g12
        have H_g17_Wm21 := Lib.hid h_g17
        have H_g18_Wm21 := Lib.hid h_g18
        have H_g19_Wm21 := Lib.hid h_g19
        have H_g20_Wm21 := Lib.hid h_g20
        have H_g21_Wm21 := Lib.hid h_g21
        have H_g22_Wm21 := Lib.hid hr22
        clear hbr h_g4 h_g6 h_g8 h_g9 h_g10 h_g11 h_g12 h_g17 h_g18 h_g19 h_g20 h_g21 hr22 hB22 
        generalize (wn.setRow g22 ((N8 s) : List Value).toArray) = Wm21 at *
        clear nB_Wm20 H_g4_Wm20 H_g6_Wm20 H_g8_Wm20 H_g9_Wm20 H_g10_Wm20 H_g11_Wm20 H_g12_Wm20 H_g17_Wm20 H_g18_Wm20 H_g19_Wm20 H_g20_Wm20 H_g21_Wm20
        go_upto_region 22 with fail
        refine wp_region_seq 4 [93, 94, 95, 23] (phi [IsV (.agg (N8 da).toArray), IsV (.agg (N8 cb).toArray), IsV (.agg (N8 t).toArray), IsR Wm21.heap.size ([.int .u32 0, .int .u32 0, .int .u32 0, .int .u32 0, .int .u32 0, .int .u32 0, .int .u32 0, .int .u32 0]) 34]) [3] rfl (by kernel_rfl) rfl rfl (by kernel_rfl) rfl (by kernel_rfl) (by kernel_rfl) (phi_mono (by repeat (first | exact mono_v _ | exact mono_r _ _ _ | exact mono_s _ _ _ | exact trivial | refine ⟨?_, ?_⟩))) ?_ ?_
        · intro i hi
          rcases (show i = 0 ∨ i = 1 ∨ i = 2 ∨ i = 3 by omega) with rfl | rfl | rfl | rfl
          · intro ac W hB hst hdep
            have e17 : ac.tmps[17]? = some (.pointer (some ⟨g17, 0, none⟩)) := hst 17 (by decide)
            exact st_load rfl (wanted_no rfl) 34 (.tmp 17) rfl (eval_of e17) ((N8 da)) _ ((RowL.upS (w := Wm21) H_g17_Wm21.out hB).range 0 _ rfl) undN rfl (by kernel_rfl) rfl (notE rfl)
          · intro ac W hB hst hdep
            have e18 : ac.tmps[18]? = some (.pointer (some ⟨g18, 0, none⟩)) := hst 18 (by decide)
            exact st_load rfl (wanted_no rfl) 34 (.tmp 18) rfl (eval_of e18) ((N8 cb)) _ ((RowL.upS (w := Wm21) H_g18_Wm21.out hB).range 0 _ rfl) undN rfl (by kernel_rfl) rfl (notE rfl)
          · intro ac W hB hst hdep
            obtain ⟨x93, e93, h93⟩ := hdep 0 (memE (by kernel_rfl)) 93 rfl
            replace h93 : x93 = .agg (N8 da).toArray := h93
            subst h93
            obtain ⟨x94, e94, h94⟩ := hdep 1 (memE (by kernel_rfl)) 94 rfl
            replace h94 : x94 = .agg (N8 cb).toArray := h94
            subst h94
            exact st_call rfl (wanted_no rfl) rfl (show (#[.tmp 93, .tmp 94] : Array Operand).map ac.eval = (#[.agg (N8 da).toArray, .agg (N8 cb).toArray] : Array Value) by simp only [List.map_toArray, List.map_cons, List.map_nil, Act.eval_const, eval_of e93, eval_of e94]) (fun _ => by kernel_rfl) (Calls.mono (subR Zda.out Zcb.out (Qt.out)) fun e w' h => ⟨_, h.1, h.2, rfl⟩) (notE rfl)
          · intro ac W hB hst hdep
            exact st_alloc rfl (wanted_no rfl) 34 rfl allocN ⟨_, rfl, hB.size, heap_alloc_new _ _⟩
        intro vs hvs wn hbr hv hne
        obtain ⟨v93, v94, v95, v23, rfl⟩ := listr4 vs hvs
        obtain rfl : v93 = .agg (N8 da).toArray := hv 0 _ rfl
        obtain rfl : v94 = .agg (N8 cb).toArray := hv 1 _ rfl
        obtain rfl : v95 = .agg (N8 t).toArray := hv 2 _ rfl
        obtain ⟨g23, hg23, hB23, hr23⟩ : IsR Wm21.heap.size ([.int .u32 0, .int .u32 0, .int .u32 0, .int .u32 0, .int .u32 0, .int .u32 0, .int .u32 0, .int .u32 0]) 34 v23 wn := hv 3 _ rfl
        subst hg23
        clear hvs hv hne
        try simp only [List.zip_cons_cons, List.zip_nil_right, List.zip_nil_left, puts, Act.put, List.setIfInBounds_toArray, List.set_cons_zero, List.set_cons_succ]
        have nB_Wm22 := Lib.hid (nB_Wm21.out.trans (hbr.mono nB_Wm21.out.size))
        have h_g4 := H_g4_Wm21.out.upS hbr
        have h_g6 := H_g6_Wm21.out.upS hbr
        have h_g8 := H_g8_Wm21.out.upS hbr
        have h_g9 := H_g9_Wm21.out.upS hbr
        have h_g10 := H_g10_Wm21.out.upS hbr
        have h_g11 := H_g11_Wm21.out.upS hbr
        have h_g12 := H_g12_Wm21.out.upS hbr
        have h_g19 := H_g19_Wm21.out.upS hbr
        have h_g20 := H_g20_Wm21.out.upS hbr
        have h_g21 := H_g21_Wm21.out.upS hbr
        have h_g22 := H_g22_Wm21.out.upS hbr
        have K_g4_g23 : Hid (g4 ≠ g23) := Lib.hid (Nat.ne_of_lt (Nat.lt_of_lt_of_le H_g4_Wm21.out.lt hB23))
        have K_g6_g23 : Hid (g6 ≠ g23) := Lib.hid (Nat.ne_of_lt (Nat.lt_of_lt_of_le H_g6_Wm21.out.lt hB23))
        have K_g8_g23 : Hid (g8 ≠ g23) := Lib.hid (Nat.ne_of_lt (Nat.lt_of_lt_of_le H_g8_Wm21.out.lt hB23))
        have K_g9_g23 : Hid (g9 ≠ g23) := Lib.hid (Nat.ne_of_lt (Nat.lt_of_lt_of_le H_g9_Wm21.out.lt hB23))
        have K_g10_g23 : Hid (g10 ≠ g23) := Lib.hid (Nat.ne_of_lt (Nat.lt_of_lt_of_le H_g10_Wm21.out.lt hB23))
        have K_g11_g23 : Hid (g11 ≠ g23) := Lib.hid (Nat.ne_of_lt (Nat.lt_of_lt_of_le H_g11_Wm21.out.lt hB23))
        have K_g12_g23 : Hid (g12 ≠ g23) := Lib.hid (Nat.ne_of_lt (Nat.lt_of_lt_of_le H_g12_Wm21.out.lt hB23))
        have K_g19_g23 : Hid (g19 ≠ g23) := Lib.hid (Nat.ne_of_lt (Nat.lt_of_lt_of_le H_g19_Wm21.out.lt hB23))
        have K_g20_g23 : Hid (g20 ≠ g23) := Lib.hid (Nat.ne_of_lt (Nat.lt_of_lt_of_le H_g20_Wm21.out.lt hB23))
        have K_g21_g23 : Hid (g21 ≠ g23) := Lib.hid (Nat.ne_of_lt (Nat.lt_of_lt_of_le H_g21_Wm21.out.lt hB23))
        have K_g22_g23 : Hid (g22 ≠ g23) := Lib.hid (Nat.ne_of_lt (Nat.lt_of_lt_of_le H_g22_Wm21.out.lt hB23))
        have U_g23 : Hid (w.heap.size ≤ g23) := Lib.hid (Nat.le_trans nB_Wm21.out.size hB23)
        refine tail_store (k := 4) (by kernel_rfl) rfl rfl rfl 34 (.tmp 23) (.tmp 95) rfl g23 ((N8 t) : List Value).toArray (by kernel_rfl) (by kernel_rfl) _ _ hr23 (by kernel_rfl) rfl (by kernel_rfl) ?_
        replace h_g4 := RowL.set_ne h_g4 ((N8 t) : List Value).toArray K_g4_g23.out
        replace h_g6 := RowL.set_ne h_g6 ((N8 t) : List Value).toArray K_g6_g23.out
        replace h_g8 := RowL.set_ne h_g8 ((N8 t) : List Value).toArray K_g8_g23.out
        replace h_g9 := RowL.set_ne h_g9 ((N8 t) : List Value).toArray K_g9_g23.out
        replace h_g10 := RowL.set_ne h_g10 ((N8 t) : List Value).toArray K_g10_g23.out
        replace h_g11 := RowL.set_ne h_g11 ((N8 t) : List Value).toArray K_g11_g23.out
        replace h_g12 := RowL.set_ne h_g12 ((N8 t) : List Value).toArray K_g12_g23.out
        replace h_g19 := RowL.set_ne h_g19 ((N8 t) : List Value).toArray K_g19_g23.out
        replace h_g20 := RowL.set_ne h_g20 ((N8 t) : List Value).toArray K_g20_g23.out
        replace h_g21 := RowL.set_ne h_g21 ((N8 t) : List Value).toArray K_g21_g23.out
        replace h_g22 := RowL.set_ne h_g22 ((N8 t) : List Value).toArray K_g22_g23.out
        replace hr23 := RowL.set hr23 ((N8 t))
        replace nB_Wm22 := Lib.hid (set_below nB_Wm22.out U_g23.out ((N8 t) : List Value).toArray)
        refine wpAny_done (by kernel_rfl) ?_ _
        have H_g4_Wm22 := Lib.hid h_g4
        have H_g6_Wm22 := Lib.hid h_g6
        have H_g8_Wm22 := Lib.hid h_g8
        have H_g9_Wm22 := Lib.hid h_g9
        have H_g10_Wm22 := Lib.hid h_g10
        have H_g11_Wm22 := Lib.hid h_g11
        have H_g12_Wm22 := Lib.hid h_g12
        have H_g19_Wm22 := Lib.hid h_g19
        have H_g20_Wm22 := Lib.hid h_g20
        have H_g21_Wm22 := Lib.hid h_g21
        have H_g22_Wm22 := Lib.hid h_g22
        have H_g23_Wm22 := Lib.hid hr23
        clear hbr h_g4 h_g6 h_g8 h_g9 h_g10 h_g11 h_g12 h_g19 h_g20 h_g21 h_g22 hr23 hB23 
        generalize (wn.setRow g23 ((N8 t) : List Value).toArray) = Wm22 at *
        clear nB_Wm21 H_g4_Wm21 H_g6_Wm21 H_g8_Wm21 H_g9_Wm21 H_g10_Wm21 H_g11_Wm21 H_g12_Wm21 H_g17_Wm21 H_g18_Wm21 H_g19_Wm21 H_g20_Wm21 H_g21_Wm21 H_g22_Wm21
        go_upto_region 23 with fail
        refine wp_region_seq 3 [96, 97, 98] (phi [IsV (.agg (N8 s).toArray), IsV (.agg (N8 s).toArray), IsV (.agg (N8 E2).toArray)]) [] rfl (by kernel_rfl) rfl rfl (by kernel_rfl) rfl (by kernel_rfl) (by kernel_rfl) (phi_mono (by repeat (first | exact mono_v _ | exact mono_r _ _ _ | exact mono_s _ _ _ | exact trivial | refine ⟨?_, ?_⟩))) ?_ ?_
        · intro i hi
          rcases (show i = 0 ∨ i = 1 ∨ i = 2 by omega) with rfl | rfl | rfl
          · intro ac W hB hst hdep
            have e22 : ac.tmps[22]? = some (.pointer (some ⟨g22, 0, none⟩)) := hst 22 (by decide)
            exact st_load rfl (wanted_no rfl) 34 (.tmp 22) rfl (eval_of e22) ((N8 s)) _ ((RowL.upS (w := Wm22) H_g22_Wm22.out hB).range 0 _ rfl) undN rfl (by kernel_rfl) rfl (notE rfl)
          · intro ac W hB hst hdep
            have e22 : ac.tmps[22]? = some (.pointer (some ⟨g22, 0, none⟩)) := hst 22 (by decide)
            exact st_load rfl (wanted_no rfl) 34 (.tmp 22) rfl (eval_of e22) ((N8 s)) _ ((RowL.upS (w := Wm22) H_g22_Wm22.out hB).range 0 _ rfl) undN rfl (by kernel_rfl) rfl (notE rfl)
          · intro ac W hB hst hdep
            obtain ⟨x96, e96, h96⟩ := hdep 0 (memE (by kernel_rfl)) 96 rfl
            replace h96 : x96 = .agg (N8 s).toArray := h96
            subst h96
            obtain ⟨x97, e97, h97⟩ := hdep 1 (memE (by kernel_rfl)) 97 rfl
            replace h97 : x97 = .agg (N8 s).toArray := h97
            subst h97
            exact st_call rfl (wanted_no rfl) rfl (show (#[.tmp 96, .tmp 97] : Array Operand).map ac.eval = (#[.agg (N8 s).toArray, .agg (N8 s).toArray] : Array Value) by simp only [List.map_toArray, List.map_cons, List.map_nil, Act.eval_const, eval_of e96, eval_of e97]) (fun _ => by kernel_rfl) (Calls.mono (mulR Zs.out Zs.out (QE2.out)) fun e w' h => ⟨_, h.1, h.2, rfl⟩) (notE rfl)
        intro vs hvs wn hbr hv hne
        obtain ⟨v96, v97, v98, rfl⟩ := listr3 vs hvs
        obtain rfl : v96 = .agg (N8 s).toArray := hv 0 _ rfl
        obtain rfl : v97 = .agg (N8 s).toArray := hv 1 _ rfl
        obtain rfl : v98 = .agg (N8 E2).toArray := hv 2 _ rfl
        clear hvs hv hne
        try simp only [List.zip_cons_cons, List.zip_nil_right, List.zip_nil_left, puts, Act.put, List.setIfInBounds_toArray, List.set_cons_zero, List.set_cons_succ]
        have nB_Wm23 := Lib.hid (nB_Wm22.out.trans (hbr.mono nB_Wm22.out.size))
        have h_g4 := H_g4_Wm22.out.upS hbr
        have h_g6 := H_g6_Wm22.out.upS hbr
        have h_g8 := H_g8_Wm22.out.upS hbr
        have h_g9 := H_g9_Wm22.out.upS hbr
        have h_g10 := H_g10_Wm22.out.upS hbr
        have h_g11 := H_g11_Wm22.out.upS hbr
        have h_g12 := H_g12_Wm22.out.upS hbr
        have h_g19 := H_g19_Wm22.out.upS hbr
        have h_g20 := H_g20_Wm22.out.upS hbr
        have h_g21 := H_g21_Wm22.out.upS hbr
        have h_g23 := H_g23_Wm22.out.upS hbr
        refine tail_store (k := 3) (by kernel_rfl) rfl rfl rfl 34 (.tmp 11) (.tmp 98) rfl g11 ((N8 E2) : List Value).toArray (by kernel_rfl) (by kernel_rfl) _ _ h_g11 (by kernel_rfl) rfl (by kernel_rfl) ?_
        replace h_g4 := RowL.set_ne h_g4 ((N8 E2) : List Value).toArray K_g4_g11.out
        replace h_g6 := RowL.set_ne h_g6 ((N8 E2) : List Value).toArray K_g6_g11.out
        replace h_g8 := RowL.set_ne h_g8 ((N8 E2) : List Value).toArray K_g8_g11.out
        replace h_g9 := RowL.set_ne h_g9 ((N8 E2) : List Value).toArray K_g9_g11.out
        replace h_g10 := RowL.set_ne h_g10 ((N8 E2) : List Value).toArray K_g10_g11.out
        replace h_g11 := RowL.set h_g11 ((N8 E2))
        replace h_g12 := RowL.set_ne h_g12 ((N8 E2) : List Value).toArray (Ne.symm K_g11_g12.out)
        replace h_g19 := RowL.set_ne h_g19 ((N8 E2) : List Value).toArray (Ne.symm K_g11_g19.out)
        replace h_g20 := RowL.set_ne h_g20 ((N8 E2) : List Value).toArray (Ne.symm K_g11_g20.out)
        replace h_g21 := RowL.set_ne h_g21 ((N8 E2) : List Value).toArray (Ne.symm K_g11_g21.out)
        replace h_g23 := RowL.set_ne h_g23 ((N8 E2) : List Value).toArray (Ne.symm K_g11_g23.out)
        replace nB_Wm23 := Lib.hid (set_below nB_Wm23.out U_g11.out ((N8 E2) : List Value).toArray)
        refine wpAny_done (by kernel_rfl) ?_ _
        have H_g4_Wm23 := Lib.hid h_g4
        have H_g6_Wm23 := Lib.hid h_g6
        have H_g8_Wm23 := Lib.hid h_g8
        have H_g9_Wm23 := Lib.hid h_g9
        have H_g10_Wm23 := Lib.hid h_g10
        have H_g11_Wm23 := Lib.hid h_g11
        have H_g12_Wm23 := Lib.hid h_g12
        have H_g19_Wm23 := Lib.hid h_g19
        have H_g20_Wm23 := Lib.hid h_g20
        have H_g21_Wm23 := Lib.hid h_g21
        have H_g23_Wm23 := Lib.hid h_g23
        clear hbr h_g4 h_g6 h_g8 h_g9 h_g10 h_g11 h_g12 h_g19 h_g20 h_g21 h_g23  
        generalize (wn.setRow g11 ((N8 E2) : List Value).toArray) = Wm23 at *
        clear nB_Wm22 H_g4_Wm22 H_g6_Wm22 H_g8_Wm22 H_g9_Wm22 H_g10_Wm22 H_g11_Wm22 H_g12_Wm22 H_g19_Wm22 H_g20_Wm22 H_g21_Wm22 H_g22_Wm22 H_g23_Wm22
        go_upto_region 24 with fail
        refine wp_region_mono 5 [99, 100, 101, 102, 103] (phi [IsV (.agg (N8 x).toArray), IsV (.agg (N8 t).toArray), IsV (.agg (N8 t).toArray), IsV (.agg (N8 tt).toArray), IsV (.agg (N8 U2).toArray)]) [] rfl (by kernel_rfl) rfl rfl (by kernel_rfl) rfl (by kernel_rfl) (by kernel_rfl) (phi_mono (by repeat (first | exact mono_v _ | exact mono_r _ _ _ | exact mono_s _ _ _ | exact trivial | refine ⟨?_, ?_⟩))) ?_ ?_
        · intro i hi
          rcases (show i = 0 ∨ i = 1 ∨ i = 2 ∨ i = 3 ∨ i = 4 by omega) with rfl | rfl | rfl | rfl | rfl
          · intro ac W hB hst hdep
            have e8 : ac.tmps[8]? = some (.pointer (some ⟨g8, 0, none⟩)) := hst 8 (by decide)
            exact st_load rfl (wanted_no rfl) 34 (.tmp 8) rfl (eval_of e8) ((N8 x)) _ ((RowL.upS (w := Wm23.drew) H_g8_Wm23.out hB).range 0 _ rfl) undN rfl (by kernel_rfl) rfl (notE rfl)
          · intro ac W hB hst hdep
            have e23 : ac.tmps[23]? = some (.pointer (some ⟨g23, 0, none⟩)) := hst 23 (by decide)
            exact st_load rfl (wanted_no rfl) 34 (.tmp 23) rfl (eval_of e23) ((N8 t)) _ ((RowL.upS (w := Wm23.drew) H_g23_Wm23.out hB).range 0 _ rfl) undN rfl (by kernel_rfl) rfl (notE rfl)
          · intro ac W hB hst hdep
            have e23 : ac.tmps[23]? = some (.pointer (some ⟨g23, 0, none⟩)) := hst 23 (by decide)
            exact st_load rfl (wanted_no rfl) 34 (.tmp 23) rfl (eval_of e23) ((N8 t)) _ ((RowL.upS (w := Wm23.drew) H_g23_Wm23.out hB).range 0 _ rfl) undN rfl (by kernel_rfl) rfl (notE rfl)
          · intro ac W hB hst hdep
            obtain ⟨x100, e100, h100⟩ := hdep 1 (memE (by kernel_rfl)) 100 rfl
            replace h100 : x100 = .agg (N8 t).toArray := h100
            subst h100
            obtain ⟨x101, e101, h101⟩ := hdep 2 (memE (by kernel_rfl)) 101 rfl
            replace h101 : x101 = .agg (N8 t).toArray := h101
            subst h101
            exact st_call rfl (wanted_no rfl) rfl (show (#[.tmp 100, .tmp 101] : Array Operand).map ac.eval = (#[.agg (N8 t).toArray, .agg (N8 t).toArray] : Array Value) by simp only [List.map_toArray, List.map_cons, List.map_nil, Act.eval_const, eval_of e100, eval_of e101]) (fun _ => by kernel_rfl) (Calls.mono (mulR Zt.out Zt.out (Qtt.out)) fun e w' h => ⟨_, h.1, h.2, rfl⟩) (notE rfl)
          · intro ac W hB hst hdep
            obtain ⟨x99, e99, h99⟩ := hdep 0 (memE (by kernel_rfl)) 99 rfl
            replace h99 : x99 = .agg (N8 x).toArray := h99
            subst h99
            obtain ⟨x102, e102, h102⟩ := hdep 3 (memE (by kernel_rfl)) 102 rfl
            replace h102 : x102 = .agg (N8 tt).toArray := h102
            subst h102
            exact st_call rfl (wanted_no rfl) rfl (show (#[.tmp 99, .tmp 102] : Array Operand).map ac.eval = (#[.agg (N8 x).toArray, .agg (N8 tt).toArray] : Array Value) by simp only [List.map_toArray, List.map_cons, List.map_nil, Act.eval_const, eval_of e99, eval_of e102]) (fun _ => by kernel_rfl) (Calls.mono (mulR Zx.out Ztt.out (QU2.out.trans (prodP2 _ _))) fun e w' h => ⟨_, h.1, h.2, rfl⟩) (notE rfl)
        intro vs hvs wn hbr hv hne
        obtain ⟨v99, v100, v101, v102, v103, rfl⟩ := listr5 vs hvs
        obtain rfl : v99 = .agg (N8 x).toArray := hv 0 _ rfl
        obtain rfl : v100 = .agg (N8 t).toArray := hv 1 _ rfl
        obtain rfl : v101 = .agg (N8 t).toArray := hv 2 _ rfl
        obtain rfl : v102 = .agg (N8 tt).toArray := hv 3 _ rfl
        obtain rfl : v103 = .agg (N8 U2).toArray := hv 4 _ rfl
        clear hvs hv hne
        try simp only [List.zip_cons_cons, List.zip_nil_right, List.zip_nil_left, puts, Act.put, List.setIfInBounds_toArray, List.set_cons_zero, List.set_cons_succ]
        have nB_Wm24 := Lib.hid (nB_Wm23.out.trans (hbr.mono nB_Wm23.out.size))
        have h_g4 := H_g4_Wm23.out.upS hbr
        have h_g6 := H_g6_Wm23.out.upS hbr
        have h_g8 := H_g8_Wm23.out.upS hbr
        have h_g9 := H_g9_Wm23.out.upS hbr
        have h_g10 := H_g10_Wm23.out.upS hbr
        have h_g11 := H_g11_Wm23.out.upS hbr
        have h_g12 := H_g12_Wm23.out.upS hbr
        have h_g19 := H_g19_Wm23.out.upS hbr
        have h_g20 := H_g20_Wm23.out.upS hbr
        have h_g21 := H_g21_Wm23.out.upS hbr
        refine tail_store (k := 5) (by kernel_rfl) rfl rfl rfl 34 (.tmp 12) (.tmp 103) rfl g12 ((N8 U2) : List Value).toArray (by kernel_rfl) (by kernel_rfl) _ _ h_g12 (by kernel_rfl) rfl (by kernel_rfl) ?_
        replace h_g4 := RowL.set_ne h_g4 ((N8 U2) : List Value).toArray K_g4_g12.out
        replace h_g6 := RowL.set_ne h_g6 ((N8 U2) : List Value).toArray K_g6_g12.out
        replace h_g8 := RowL.set_ne h_g8 ((N8 U2) : List Value).toArray K_g8_g12.out
        replace h_g9 := RowL.set_ne h_g9 ((N8 U2) : List Value).toArray K_g9_g12.out
        replace h_g10 := RowL.set_ne h_g10 ((N8 U2) : List Value).toArray K_g10_g12.out
        replace h_g11 := RowL.set_ne h_g11 ((N8 U2) : List Value).toArray K_g11_g12.out
        replace h_g12 := RowL.set h_g12 ((N8 U2))
        replace h_g19 := RowL.set_ne h_g19 ((N8 U2) : List Value).toArray (Ne.symm K_g12_g19.out)
        replace h_g20 := RowL.set_ne h_g20 ((N8 U2) : List Value).toArray (Ne.symm K_g12_g20.out)
        replace h_g21 := RowL.set_ne h_g21 ((N8 U2) : List Value).toArray (Ne.symm K_g12_g21.out)
        replace nB_Wm24 := Lib.hid (set_below nB_Wm24.out U_g12.out ((N8 U2) : List Value).toArray)
        refine wpAny_done (by kernel_rfl) ?_ _
        have H_g4_Wm24 := Lib.hid h_g4
        have H_g6_Wm24 := Lib.hid h_g6
        have H_g8_Wm24 := Lib.hid h_g8
        have H_g9_Wm24 := Lib.hid h_g9
        have H_g10_Wm24 := Lib.hid h_g10
        have H_g11_Wm24 := Lib.hid h_g11
        have H_g12_Wm24 := Lib.hid h_g12
        have H_g19_Wm24 := Lib.hid h_g19
        have H_g20_Wm24 := Lib.hid h_g20
        have H_g21_Wm24 := Lib.hid h_g21
        clear hbr h_g4 h_g6 h_g8 h_g9 h_g10 h_g11 h_g12 h_g19 h_g20 h_g21  
        generalize (wn.setRow g12 ((N8 U2) : List Value).toArray) = Wm24 at *
        clear nB_Wm23 H_g4_Wm23 H_g6_Wm23 H_g8_Wm23 H_g9_Wm23 H_g10_Wm23 H_g11_Wm23 H_g12_Wm23 H_g19_Wm23 H_g20_Wm23 H_g21_Wm23 H_g23_Wm23
        go_upto_region 25 with fail
        refine wp_region_seq 3 [104, 105, 106] (phi [IsV (.agg (N8 aa).toArray), IsV (.agg (N8 bb).toArray), IsV (.agg (N8 E1).toArray)]) [] rfl (by kernel_rfl) rfl rfl (by kernel_rfl) rfl (by kernel_rfl) (by kernel_rfl) (phi_mono (by repeat (first | exact mono_v _ | exact mono_r _ _ _ | exact mono_s _ _ _ | exact trivial | refine ⟨?_, ?_⟩))) ?_ ?_
        · intro i hi
          rcases (show i = 0 ∨ i = 1 ∨ i = 2 by omega) with rfl | rfl | rfl
          · intro ac W hB hst hdep
            have e19 : ac.tmps[19]? = some (.pointer (some ⟨g19, 0, none⟩)) := hst 19 (by decide)
            exact st_load rfl (wanted_no rfl) 34 (.tmp 19) rfl (eval_of e19) ((N8 aa)) _ ((RowL.upS (w := Wm24) H_g19_Wm24.out hB).range 0 _ rfl) undN rfl (by kernel_rfl) rfl (notE rfl)
          · intro ac W hB hst hdep
            have e20 : ac.tmps[20]? = some (.pointer (some ⟨g20, 0, none⟩)) := hst 20 (by decide)
            exact st_load rfl (wanted_no rfl) 34 (.tmp 20) rfl (eval_of e20) ((N8 bb)) _ ((RowL.upS (w := Wm24) H_g20_Wm24.out hB).range 0 _ rfl) undN rfl (by kernel_rfl) rfl (notE rfl)
          · intro ac W hB hst hdep
            obtain ⟨x104, e104, h104⟩ := hdep 0 (memE (by kernel_rfl)) 104 rfl
            replace h104 : x104 = .agg (N8 aa).toArray := h104
            subst h104
            obtain ⟨x105, e105, h105⟩ := hdep 1 (memE (by kernel_rfl)) 105 rfl
            replace h105 : x105 = .agg (N8 bb).toArray := h105
            subst h105
            exact st_call rfl (wanted_no rfl) rfl (show (#[.tmp 104, .tmp 105] : Array Operand).map ac.eval = (#[.agg (N8 aa).toArray, .agg (N8 bb).toArray] : Array Value) by simp only [List.map_toArray, List.map_cons, List.map_nil, Act.eval_const, eval_of e104, eval_of e105]) (fun _ => by kernel_rfl) (Calls.mono (mulR Zaa.out Zbb.out (QE1.out.trans (prodP2 _ _))) fun e w' h => ⟨_, h.1, h.2, rfl⟩) (notE rfl)
        intro vs hvs wn hbr hv hne
        obtain ⟨v104, v105, v106, rfl⟩ := listr3 vs hvs
        obtain rfl : v104 = .agg (N8 aa).toArray := hv 0 _ rfl
        obtain rfl : v105 = .agg (N8 bb).toArray := hv 1 _ rfl
        obtain rfl : v106 = .agg (N8 E1).toArray := hv 2 _ rfl
        clear hvs hv hne
        try simp only [List.zip_cons_cons, List.zip_nil_right, List.zip_nil_left, puts, Act.put, List.setIfInBounds_toArray, List.set_cons_zero, List.set_cons_succ]
        have nB_Wm25 := Lib.hid (nB_Wm24.out.trans (hbr.mono nB_Wm24.out.size))
        have h_g4 := H_g4_Wm24.out.upS hbr
        have h_g6 := H_g6_Wm24.out.upS hbr
        have h_g8 := H_g8_Wm24.out.upS hbr
        have h_g9 := H_g9_Wm24.out.upS hbr
        have h_g10 := H_g10_Wm24.out.upS hbr
        have h_g11 := H_g11_Wm24.out.upS hbr
        have h_g12 := H_g12_Wm24.out.upS hbr
        have h_g19 := H_g19_Wm24.out.upS hbr
        have h_g21 := H_g21_Wm24.out.upS hbr
        refine tail_store (k := 3) (by kernel_rfl) rfl rfl rfl 34 (.tmp 9) (.tmp 106) rfl g9 ((N8 E1) : List Value).toArray (by kernel_rfl) (by kernel_rfl) _ _ h_g9 (by kernel_rfl) rfl (by kernel_rfl) ?_
        replace h_g4 := RowL.set_ne h_g4 ((N8 E1) : List Value).toArray K_g4_g9.out
        replace h_g6 := RowL.set_ne h_g6 ((N8 E1) : List Value).toArray K_g6_g9.out
        replace h_g8 := RowL.set_ne h_g8 ((N8 E1) : List Value).toArray K_g8_g9.out
        replace h_g9 := RowL.set h_g9 ((N8 E1))
        replace h_g10 := RowL.set_ne h_g10 ((N8 E1) : List Value).toArray (Ne.symm K_g9_g10.out)
        replace h_g11 := RowL.set_ne h_g11 ((N8 E1) : List Value).toArray (Ne.symm K_g9_g11.out)
        replace h_g12 := RowL.set_ne h_g12 ((N8 E1) : List Value).toArray (Ne.symm K_g9_g12.out)
        replace h_g19 := RowL.set_ne h_g19 ((N8 E1) : List Value).toArray (Ne.symm K_g9_g19.out)
        replace h_g21 := RowL.set_ne h_g21 ((N8 E1) : List Value).toArray (Ne.symm K_g9_g21.out)
        replace nB_Wm25 := Lib.hid (set_below nB_Wm25.out U_g9.out ((N8 E1) : List Value).toArray)
        refine wpAny_done (by kernel_rfl) ?_ _
        have H_g4_Wm25 := Lib.hid h_g4
        have H_g6_Wm25 := Lib.hid h_g6
        have H_g8_Wm25 := Lib.hid h_g8
        have H_g9_Wm25 := Lib.hid h_g9
        have H_g10_Wm25 := Lib.hid h_g10
        have H_g11_Wm25 := Lib.hid h_g11
        have H_g12_Wm25 := Lib.hid h_g12
        have H_g19_Wm25 := Lib.hid h_g19
        have H_g21_Wm25 := Lib.hid h_g21
        clear hbr h_g4 h_g6 h_g8 h_g9 h_g10 h_g11 h_g12 h_g19 h_g21  
        generalize (wn.setRow g9 ((N8 E1) : List Value).toArray) = Wm25 at *
        clear nB_Wm24 H_g4_Wm24 H_g6_Wm24 H_g8_Wm24 H_g9_Wm24 H_g10_Wm24 H_g11_Wm24 H_g12_Wm24 H_g19_Wm24 H_g20_Wm24 H_g21_Wm24
        go_upto_region 26 with fail
        refine wp_region_mono 7 [107, 108, 109, 110, 111, 112, 113] (phi [IsV (.agg (N8 ee).toArray), IsV (.agg (N8 aa).toArray), IsV (.agg (N8 121665).toArray), IsV (.agg (N8 ee).toArray), IsV (.agg (N8 pe).toArray), IsV (.agg (N8 se).toArray), IsV (.agg (N8 U1).toArray)]) [] rfl (by kernel_rfl) rfl rfl (by kernel_rfl) rfl (by kernel_rfl) (by kernel_rfl) (phi_mono (by repeat (first | exact mono_v _ | exact mono_r _ _ _ | exact mono_s _ _ _ | exact trivial | refine ⟨?_, ?_⟩))) ?_ ?_
        · intro i hi
          rcases (show i = 0 ∨ i = 1 ∨ i = 2 ∨ i = 3 ∨ i = 4 ∨ i = 5 ∨ i = 6 by omega) with rfl | rfl | rfl | rfl | rfl | rfl | rfl
          · intro ac W hB hst hdep
            have e21 : ac.tmps[21]? = some (.pointer (some ⟨g21, 0, none⟩)) := hst 21 (by decide)
            exact st_load rfl (wanted_no rfl) 34 (.tmp 21) rfl (eval_of e21) ((N8 ee)) _ ((RowL.upS (w := Wm25.drew) H_g21_Wm25.out hB).range 0 _ rfl) undN rfl (by kernel_rfl) rfl (notE rfl)
          · intro ac W hB hst hdep
            have e19 : ac.tmps[19]? = some (.pointer (some ⟨g19, 0, none⟩)) := hst 19 (by decide)
            exact st_load rfl (wanted_no rfl) 34 (.tmp 19) rfl (eval_of e19) ((N8 aa)) _ ((RowL.upS (w := Wm25.drew) H_g19_Wm25.out hB).range 0 _ rfl) undN rfl (by kernel_rfl) rfl (notE rfl)
          · intro ac W hB hst hdep
            exact st_build rfl (wanted_no rfl) 34 _ rfl (show (#[(0, .const (.int .u32 121665))] : Array (Nat × Operand)).map (fun (i, x) => (i, ac.eval x)) = #[(0, .int .u32 121665)] by simp only [List.map_toArray, List.map_cons, List.map_nil, Act.eval_const]) bld121665 rfl (notE rfl)
          · intro ac W hB hst hdep
            have e21 : ac.tmps[21]? = some (.pointer (some ⟨g21, 0, none⟩)) := hst 21 (by decide)
            exact st_load rfl (wanted_no rfl) 34 (.tmp 21) rfl (eval_of e21) ((N8 ee)) _ ((RowL.upS (w := Wm25.drew) H_g21_Wm25.out hB).range 0 _ rfl) undN rfl (by kernel_rfl) rfl (notE rfl)
          · intro ac W hB hst hdep
            obtain ⟨x109, e109, h109⟩ := hdep 2 (memE (by kernel_rfl)) 109 rfl
            replace h109 : x109 = .agg (N8 121665).toArray := h109
            subst h109
            obtain ⟨x110, e110, h110⟩ := hdep 3 (memE (by kernel_rfl)) 110 rfl
            replace h110 : x110 = .agg (N8 ee).toArray := h110
            subst h110
            exact st_call rfl (wanted_no rfl) rfl (show (#[.tmp 109, .tmp 110] : Array Operand).map ac.eval = (#[.agg (N8 121665).toArray, .agg (N8 ee).toArray] : Array Value) by simp only [List.map_toArray, List.map_cons, List.map_nil, Act.eval_const, eval_of e109, eval_of e110]) (fun _ => by kernel_rfl) (Calls.mono (mulR (by decide) Zee.out (Qpe.out.trans (prodP2 _ _))) fun e w' h => ⟨_, h.1, h.2, rfl⟩) (notE rfl)
          · intro ac W hB hst hdep
            obtain ⟨x108, e108, h108⟩ := hdep 1 (memE (by kernel_rfl)) 108 rfl
            replace h108 : x108 = .agg (N8 aa).toArray := h108
            subst h108
            obtain ⟨x111, e111, h111⟩ := hdep 4 (memE (by kernel_rfl)) 111 rfl
            replace h111 : x111 = .agg (N8 pe).toArray := h111
            subst h111
            exact st_call rfl (wanted_no rfl) rfl (show (#[.tmp 108, .tmp 111] : Array Operand).map ac.eval = (#[.agg (N8 aa).toArray, .agg (N8 pe).toArray] : Array Value) by simp only [List.map_toArray, List.map_cons, List.map_nil, Act.eval_const, eval_of e108, eval_of e111]) (fun _ => by kernel_rfl) (Calls.mono (addR Zaa.out Zpe.out (Qse.out.trans (sumP2 _ _))) fun e w' h => ⟨_, h.1, h.2, rfl⟩) (notE rfl)
          · intro ac W hB hst hdep
            obtain ⟨x107, e107, h107⟩ := hdep 0 (memE (by kernel_rfl)) 107 rfl
            replace h107 : x107 = .agg (N8 ee).toArray := h107
            subst h107
            obtain ⟨x112, e112, h112⟩ := hdep 5 (memE (by kernel_rfl)) 112 rfl
            replace h112 : x112 = .agg (N8 se).toArray := h112
            subst h112
            exact st_call rfl (wanted_no rfl) rfl (show (#[.tmp 107, .tmp 112] : Array Operand).map ac.eval = (#[.agg (N8 ee).toArray, .agg (N8 se).toArray] : Array Value) by simp only [List.map_toArray, List.map_cons, List.map_nil, Act.eval_const, eval_of e107, eval_of e112]) (fun _ => by kernel_rfl) (Calls.mono (mulR Zee.out Zse.out (QU1.out.trans (prodP2 _ _))) fun e w' h => ⟨_, h.1, h.2, rfl⟩) (notE rfl)
        intro vs hvs wn hbr hv hne
        obtain ⟨v107, v108, v109, v110, v111, v112, v113, rfl⟩ := listr7 vs hvs
        obtain rfl : v107 = .agg (N8 ee).toArray := hv 0 _ rfl
        obtain rfl : v108 = .agg (N8 aa).toArray := hv 1 _ rfl
        obtain rfl : v109 = .agg (N8 121665).toArray := hv 2 _ rfl
        obtain rfl : v110 = .agg (N8 ee).toArray := hv 3 _ rfl
        obtain rfl : v111 = .agg (N8 pe).toArray := hv 4 _ rfl
        obtain rfl : v112 = .agg (N8 se).toArray := hv 5 _ rfl
        obtain rfl : v113 = .agg (N8 U1).toArray := hv 6 _ rfl
        clear hvs hv hne
        try simp only [List.zip_cons_cons, List.zip_nil_right, List.zip_nil_left, puts, Act.put, List.setIfInBounds_toArray, List.set_cons_zero, List.set_cons_succ]
        have nB_Wm26 := Lib.hid (nB_Wm25.out.trans (hbr.mono nB_Wm25.out.size))
        have h_g4 := H_g4_Wm25.out.upS hbr
        have h_g6 := H_g6_Wm25.out.upS hbr
        have h_g8 := H_g8_Wm25.out.upS hbr
        have h_g9 := H_g9_Wm25.out.upS hbr
        have h_g10 := H_g10_Wm25.out.upS hbr
        have h_g11 := H_g11_Wm25.out.upS hbr
        have h_g12 := H_g12_Wm25.out.upS hbr
        refine tail_store (k := 7) (by kernel_rfl) rfl rfl rfl 34 (.tmp 10) (.tmp 113) rfl g10 ((N8 U1) : List Value).toArray (by kernel_rfl) (by kernel_rfl) _ _ h_g10 (by kernel_rfl) rfl (by kernel_rfl) ?_
        replace h_g4 := RowL.set_ne h_g4 ((N8 U1) : List Value).toArray K_g4_g10.out
        replace h_g6 := RowL.set_ne h_g6 ((N8 U1) : List Value).toArray K_g6_g10.out
        replace h_g8 := RowL.set_ne h_g8 ((N8 U1) : List Value).toArray K_g8_g10.out
        replace h_g9 := RowL.set_ne h_g9 ((N8 U1) : List Value).toArray K_g9_g10.out
        replace h_g10 := RowL.set h_g10 ((N8 U1))
        replace h_g11 := RowL.set_ne h_g11 ((N8 U1) : List Value).toArray (Ne.symm K_g10_g11.out)
        replace h_g12 := RowL.set_ne h_g12 ((N8 U1) : List Value).toArray (Ne.symm K_g10_g12.out)
        replace nB_Wm26 := Lib.hid (set_below nB_Wm26.out U_g10.out ((N8 U1) : List Value).toArray)
        refine wpAny_done (by kernel_rfl) ?_ _
        have H_g4_Wm26 := Lib.hid h_g4
        have H_g6_Wm26 := Lib.hid h_g6
        have H_g8_Wm26 := Lib.hid h_g8
        have H_g9_Wm26 := Lib.hid h_g9
        have H_g10_Wm26 := Lib.hid h_g10
        have H_g11_Wm26 := Lib.hid h_g11
        have H_g12_Wm26 := Lib.hid h_g12
        clear hbr h_g4 h_g6 h_g8 h_g9 h_g10 h_g11 h_g12  
        generalize (wn.setRow g10 ((N8 U1) : List Value).toArray) = Wm26 at *
        clear nB_Wm25 H_g4_Wm25 H_g6_Wm25 H_g8_Wm25 H_g9_Wm25 H_g10_Wm25 H_g11_Wm25 H_g12_Wm25 H_g19_Wm25 H_g21_Wm25
        have HFN : Hid (F (255 - m) = (E1, U1, E2, U2)) := Lib.hid (by rw [HST.out, HBC.out]; unfold ladS; simp only [HB.out, decide_false, Bool.false_eq_true, if_false]; rw [HRU.out])
        go_wp2
        go_roundw
        case rel => exact ⟨m, E1, U1, E2, U2, Hm.out, rfl, HFN, H_g4_Wm26, H_g6_Wm26, H_g8_Wm26, H_g9_Wm26, H_g10_Wm26, H_g11_Wm26, H_g12_Wm26, nB_Wm26⟩
        case measure => simp [intOf]
    | zero =>
      obtain ⟨iB, qiB⟩ : ∃ iB, iB = invP B := ⟨_, rfl⟩
      have ZiB : Hid (iB < W4) := Lib.hid (by rw [qiB]; exact invP_lt _)
      have Qq : Hid (q = prodP [A, iB]) := Lib.hid (by rw [HQ.out, qiB, show 255 = 255 - 0 from rfl, hFk.out])
      have QiB := Lib.hid qiB
      have hqP : q % PP = q := by rw [Qq.out]; exact Nat.mod_eq_of_lt (foldP_lt _ _ (Nat.mod_lt _ (by decide)))
      have HQP := Lib.hid hqP
      clear qiB hqP
      go_upto_region 29 with fail
      refine wp_region_mono 5 [120, 121, 122, 123, 24] (phi [IsV (.agg (N8 A).toArray), IsV (.agg (N8 B).toArray), IsV (.agg (N8 iB).toArray), IsV (.agg (N8 q).toArray), IsR wr.heap.size ([.int .u32 0, .int .u32 0, .int .u32 0, .int .u32 0, .int .u32 0, .int .u32 0, .int .u32 0, .int .u32 0]) 34]) [4] rfl (by kernel_rfl) rfl rfl (by kernel_rfl) rfl (by kernel_rfl) (by kernel_rfl) (phi_mono (by repeat (first | exact mono_v _ | exact mono_r _ _ _ | exact mono_s _ _ _ | exact trivial | refine ⟨?_, ?_⟩))) ?_ ?_
      · intro i hi
        rcases (show i = 0 ∨ i = 1 ∨ i = 2 ∨ i = 3 ∨ i = 4 by omega) with rfl | rfl | rfl | rfl | rfl
        · intro ac W hB hst hdep
          have e9 : ac.tmps[9]? = some (.pointer (some ⟨g9, 0, none⟩)) := hst 9 (by decide)
          exact st_load rfl (wanted_no rfl) 34 (.tmp 9) rfl (eval_of e9) ((N8 A)) _ ((RowL.upS (w := wr.drew) r9.out hB).range 0 _ rfl) undN rfl (by kernel_rfl) rfl (notE rfl)
        · intro ac W hB hst hdep
          have e10 : ac.tmps[10]? = some (.pointer (some ⟨g10, 0, none⟩)) := hst 10 (by decide)
          exact st_load rfl (wanted_no rfl) 34 (.tmp 10) rfl (eval_of e10) ((N8 B)) _ ((RowL.upS (w := wr.drew) r10.out hB).range 0 _ rfl) undN rfl (by kernel_rfl) rfl (notE rfl)
        · intro ac W hB hst hdep
          obtain ⟨x121, e121, h121⟩ := hdep 1 (memE (by kernel_rfl)) 121 rfl
          replace h121 : x121 = .agg (N8 B).toArray := h121
          subst h121
          exact st_call rfl (wanted_no rfl) rfl (show (#[.tmp 121] : Array Operand).map ac.eval = (#[.agg (N8 B).toArray] : Array Value) by simp only [List.map_toArray, List.map_cons, List.map_nil, Act.eval_const, eval_of e121]) (fun _ => by kernel_rfl) (Calls.mono (invR ZB.out (QiB.out)) fun e w' h => ⟨_, h.1, h.2, rfl⟩) (notE rfl)
        · intro ac W hB hst hdep
          obtain ⟨x120, e120, h120⟩ := hdep 0 (memE (by kernel_rfl)) 120 rfl
          replace h120 : x120 = .agg (N8 A).toArray := h120
          subst h120
          obtain ⟨x122, e122, h122⟩ := hdep 2 (memE (by kernel_rfl)) 122 rfl
          replace h122 : x122 = .agg (N8 iB).toArray := h122
          subst h122
          exact st_call rfl (wanted_no rfl) rfl (show (#[.tmp 120, .tmp 122] : Array Operand).map ac.eval = (#[.agg (N8 A).toArray, .agg (N8 iB).toArray] : Array Value) by simp only [List.map_toArray, List.map_cons, List.map_nil, Act.eval_const, eval_of e120, eval_of e122]) (fun _ => by kernel_rfl) (Calls.mono (mulR ZA.out ZiB.out (Qq.out.trans (prodP2 _ _))) fun e w' h => ⟨_, h.1, h.2, rfl⟩) (notE rfl)
        · intro ac W hB hst hdep
          exact st_alloc rfl (wanted_no rfl) 34 rfl allocN ⟨_, rfl, hB.size, heap_alloc_new _ _⟩
      intro vs hvs wn hbr hv hne
      obtain ⟨v120, v121, v122, v123, v24, rfl⟩ := listr5 vs hvs
      obtain rfl : v120 = .agg (N8 A).toArray := hv 0 _ rfl
      obtain rfl : v121 = .agg (N8 B).toArray := hv 1 _ rfl
      obtain rfl : v122 = .agg (N8 iB).toArray := hv 2 _ rfl
      obtain rfl : v123 = .agg (N8 q).toArray := hv 3 _ rfl
      obtain ⟨g24, hg24, hB24, hr24⟩ : IsR wr.heap.size ([.int .u32 0, .int .u32 0, .int .u32 0, .int .u32 0, .int .u32 0, .int .u32 0, .int .u32 0, .int .u32 0]) 34 v24 wn := hv 4 _ rfl
      subst hg24
      clear hvs hv hne
      try simp only [List.zip_cons_cons, List.zip_nil_right, List.zip_nil_left, puts, Act.put, List.setIfInBounds_toArray, List.set_cons_zero, List.set_cons_succ]
      have nB_W29 := Lib.hid (hB0.out.trans (hbr.mono hB0.out.size))
      have h_g4 := r4.out.upS hbr
      have h_g9 := r9.out.upS hbr
      have K_g4_g24 : Hid (g4 ≠ g24) := Lib.hid (Nat.ne_of_lt (Nat.lt_of_lt_of_le r4.out.lt hB24))
      have K_g9_g24 : Hid (g9 ≠ g24) := Lib.hid (Nat.ne_of_lt (Nat.lt_of_lt_of_le r9.out.lt hB24))
      have U_g24 : Hid (w.heap.size ≤ g24) := Lib.hid (Nat.le_trans hB0.out.size hB24)
      refine tail_store (k := 5) (by kernel_rfl) rfl rfl rfl 34 (.tmp 24) (.tmp 123) rfl g24 ((N8 q) : List Value).toArray (by kernel_rfl) (by kernel_rfl) _ _ hr24 (by kernel_rfl) rfl (by kernel_rfl) ?_
      replace h_g4 := RowL.set_ne h_g4 ((N8 q) : List Value).toArray K_g4_g24.out
      replace h_g9 := RowL.set_ne h_g9 ((N8 q) : List Value).toArray K_g9_g24.out
      replace hr24 := RowL.set hr24 ((N8 q))
      replace nB_W29 := Lib.hid (set_below nB_W29.out U_g24.out ((N8 q) : List Value).toArray)
      refine wpAny_done (by kernel_rfl) ?_ _
      have H_g4_W29 := Lib.hid h_g4
      have H_g9_W29 := Lib.hid h_g9
      have H_g24_W29 := Lib.hid hr24
      clear hbr h_g4 h_g9 hr24 hB24 
      generalize (wn.setRow g24 ((N8 q) : List Value).toArray) = W29 at *
      clear hB0 r4 r6 r8 r9 r10 r11 r12
      have r24 := H_g24_W29
      have p0 := cell_of_row _ _ 0 _ _ _ r24.out
      have p1 := cell_of_row _ _ 1 _ _ _ r24.out
      have p2 := cell_of_row _ _ 2 _ _ _ r24.out
      have p3 := cell_of_row _ _ 3 _ _ _ r24.out
      have p4 := cell_of_row _ _ 4 _ _ _ r24.out
      have p5 := cell_of_row _ _ 5 _ _ _ r24.out
      have p6 := cell_of_row _ _ 6 _ _ _ r24.out
      have p7 := cell_of_row _ _ 7 _ _ _ r24.out
      simp at p0 p1 p2 p3 p4 p5 p6 p7
      have hq8 : ∀ W, (binOp .eql 34 (.agg (N8 q).toArray) (.agg #[.int .u32 0, .int .u32 0, .int .u32 0, .int .u32 0, .int .u32 0, .int .u32 0, .int .u32 0, .int .u32 0])).run Try.prog W = .ok (.bool (decide (q = 0))) W := fun W => eql8z Zq.out W
      have HOI : Hid ((Try.prog.info? 50).map (·.size) = some (OL.map vb).toArray.size) := Lib.hid (by rw [HOL.out]; split <;> (simp only [List.size_toArray, List.length_map, leBytes_len, zs, List.length_replicate]; kernel_rfl))
      by_cases hq0 : q = 0
      · rw [decide_eq_true hq0] at hq8
        have hOL : OL = zs 32 := by rw [HOL.out, if_pos hq0]
        have hOC : OC = 5 := by rw [HOC.out, if_pos hq0]
        have HOLL := Lib.hid hOL; have HOCC := Lib.hid hOC
        clear hOL hOC hq0
        go_upto_region 31 with fail
        refine wp_region_seq 1 [127] (phi [IsV (.agg #[.int .u8 0, .int .u8 0, .int .u8 0, .int .u8 0, .int .u8 0, .int .u8 0, .int .u8 0, .int .u8 0, .int .u8 0, .int .u8 0, .int .u8 0, .int .u8 0, .int .u8 0, .int .u8 0, .int .u8 0, .int .u8 0, .int .u8 0, .int .u8 0, .int .u8 0, .int .u8 0, .int .u8 0, .int .u8 0, .int .u8 0, .int .u8 0, .int .u8 0, .int .u8 0, .int .u8 0, .int .u8 0, .int .u8 0, .int .u8 0, .int .u8 0, .int .u8 0])]) [] rfl (by kernel_rfl) rfl rfl (by kernel_rfl) rfl (by kernel_rfl) (by kernel_rfl) (phi_mono (by repeat (first | exact mono_v _ | exact mono_r _ _ _ | exact mono_s _ _ _ | exact trivial | refine ⟨?_, ?_⟩))) ?_ ?_
        · intro i hi
          rcases (show i = 0 by omega) with rfl
          · intro ac W hB hst hdep
            exact st_build rfl (wanted_no rfl) 50 _ rfl (show (#[] : Array (Nat × Operand)).map (fun (i, x) => (i, ac.eval x)) = #[] by simp only [List.map_toArray, List.map_nil]) bldB rfl (notE rfl)
        intro vs hvs wn hbr hv hne
        obtain ⟨v127, rfl⟩ := listr1 vs hvs
        obtain rfl : v127 = .agg #[.int .u8 0, .int .u8 0, .int .u8 0, .int .u8 0, .int .u8 0, .int .u8 0, .int .u8 0, .int .u8 0, .int .u8 0, .int .u8 0, .int .u8 0, .int .u8 0, .int .u8 0, .int .u8 0, .int .u8 0, .int .u8 0, .int .u8 0, .int .u8 0, .int .u8 0, .int .u8 0, .int .u8 0, .int .u8 0, .int .u8 0, .int .u8 0, .int .u8 0, .int .u8 0, .int .u8 0, .int .u8 0, .int .u8 0, .int .u8 0, .int .u8 0, .int .u8 0] := hv 0 _ rfl
        clear hvs hv hne
        try simp only [List.zip_cons_cons, List.zip_nil_right, List.zip_nil_left, puts, Act.put, List.setIfInBounds_toArray, List.set_cons_zero, List.set_cons_succ]
        have nB_W31 := Lib.hid (nB_W29.out.trans (hbr.mono nB_W29.out.size))
        have h_g4 := H_g4_W29.out.upS hbr
        refine tail_store (k := 1) (by kernel_rfl) rfl rfl rfl 50 (.tmp 4) (.tmp 127) rfl g4 ([.int .u8 0, .int .u8 0, .int .u8 0, .int .u8 0, .int .u8 0, .int .u8 0, .int .u8 0, .int .u8 0, .int .u8 0, .int .u8 0, .int .u8 0, .int .u8 0, .int .u8 0, .int .u8 0, .int .u8 0, .int .u8 0, .int .u8 0, .int .u8 0, .int .u8 0, .int .u8 0, .int .u8 0, .int .u8 0, .int .u8 0, .int .u8 0, .int .u8 0, .int .u8 0, .int .u8 0, .int .u8 0, .int .u8 0, .int .u8 0, .int .u8 0, .int .u8 0] : List Value).toArray (by kernel_rfl) (by kernel_rfl) _ _ h_g4 (by kernel_rfl) rfl (by kernel_rfl) ?_
        replace h_g4 := RowL.set h_g4 ([.int .u8 0, .int .u8 0, .int .u8 0, .int .u8 0, .int .u8 0, .int .u8 0, .int .u8 0, .int .u8 0, .int .u8 0, .int .u8 0, .int .u8 0, .int .u8 0, .int .u8 0, .int .u8 0, .int .u8 0, .int .u8 0, .int .u8 0, .int .u8 0, .int .u8 0, .int .u8 0, .int .u8 0, .int .u8 0, .int .u8 0, .int .u8 0, .int .u8 0, .int .u8 0, .int .u8 0, .int .u8 0, .int .u8 0, .int .u8 0, .int .u8 0, .int .u8 0])
        replace nB_W31 := Lib.hid (set_below nB_W31.out U_g4.out ([.int .u8 0, .int .u8 0, .int .u8 0, .int .u8 0, .int .u8 0, .int .u8 0, .int .u8 0, .int .u8 0, .int .u8 0, .int .u8 0, .int .u8 0, .int .u8 0, .int .u8 0, .int .u8 0, .int .u8 0, .int .u8 0, .int .u8 0, .int .u8 0, .int .u8 0, .int .u8 0, .int .u8 0, .int .u8 0, .int .u8 0, .int .u8 0, .int .u8 0, .int .u8 0, .int .u8 0, .int .u8 0, .int .u8 0, .int .u8 0, .int .u8 0, .int .u8 0] : List Value).toArray)
        refine tail_assign (k := 2) (by kernel_rfl) rfl rfl (.const (.int .i64 5)) (.inr rfl) (v := .int .i64 5) rfl 5 rfl ?_
        simp only [Act.put, List.setIfInBounds_toArray, List.set_cons_zero, List.set_cons_succ]
        refine wpAny_done (by kernel_rfl) ?_ _
        have H_g4_W31 := Lib.hid h_g4
        clear hbr h_g4  
        generalize (wn.setRow g4 ([.int .u8 0, .int .u8 0, .int .u8 0, .int .u8 0, .int .u8 0, .int .u8 0, .int .u8 0, .int .u8 0, .int .u8 0, .int .u8 0, .int .u8 0, .int .u8 0, .int .u8 0, .int .u8 0, .int .u8 0, .int .u8 0, .int .u8 0, .int .u8 0, .int .u8 0, .int .u8 0, .int .u8 0, .int .u8 0, .int .u8 0, .int .u8 0, .int .u8 0, .int .u8 0, .int .u8 0, .int .u8 0, .int .u8 0, .int .u8 0, .int .u8 0, .int .u8 0] : List Value).toArray) = W31 at *
        clear nB_W29 H_g4_W29 H_g9_W29 H_g24_W29
        go_wp2
        refine bodyPost_ret (results_cell_tmp rfl _ _ g4 50 ([.int .u8 0, .int .u8 0, .int .u8 0, .int .u8 0, .int .u8 0, .int .u8 0, .int .u8 0, .int .u8 0, .int .u8 0, .int .u8 0, .int .u8 0, .int .u8 0, .int .u8 0, .int .u8 0, .int .u8 0, .int .u8 0, .int .u8 0, .int .u8 0, .int .u8 0, .int .u8 0, .int .u8 0, .int .u8 0, .int .u8 0, .int .u8 0, .int .u8 0, .int .u8 0, .int .u8 0, .int .u8 0, .int .u8 0, .int .u8 0, .int .u8 0, .int .u8 0] : List Value).toArray (0, 0) _ (.int .i64 5) (by kernel_rfl) (by kernel_rfl) H_g4_W31.out Try.underlying50 rfl (by kernel_rfl)) rfl ⟨by first | (rw [HOLL.out, HOCC.out]; done) | (rw [HOLL.out, HOCC.out]; rfl), nB_W31.out⟩
      · rw [decide_eq_false hq0] at hq8
        have CB := fun W => rbytesE Zq.out W
        rw [HQP.out] at CB
        have CB := Lib.hid CB
        have hOL : OL = leBytes q 32 := by rw [HOL.out, if_neg hq0]
        have hOC : OC = 0 := by rw [HOC.out, if_neg hq0]
        have HOLL := Lib.hid hOL; have HOCC := Lib.hid hOC
        clear hOL hOC hq0
        go_upto_region 32 with fail
        refine wp_region_seq 2 [128, 129] (phi [IsV (.agg (N8 q).toArray), IsV (.agg ((leBytes q 32).map vb).toArray)]) [] rfl (by kernel_rfl) rfl rfl (by kernel_rfl) rfl (by kernel_rfl) (by kernel_rfl) (phi_mono (by repeat (first | exact mono_v _ | exact mono_r _ _ _ | exact mono_s _ _ _ | exact trivial | refine ⟨?_, ?_⟩))) ?_ ?_
        · intro i hi
          rcases (show i = 0 ∨ i = 1 by omega) with rfl | rfl
          · intro ac W hB hst hdep
            have e24 : ac.tmps[24]? = some (.pointer (some ⟨g24, 0, none⟩)) := hst 24 (by decide)
            exact st_load rfl (wanted_no rfl) 34 (.tmp 24) rfl (eval_of e24) ((N8 q)) _ ((RowL.upS (w := W29) H_g24_W29.out hB).range 0 _ rfl) undN rfl (by kernel_rfl) rfl (notE rfl)
          · intro ac W hB hst hdep
            obtain ⟨x128, e128, h128⟩ := hdep 0 (memE (by kernel_rfl)) 128 rfl
            replace h128 : x128 = .agg (N8 q).toArray := h128
            subst h128
            exact st_call rfl (wanted_no rfl) rfl (show (#[.tmp 128] : Array Operand).map ac.eval = (#[.agg (N8 q).toArray] : Array Value) by simp only [List.map_toArray, List.map_cons, List.map_nil, Act.eval_const, eval_of e128]) (fun _ => by kernel_rfl) (Calls.mono (CB.out _) fun e w' h => ⟨_, h.1, h.2, rfl⟩) (notE rfl)
        intro vs hvs wn hbr hv hne
        obtain ⟨v128, v129, rfl⟩ := listr2 vs hvs
        obtain rfl : v128 = .agg (N8 q).toArray := hv 0 _ rfl
        obtain rfl : v129 = .agg ((leBytes q 32).map vb).toArray := hv 1 _ rfl
        clear hvs hv hne
        try simp only [List.zip_cons_cons, List.zip_nil_right, List.zip_nil_left, puts, Act.put, List.setIfInBounds_toArray, List.set_cons_zero, List.set_cons_succ]
        have nB_W32 := Lib.hid (nB_W29.out.trans (hbr.mono nB_W29.out.size))
        have h_g4 := H_g4_W29.out.upS hbr
        refine tail_store (k := 2) (by kernel_rfl) rfl rfl rfl 50 (.tmp 4) (.tmp 129) rfl g4 ((leBytes q 32).map vb : List Value).toArray (by kernel_rfl) (by kernel_rfl) _ _ h_g4 (by kernel_rfl) rfl (by kernel_rfl) ?_
        replace h_g4 := RowL.set h_g4 ((leBytes q 32).map vb)
        replace nB_W32 := Lib.hid (set_below nB_W32.out U_g4.out ((leBytes q 32).map vb : List Value).toArray)
        refine tail_assign (k := 3) (by kernel_rfl) rfl rfl (.const (.int .i64 0)) (.inr rfl) (v := .int .i64 0) rfl 5 rfl ?_
        simp only [Act.put, List.setIfInBounds_toArray, List.set_cons_zero, List.set_cons_succ]
        refine wpAny_done (by kernel_rfl) ?_ _
        have H_g4_W32 := Lib.hid h_g4
        clear hbr h_g4  
        generalize (wn.setRow g4 ((leBytes q 32).map vb : List Value).toArray) = W32 at *
        clear nB_W29 H_g4_W29 H_g9_W29 H_g24_W29
        go_wp2
        refine bodyPost_ret (results_cell_tmp rfl _ _ g4 50 ((leBytes q 32).map vb : List Value).toArray (0, 0) _ (.int .i64 0) (by kernel_rfl) (by kernel_rfl) H_g4_W32.out Try.underlying50 rfl (by kernel_rfl)) rfl ⟨by first | (rw [HOLL.out, HOCC.out]; done) | (rw [HOLL.out, HOCC.out]; rfl), nB_W32.out⟩
end Go.Proofs.Ytgkglielcbgpiaa
