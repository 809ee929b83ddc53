/- curve's Mult. -/
import Derived.Test.YtgkglielcbgpiaaV6
namespace Go.Proofs.Ytgkglielcbgpiaa
open Go.RowKit

set_option maxRecDepth 100000
theorem allocB (W : World) : (Instr.alloc 50 true (.tuple #[])).run Try.prog W = .ok (.pointer (some ⟨W.heap.size, 0, none⟩)) (W.alloc (.cells ([.int .u8 0, .int .u8 0, .int .u8 0, .int .u8 0, .int .u8 0, .int .u8 0, .int .u8 0, .int .u8 0, .int .u8 0, .int .u8 0, .int .u8 0, .int .u8 0, .int .u8 0, .int .u8 0, .int .u8 0, .int .u8 0, .int .u8 0, .int .u8 0, .int .u8 0, .int .u8 0, .int .u8 0, .int .u8 0, .int .u8 0, .int .u8 0, .int .u8 0, .int .u8 0, .int .u8 0, .int .u8 0, .int .u8 0, .int .u8 0, .int .u8 0, .int .u8 0] : List Value).toArray 50)) := by kernel_rfl
theorem guardB (op : BinOp) (x y : Operand) (c d : Array Value) (W : World) : (eqGuard op 50 x y (.agg c) (.agg d)).run Try.prog W = .ok () W := by
  cases op <;> kernel_rfl
theorem zsB : (.agg #[.int .u8 0, .int .u8 0, .int .u8 0, .int .u8 0, .int .u8 0, .int .u8 0, .int .u8 0, .int .u8 0, .int .u8 0, .int .u8 0, .int .u8 0, .int .u8 0, .int .u8 0, .int .u8 0, .int .u8 0, .int .u8 0, .int .u8 0, .int .u8 0, .int .u8 0, .int .u8 0, .int .u8 0, .int .u8 0, .int .u8 0, .int .u8 0, .int .u8 0, .int .u8 0, .int .u8 0, .int .u8 0, .int .u8 0, .int .u8 0, .int .u8 0, .int .u8 0] : Value) = .agg ((zs 32).map vb).toArray := by kernel_rfl
theorem le_zero {q : Nat} (hq : q % PP = q) : (leBytes q 32).map (fun x => (x.toNat : Int)) = (zs 32).map (fun x => (x.toNat : Int)) ↔ q = 0 := by
  constructor
  · intro h
    have hinj : leBytes q 32 = zs 32 := by
      have h2 := congrArg (List.map fun z : Int => UInt8.ofNat z.toNat) h
      rw [List.map_map, List.map_map] at h2
      have e : ((fun z : Int => UInt8.ofNat z.toNat) ∘ fun x : UInt8 => (x.toNat : Int)) = id := by funext x; simp
      rwa [e, List.map_id, List.map_id] at h2
    have h3 := numL_le q 32
    rw [hinj, show numL (zs 32) = 0 by decide +kernel, Nat.mod_eq_of_lt (by have := Nat.mod_lt q PP_pos; rw [hq] at this; exact Nat.lt_trans this (by decide))] at h3
    exact h3.symm
  · rintro rfl
    decide +kernel
theorem le_or (q : Nat) : (if q = 0 then zs 32 else leBytes q 32) = leBytes q 32 := by
  by_cases h : q = 0
  · rw [if_pos h, h]; decide +kernel
  · rw [if_neg h]
theorem eqB0 {x y : Operand} {q : Nat} (hq : q % PP = q) (W : World) : (do eqGuard .eql 50 x y (.agg ((leBytes q 32).map vb).toArray) (.agg #[.int .u8 0, .int .u8 0, .int .u8 0, .int .u8 0, .int .u8 0, .int .u8 0, .int .u8 0, .int .u8 0, .int .u8 0, .int .u8 0, .int .u8 0, .int .u8 0, .int .u8 0, .int .u8 0, .int .u8 0, .int .u8 0, .int .u8 0, .int .u8 0, .int .u8 0, .int .u8 0, .int .u8 0, .int .u8 0, .int .u8 0, .int .u8 0, .int .u8 0, .int .u8 0, .int .u8 0, .int .u8 0, .int .u8 0, .int .u8 0, .int .u8 0, .int .u8 0]); binOp .eql 50 (.agg ((leBytes q 32).map vb).toArray) (.agg #[.int .u8 0, .int .u8 0, .int .u8 0, .int .u8 0, .int .u8 0, .int .u8 0, .int .u8 0, .int .u8 0, .int .u8 0, .int .u8 0, .int .u8 0, .int .u8 0, .int .u8 0, .int .u8 0, .int .u8 0, .int .u8 0, .int .u8 0, .int .u8 0, .int .u8 0, .int .u8 0, .int .u8 0, .int .u8 0, .int .u8 0, .int .u8 0, .int .u8 0, .int .u8 0, .int .u8 0, .int .u8 0, .int .u8 0, .int .u8 0, .int .u8 0, .int .u8 0]) : Sem Value).run Try.prog W = .ok (.bool (decide (q = 0))) W := by
  rw [Sem.run_bind, guardB, Result.andThen_ok, zsB, run_eql32 (leBytes_len _ _) (by simp [zs]) W, decide_eq_decide.2 (le_zero hq)]
theorem listm1 (l : List Value) (h : l.length = 1) : ∃ v0, l = [v0] := by
  match l, h with
  | v0 :: [], _ => exact ⟨_, rfl⟩
theorem listm3 (l : List Value) (h : l.length = 3) : ∃ v0 v1 v2, l = [v0, v1, v2] := by
  match l, h with
  | v0 :: v1 :: v2 :: [], _ => exact ⟨_, _, _, rfl⟩
theorem listm6 (l : List Value) (h : l.length = 6) : ∃ v0 v1 v2 v3 v4 v5, l = [v0, v1, v2, v3, v4, v5] := by
  match l, h with
  | v0 :: v1 :: v2 :: v3 :: v4 :: v5 :: [], _ => exact ⟨_, _, _, _, _, _, rfl⟩

set_option maxRecDepth 100000 in
set_option maxHeartbeats 4000000 in
theorem mult_ok {k u : List UInt8} {vk vu : Value} {w : World} (hk : Bs w w.heap.size vk k) (hu : Bs w w.heap.size vu u) (hkl : k.length = 32) (hul : u.length = 32) :
    Calls Try.prog 33 #[vk, vu] w fun e w' => e = .returned (.tuple #[.agg ((multL k u).map vb).toArray, .int .i64 (multC k u)]) ∧ Below w.heap.size w w' := by
  obtain ⟨AU, cU, rfl⟩ := hu.shape
  obtain ⟨AK, cK, rfl⟩ := hk.shape
  obtain ⟨n, hn⟩ : ∃ n, n = clampL k := ⟨_, rfl⟩
  have hnl : n.length = 32 := by rw [hn, clampL_len]; exact hkl
  obtain ⟨x, hx⟩ : ∃ x, x = cutN (numL u) % PP := ⟨_, rfl⟩
  have hx4 : x < W4 := by rw [hx]; exact mod_lt4 _
  obtain ⟨A, hA⟩ : ∃ A, A = (ladN x n 255).1 := ⟨_, rfl⟩
  obtain ⟨B, hB⟩ : ∃ B, B = (ladN x n 255).2.1 := ⟨_, rfl⟩
  obtain ⟨q, hq⟩ : ∃ q, q = prodP [A, invP B] := ⟨_, rfl⟩
  have hqm : q = multQ k u := by rw [hq, hA, hB, hx, hn]; rfl
  obtain ⟨OL, hOL⟩ : ∃ OL, OL = multL k u := ⟨_, rfl⟩
  obtain ⟨OC, hOC⟩ : ∃ OC, OC = multC k u := ⟨_, rfl⟩
  rw [← hOL, ← hOC]
  have HOL : Hid (OL = leBytes q 32) := Lib.hid (by rw [hOL, multL, ← hqm]; exact le_or q)
  have HOC : Hid (OC = if q = 0 then 5 else 0) := Lib.hid (by rw [hOC, hqm]; rfl)
  have hin := ladN_in hx4 n 255
  have ZA : Hid (A < W4) := Lib.hid (by rw [hA]; exact hin.a)
  have ZB : Hid (B < W4) := Lib.hid (by rw [hB]; exact hin.b)
  have Zq : Hid (q < W4) := Lib.hid (by rw [hq]; exact prodP_lt4 _)
  have HQP : Hid (q % PP = q) := Lib.hid (by rw [hq]; exact Nat.mod_eq_of_lt (foldP_lt _ _ (Nat.mod_lt _ (by decide))))
  have CL : Hid (∀ W, Calls Try.prog 60 #[.agg (n.map vb).toArray, .agg #[.int .u64 (l0 (x) : Int), .int .u64 (l1 (x) : Int), .int .u64 (l2 (x) : Int), .int .u64 (l3 (x) : Int)]] W fun e w' => e = .returned (.agg #[.int .u64 (l0 (A) : Int), .int .u64 (l1 (A) : Int), .int .u64 (l2 (A) : Int), .int .u64 (l3 (A) : Int), .int .u64 (l0 (B) : Int), .int .u64 (l1 (B) : Int), .int .u64 (l2 (B) : Int), .int .u64 (l3 (B) : Int)]) ∧ Below W.heap.size W w') := Lib.hid (fun W => by rw [hA, hB]; exact ladder_any hnl hx4 W)
  have CV : Hid (∀ W, Calls Try.prog 13 #[.agg #[.int .u64 (l0 (A) : Int), .int .u64 (l1 (A) : Int), .int .u64 (l2 (A) : Int), .int .u64 (l3 (A) : Int), .int .u64 (l0 (B) : Int), .int .u64 (l1 (B) : Int), .int .u64 (l2 (B) : Int), .int .u64 (l3 (B) : Int)]] W fun e w' => e = .returned (.agg #[.int .u64 (l0 (q) : Int), .int .u64 (l1 (q) : Int), .int .u64 (l2 (q) : Int), .int .u64 (l3 (q) : Int)]) ∧ Below W.heap.size W w') := Lib.hid (fun W => by rw [hq]; exact valueE ZA.out ZB.out W)
  have CB : Hid (∀ W, Calls Try.prog 57 #[.agg #[.int .u64 (l0 (q) : Int), .int .u64 (l1 (q) : Int), .int .u64 (l2 (q) : Int), .int .u64 (l3 (q) : Int)]] W fun e w' => e = .returned (.agg ((leBytes q 32).map vb).toArray) ∧ Below W.heap.size W w') := Lib.hid (fun W => by have h := bytesE Zq.out W; rw [HQP.out] at h; exact h)
  have HNL := Lib.hid hnl
  obtain ⟨us, hus⟩ : ∃ us, us = (n.map vb).toArray := ⟨_, rfl⟩
  obtain ⟨W1, hW1⟩ : ∃ W1, W1 = w.alloc (.cells #[.int .u8 0, .int .u8 0, .int .u8 0, .int .u8 0, .int .u8 0, .int .u8 0, .int .u8 0, .int .u8 0, .int .u8 0, .int .u8 0, .int .u8 0, .int .u8 0, .int .u8 0, .int .u8 0, .int .u8 0, .int .u8 0, .int .u8 0, .int .u8 0, .int .u8 0, .int .u8 0, .int .u8 0, .int .u8 0, .int .u8 0, .int .u8 0, .int .u8 0, .int .u8 0, .int .u8 0, .int .u8 0, .int .u8 0, .int .u8 0, .int .u8 0, .int .u8 0] 50) := ⟨_, rfl⟩
  have hb1 : Below w.heap.size w W1 := by rw [hW1]; exact (Below.refl _ _).alloc (Nat.le_refl _) _
  obtain ⟨g4, hg4⟩ : ∃ g4, g4 = w.heap.size := ⟨_, rfl⟩
  have k4 : RowL W1 g4 ((zs 32).map vb) 50 := by rw [hW1, hg4]; exact RowL.new w _ _
  have C1 : Hid (Calls Try.prog 30 #[.slice AK k.length cK] W1 fun e w' => e = .returned (.tuple #[.agg us, .int .i64 0]) ∧ Below W1.heap.size W1 w') := Lib.hid (by rw [hus, hn]; exact clamp_ok (bs_up hk hb1) hkl)
  have HU1 := Lib.hid (bs_up hu hb1)
  have HUS := Lib.hid hus; have HX := Lib.hid hx
  have HUL := Lib.hid hul
  have hi : Hid ((Try.prog.info? 50).map (·.size) = some us.size) := Lib.hid (by rw [hus]; simp only [List.size_toArray, List.length_map, hnl]; kernel_rfl)
  have ho : Hid (us.all (·.oneCell') = true) := Lib.hid (by rw [hus]; exact one_bytes _)
  have hz : Hid ((#[.int .u8 0, .int .u8 0, .int .u8 0, .int .u8 0, .int .u8 0, .int .u8 0, .int .u8 0, .int .u8 0, .int .u8 0, .int .u8 0, .int .u8 0, .int .u8 0, .int .u8 0, .int .u8 0, .int .u8 0, .int .u8 0, .int .u8 0, .int .u8 0, .int .u8 0, .int .u8 0, .int .u8 0, .int .u8 0, .int .u8 0, .int .u8 0, .int .u8 0, .int .u8 0, .int .u8 0, .int .u8 0, .int .u8 0, .int .u8 0, .int .u8 0, .int .u8 0] : Array Value).size = us.size) := Lib.hid (by rw [hus]; simp only [List.size_toArray, List.length_map, hnl]; rfl)
  have HB1 := Lib.hid hb1; have K4 := Lib.hid k4; have HW1 := Lib.hid hW1; have HG4 := Lib.hid hg4
  clear hk hu hkl hn hnl hx hx4 hA hB hq hqm hOL hOC hus hW1 hb1 k4 hul hg4 hin
  go_enter Try.func33, Try.ntmps33
  go_upto_region 1 with fail
  rw [show _ = W1 from HW1.out.symm, show _ = g4 from HG4.out.symm]
  clear HW1
  go_wp2_with fail
  with_reducible refine (C1.out).mono ?_
  rintro e1 v1 ⟨rfl, hb1⟩
  have hz2 := heap_alloc_new v1 (.cells #[.int .u8 0, .int .u8 0, .int .u8 0, .int .u8 0, .int .u8 0, .int .u8 0, .int .u8 0, .int .u8 0, .int .u8 0, .int .u8 0, .int .u8 0, .int .u8 0, .int .u8 0, .int .u8 0, .int .u8 0, .int .u8 0, .int .u8 0, .int .u8 0, .int .u8 0, .int .u8 0, .int .u8 0, .int .u8 0, .int .u8 0, .int .u8 0, .int .u8 0, .int .u8 0, .int .u8 0, .int .u8 0, .int .u8 0, .int .u8 0, .int .u8 0, .int .u8 0] 50)
  have HZ2 := Lib.hid hz2
  clear hz2
  go_upto_region 2 with (first | (with_reducible refine wpList_store_row rfl 50 (.tmp 6) (.tmp 13) rfl (v1.heap.size) us rfl rfl 50 _ HZ2.out hi.out hz.out ho.out ?_) | fail)
  rw [World.setRow_alloc_new]
  obtain ⟨W2, hW2⟩ : ∃ W2, W2 = v1.alloc (.cells us 50) := ⟨_, rfl⟩
  obtain ⟨g6, hg6⟩ : ∃ g6, g6 = v1.heap.size := ⟨_, rfl⟩
  have ha2 : Below v1.heap.size v1 W2 := by rw [hW2]; exact (Below.refl _ _).alloc (Nat.le_refl _) _
  have hc2 : Below W1.heap.size W1 W2 := hb1.trans (ha2.mono hb1.size)
  have K6 : Hid (RowL W2 g6 (n.map vb) 50) := Lib.hid (by rw [hW2, hg6, HUS.out]; exact RowL.new _ _ _)
  have K4b := Lib.hid (K4.out.upS hc2)
  have HB2 := Lib.hid (HB1.out.trans (hc2.mono HB1.out.size))
  have K_g4_g6 : Hid (g4 ≠ g6) := Lib.hid (Nat.ne_of_lt (by rw [hg6]; exact Nat.lt_of_lt_of_le K4.out.lt hb1.size))
  have U_g4 : Hid (w.heap.size ≤ g4) := Lib.hid (Nat.le_of_eq HG4.out.symm)
  have C2 := fread_ok (bs_up HU1.out hc2) HUL.out
  rw [← HX.out] at C2
  have C2 := Lib.hid C2
  rw [← hW2, ← hg6]
  clear hb1 ha2 hc2 hW2 hg6 K4 HB1 HZ2 C1 HU1 hi ho hz
  go_wp2_with fail
  with_reducible refine (C2.out).mono ?_
  rintro e2 v2 ⟨rfl, hb2⟩
  go_upto_region 7 with fail
  obtain ⟨W3, hW3⟩ : ∃ W3, W3 = v2.alloc (.cells ([.int .u64 (l0 (x) : Int), .int .u64 (l1 (x) : Int), .int .u64 (l2 (x) : Int), .int .u64 (l3 (x) : Int)] : List Value).toArray 26) := ⟨_, rfl⟩
  obtain ⟨g8, hg8⟩ : ∃ g8, g8 = v2.heap.size := ⟨_, rfl⟩
  have ha3 : Below v2.heap.size v2 W3 := by rw [hW3]; exact (Below.refl _ _).alloc (Nat.le_refl _) _
  have hc3 : Below W2.heap.size W2 W3 := hb2.trans (ha3.mono hb2.size)
  have R8 : Hid (RowL W3 g8 [.int .u64 (l0 (x) : Int), .int .u64 (l1 (x) : Int), .int .u64 (l2 (x) : Int), .int .u64 (l3 (x) : Int)] 26) := Lib.hid (by rw [hW3, hg8]; exact RowL.new _ _ _)
  have R4 := Lib.hid (K4b.out.upS hc3); have R6 := Lib.hid (K6.out.upS hc3)
  have HB3 := Lib.hid (HB2.out.trans (hc3.mono HB2.out.size))
  have HW3 := Lib.hid hW3; have HG8 := Lib.hid hg8
  clear hb2 ha3 hc3 hW3 hg8 K4b K6 HB2 C2
  rw [show _ = W3 from HW3.out.symm, show _ = g8 from HG8.out.symm]
  clear HW3 HG8
  have HI6 : Hid ((Try.prog.info? 50).map (·.size) = some (n.map vb).length) := Lib.hid (by rw [List.length_map, HNL.out]; kernel_rfl)
  have HR6 : Hid (((n.map vb).drop 0).take (n.map vb).length = n.map vb) := Lib.hid (by rw [List.drop_zero, List.take_length])
  refine wp_region_seq 6 [28, 29, 30, 31, 32, 9] (phi [IsV (.agg (n.map vb).toArray), IsV (.agg #[.int .u64 (l0 (x) : Int), .int .u64 (l1 (x) : Int), .int .u64 (l2 (x) : Int), .int .u64 (l3 (x) : Int)]), IsV (.agg #[.int .u64 (l0 (A) : Int), .int .u64 (l1 (A) : Int), .int .u64 (l2 (A) : Int), .int .u64 (l3 (A) : Int), .int .u64 (l0 (B) : Int), .int .u64 (l1 (B) : Int), .int .u64 (l2 (B) : Int), .int .u64 (l3 (B) : Int)]), IsV (.agg #[.int .u64 (l0 (q) : Int), .int .u64 (l1 (q) : Int), .int .u64 (l2 (q) : Int), .int .u64 (l3 (q) : Int)]), IsV (.agg ((leBytes q 32).map vb).toArray), IsR W3.heap.size ([.int .u8 0, .int .u8 0, .int .u8 0, .int .u8 0, .int .u8 0, .int .u8 0, .int .u8 0, .int .u8 0, .int .u8 0, .int .u8 0, .int .u8 0, .int .u8 0, .int .u8 0, .int .u8 0, .int .u8 0, .int .u8 0, .int .u8 0, .int .u8 0, .int .u8 0, .int .u8 0, .int .u8 0, .int .u8 0, .int .u8 0, .int .u8 0, .int .u8 0, .int .u8 0, .int .u8 0, .int .u8 0, .int .u8 0, .int .u8 0, .int .u8 0, .int .u8 0]) 50]) [5] rfl (by kernel_rfl) rfl rfl (by kernel_rfl) rfl (by kernel_rfl) (by kernel_rfl) (phi_mono (by repeat (first | exact mono_v _ | exact mono_r _ _ _ | exact mono_s _ _ _ | exact trivial | refine ⟨?_, ?_⟩))) ?_ ?_
  · intro i hi
    rcases (show i = 0 ∨ i = 1 ∨ i = 2 ∨ i = 3 ∨ i = 4 ∨ i = 5 by omega) with rfl | rfl | rfl | rfl | rfl | rfl
    · intro ac W hB hst hdep
      have e6 : ac.tmps[6]? = some (.pointer (some ⟨g6, 0, none⟩)) := hst 6 (by decide)
      exact st_load rfl (wanted_no rfl) 50 (.tmp 6) rfl (eval_of e6) (n.map vb) _ (RowL.range (RowL.upS (w := W3) R6.out hB) 0 _ HR6.out) Try.underlying50 rfl HI6.out rfl (notE rfl)
    · intro ac W hB hst hdep
      have e8 : ac.tmps[8]? = some (.pointer (some ⟨g8, 0, none⟩)) := hst 8 (by decide)
      exact st_load rfl (wanted_no rfl) 26 (.tmp 8) rfl (eval_of e8) ([.int .u64 (l0 (x) : Int), .int .u64 (l1 (x) : Int), .int .u64 (l2 (x) : Int), .int .u64 (l3 (x) : Int)]) _ ((RowL.upS (w := W3) R8.out hB).range 0 _ rfl) undEl rfl (by kernel_rfl) rfl (notE rfl)
    · intro ac W hB hst hdep
      obtain ⟨x28, e28, h28⟩ := hdep 0 (memE (by kernel_rfl)) 28 rfl
      replace h28 : x28 = .agg (n.map vb).toArray := h28
      subst h28
      obtain ⟨x29, e29, h29⟩ := hdep 1 (memE (by kernel_rfl)) 29 rfl
      replace h29 : x29 = .agg #[.int .u64 (l0 (x) : Int), .int .u64 (l1 (x) : Int), .int .u64 (l2 (x) : Int), .int .u64 (l3 (x) : Int)] := h29
      subst h29
      exact st_call rfl (wanted_no rfl) rfl (show (#[.tmp 28, .tmp 29] : Array Operand).map ac.eval = (#[.agg (n.map vb).toArray, .agg #[.int .u64 (l0 (x) : Int), .int .u64 (l1 (x) : Int), .int .u64 (l2 (x) : Int), .int .u64 (l3 (x) : Int)]] : Array Value) by simp only [List.map_toArray, List.map_cons, List.map_nil, Act.eval_const, eval_of e28, eval_of e29]) (fun _ => by kernel_rfl) (Calls.mono (CL.out _) fun e w' h => ⟨_, h.1, h.2, rfl⟩) (notE rfl)
    · intro ac W hB hst hdep
      obtain ⟨x30, e30, h30⟩ := hdep 2 (memE (by kernel_rfl)) 30 rfl
      replace h30 : x30 = .agg #[.int .u64 (l0 (A) : Int), .int .u64 (l1 (A) : Int), .int .u64 (l2 (A) : Int), .int .u64 (l3 (A) : Int), .int .u64 (l0 (B) : Int), .int .u64 (l1 (B) : Int), .int .u64 (l2 (B) : Int), .int .u64 (l3 (B) : Int)] := h30
      subst h30
      exact st_call rfl (wanted_no rfl) rfl (show (#[.tmp 30] : Array Operand).map ac.eval = (#[.agg #[.int .u64 (l0 (A) : Int), .int .u64 (l1 (A) : Int), .int .u64 (l2 (A) : Int), .int .u64 (l3 (A) : Int), .int .u64 (l0 (B) : Int), .int .u64 (l1 (B) : Int), .int .u64 (l2 (B) : Int), .int .u64 (l3 (B) : Int)]] : Array Value) by simp only [List.map_toArray, List.map_cons, List.map_nil, Act.eval_const, eval_of e30]) (fun _ => by kernel_rfl) (Calls.mono (CV.out _) fun e w' h => ⟨_, h.1, h.2, rfl⟩) (notE rfl)
    · intro ac W hB hst hdep
      obtain ⟨x31, e31, h31⟩ := hdep 3 (memE (by kernel_rfl)) 31 rfl
      replace h31 : x31 = .agg #[.int .u64 (l0 (q) : Int), .int .u64 (l1 (q) : Int), .int .u64 (l2 (q) : Int), .int .u64 (l3 (q) : Int)] := h31
      subst h31
      exact st_call rfl (wanted_no rfl) rfl (show (#[.tmp 31] : Array Operand).map ac.eval = (#[.agg #[.int .u64 (l0 (q) : Int), .int .u64 (l1 (q) : Int), .int .u64 (l2 (q) : Int), .int .u64 (l3 (q) : Int)]] : Array Value) by simp only [List.map_toArray, List.map_cons, List.map_nil, Act.eval_const, eval_of e31]) (fun _ => by kernel_rfl) (Calls.mono (CB.out _) fun e w' h => ⟨_, h.1, h.2, rfl⟩) (notE rfl)
    · intro ac W hB hst hdep
      exact st_alloc rfl (wanted_no rfl) 50 rfl allocB ⟨_, rfl, hB.size, heap_alloc_new _ _⟩
  intro vs hvs wn hbr hv hne
  obtain ⟨v28, v29, v30, v31, v32, v9, rfl⟩ := listm6 vs hvs
  obtain rfl : v28 = .agg (n.map vb).toArray := hv 0 _ rfl
  obtain rfl : v29 = .agg #[.int .u64 (l0 (x) : Int), .int .u64 (l1 (x) : Int), .int .u64 (l2 (x) : Int), .int .u64 (l3 (x) : Int)] := hv 1 _ rfl
  obtain rfl : v30 = .agg #[.int .u64 (l0 (A) : Int), .int .u64 (l1 (A) : Int), .int .u64 (l2 (A) : Int), .int .u64 (l3 (A) : Int), .int .u64 (l0 (B) : Int), .int .u64 (l1 (B) : Int), .int .u64 (l2 (B) : Int), .int .u64 (l3 (B) : Int)] := hv 2 _ rfl
  obtain rfl : v31 = .agg #[.int .u64 (l0 (q) : Int), .int .u64 (l1 (q) : Int), .int .u64 (l2 (q) : Int), .int .u64 (l3 (q) : Int)] := hv 3 _ rfl
  obtain rfl : v32 = .agg ((leBytes q 32).map vb).toArray := hv 4 _ rfl
  obtain ⟨g9, hg9, hB9, hr9⟩ : IsR W3.heap.size ([.int .u8 0, .int .u8 0, .int .u8 0, .int .u8 0, .int .u8 0, .int .u8 0, .int .u8 0, .int .u8 0, .int .u8 0, .int .u8 0, .int .u8 0, .int .u8 0, .int .u8 0, .int .u8 0, .int .u8 0, .int .u8 0, .int .u8 0, .int .u8 0, .int .u8 0, .int .u8 0, .int .u8 0, .int .u8 0, .int .u8 0, .int .u8 0, .int .u8 0, .int .u8 0, .int .u8 0, .int .u8 0, .int .u8 0, .int .u8 0, .int .u8 0, .int .u8 0]) 50 v9 wn := hv 5 _ rfl
  subst hg9
  clear hvs hv hne
  try simp only [List.zip_cons_cons, List.zip_nil_right, List.zip_nil_left, puts, Act.put, List.setIfInBounds_toArray, List.set_cons_zero, List.set_cons_succ]
  have nB_W7 := Lib.hid (HB3.out.trans (hbr.mono HB3.out.size))
  have h_g4 := R4.out.upS hbr
  have K_g4_g9 : Hid (g4 ≠ g9) := Lib.hid (Nat.ne_of_lt (Nat.lt_of_lt_of_le R4.out.lt hB9))
  have U_g9 : Hid (w.heap.size ≤ g9) := Lib.hid (Nat.le_trans HB3.out.size hB9)
  refine tail_store (k := 6) (by kernel_rfl) rfl rfl rfl 50 (.tmp 9) (.tmp 32) rfl g9 ((leBytes q 32).map vb : List Value).toArray (by kernel_rfl) (by kernel_rfl) _ _ hr9 (by kernel_rfl) rfl (by kernel_rfl) ?_
  replace h_g4 := RowL.set_ne h_g4 ((leBytes q 32).map vb : List Value).toArray K_g4_g9.out
  replace hr9 := RowL.set hr9 ((leBytes q 32).map vb)
  replace nB_W7 := Lib.hid (set_below nB_W7.out U_g9.out ((leBytes q 32).map vb : List Value).toArray)
  refine wpAny_done (by kernel_rfl) ?_ _
  have H_g4_W7 := Lib.hid h_g4
  have H_g9_W7 := Lib.hid hr9
  clear hbr h_g4 hr9 hB9 
  generalize (wn.setRow g9 ((leBytes q 32).map vb : List Value).toArray) = W7 at *
  clear HB3 R4 R6 R8
  have HR9 : Hid ((((leBytes q 32).map vb).drop 0).take ((leBytes q 32).map vb).length = (leBytes q 32).map vb) := Lib.hid (by rw [List.drop_zero, List.take_length])
  go_upto_region 8 with fail
  refine wp_region_seq 3 [33, 34, 35] (phi [IsV (.agg ((leBytes q 32).map vb).toArray), IsV (.agg #[.int .u8 0, .int .u8 0, .int .u8 0, .int .u8 0, .int .u8 0, .int .u8 0, .int .u8 0, .int .u8 0, .int .u8 0, .int .u8 0, .int .u8 0, .int .u8 0, .int .u8 0, .int .u8 0, .int .u8 0, .int .u8 0, .int .u8 0, .int .u8 0, .int .u8 0, .int .u8 0, .int .u8 0, .int .u8 0, .int .u8 0, .int .u8 0, .int .u8 0, .int .u8 0, .int .u8 0, .int .u8 0, .int .u8 0, .int .u8 0, .int .u8 0, .int .u8 0]), IsV (.bool (decide (q = 0)))]) [] rfl (by kernel_rfl) rfl rfl (by kernel_rfl) rfl (by kernel_rfl) (by kernel_rfl) (phi_mono (by repeat (first | exact mono_v _ | exact mono_r _ _ _ | exact mono_s _ _ _ | exact trivial | refine ⟨?_, ?_⟩))) ?_ ?_
  · intro i hi
    rcases (show i = 0 ∨ i = 1 ∨ i = 2 by omega) with rfl | rfl | rfl
    · intro ac W hB hst hdep
      have e9 : ac.tmps[9]? = some (.pointer (some ⟨g9, 0, none⟩)) := hst 9 (by decide)
      exact st_load rfl (wanted_no rfl) 50 (.tmp 9) rfl (eval_of e9) ((leBytes q 32).map vb) _ (RowL.range (RowL.upS (w := W7) H_g9_W7.out hB) 0 _ HR9.out) Try.underlying50 rfl (by kernel_rfl) rfl (notE rfl)
    · intro ac W hB hst hdep
      exact st_build rfl (wanted_no rfl) 50 _ rfl (show (#[] : Array (Nat × Operand)).map (fun (i, x) => (i, ac.eval x)) = #[] by simp only [List.map_toArray, List.map_nil]) bldB rfl (notE rfl)
    · intro ac W hB hst hdep
      obtain ⟨x33, e33, h33⟩ := hdep 0 (memE (by kernel_rfl)) 33 rfl
      replace h33 : x33 = .agg ((leBytes q 32).map vb).toArray := h33
      subst h33
      obtain ⟨x34, e34, h34⟩ := hdep 1 (memE (by kernel_rfl)) 34 rfl
      replace h34 : x34 = .agg #[.int .u8 0, .int .u8 0, .int .u8 0, .int .u8 0, .int .u8 0, .int .u8 0, .int .u8 0, .int .u8 0, .int .u8 0, .int .u8 0, .int .u8 0, .int .u8 0, .int .u8 0, .int .u8 0, .int .u8 0, .int .u8 0, .int .u8 0, .int .u8 0, .int .u8 0, .int .u8 0, .int .u8 0, .int .u8 0, .int .u8 0, .int .u8 0, .int .u8 0, .int .u8 0, .int .u8 0, .int .u8 0, .int .u8 0, .int .u8 0, .int .u8 0, .int .u8 0] := h34
      subst h34
      exact st_bin rfl (wanted_no rfl) .eql 50 50 (.tmp 33) (.tmp 34) rfl (eval_of e33) (eval_of e34) (fun W => eqB0 HQP.out W) rfl (notE rfl)
  intro vs hvs wn hbr hv hne
  obtain ⟨v33, v34, v35, rfl⟩ := listm3 vs hvs
  obtain rfl : v33 = .agg ((leBytes q 32).map vb).toArray := hv 0 _ rfl
  obtain rfl : v34 = .agg #[.int .u8 0, .int .u8 0, .int .u8 0, .int .u8 0, .int .u8 0, .int .u8 0, .int .u8 0, .int .u8 0, .int .u8 0, .int .u8 0, .int .u8 0, .int .u8 0, .int .u8 0, .int .u8 0, .int .u8 0, .int .u8 0, .int .u8 0, .int .u8 0, .int .u8 0, .int .u8 0, .int .u8 0, .int .u8 0, .int .u8 0, .int .u8 0, .int .u8 0, .int .u8 0, .int .u8 0, .int .u8 0, .int .u8 0, .int .u8 0, .int .u8 0, .int .u8 0] := hv 1 _ rfl
  obtain rfl : v35 = .bool (decide (q = 0)) := hv 2 _ rfl
  clear hvs hv hne
  try simp only [List.zip_cons_cons, List.zip_nil_right, List.zip_nil_left, puts, Act.put, List.setIfInBounds_toArray, List.set_cons_zero, List.set_cons_succ]
  have nB_W8 := Lib.hid (nB_W7.out.trans (hbr.mono nB_W7.out.size))
  have h_g4 := H_g4_W7.out.upS hbr
  have h_g9 := H_g9_W7.out.upS hbr
  refine wpAny_done (by kernel_rfl) ?_ _
  have H_g4_W8 := Lib.hid h_g4
  have H_g9_W8 := Lib.hid h_g9
  clear hbr h_g4 h_g9  
  generalize wn = W8 at *
  clear nB_W7 H_g4_W7 H_g9_W7
  by_cases hq0 : q = 0
  · rw [decide_eq_true hq0]
    have hOC : OC = 5 := by rw [HOC.out, if_pos hq0]
    have HOCC := Lib.hid hOC
    clear hOC hq0
    go_upto_region 9 with fail
    refine wp_region_seq 1 [36] (phi [IsV (.agg ((leBytes q 32).map vb).toArray)]) [] rfl (by kernel_rfl) rfl rfl (by kernel_rfl) rfl (by kernel_rfl) (by kernel_rfl) (phi_mono (by repeat (first | exact mono_v _ | exact mono_r _ _ _ | exact mono_s _ _ _ | exact trivial | refine ⟨?_, ?_⟩))) ?_ ?_
    · intro i hi
      rcases (show i = 0 by omega) with rfl
      · intro ac W hB hst hdep
        have e9 : ac.tmps[9]? = some (.pointer (some ⟨g9, 0, none⟩)) := hst 9 (by decide)
        exact st_load rfl (wanted_no rfl) 50 (.tmp 9) rfl (eval_of e9) ((leBytes q 32).map vb) _ (RowL.range (RowL.upS (w := W8) H_g9_W8.out hB) 0 _ HR9.out) Try.underlying50 rfl (by kernel_rfl) rfl (notE rfl)
    intro vs hvs wn hbr hv hne
    obtain ⟨v36, rfl⟩ := listm1 vs hvs
    obtain rfl : v36 = .agg ((leBytes q 32).map vb).toArray := hv 0 _ rfl
    clear hvs hv hne
    try simp only [List.zip_cons_cons, List.zip_nil_right, List.zip_nil_left, puts, Act.put, List.setIfInBounds_toArray, List.set_cons_zero, List.set_cons_succ]
    have nB_W9 := Lib.hid (nB_W8.out.trans (hbr.mono nB_W8.out.size))
    have h_g4 := H_g4_W8.out.upS hbr
    have h_g9 := H_g9_W8.out.upS hbr
    refine tail_store (k := 1) (by kernel_rfl) rfl rfl rfl 50 (.tmp 4) (.tmp 36) rfl g4 ((leBytes q 32).map vb : List Value).toArray (by kernel_rfl) (by kernel_rfl) _ _ h_g4 (by kernel_rfl) rfl (by kernel_rfl) ?_
    replace h_g4 := RowL.set h_g4 ((leBytes q 32).map vb)
    replace h_g9 := RowL.set_ne h_g9 ((leBytes q 32).map vb : List Value).toArray (Ne.symm K_g4_g9.out)
    replace nB_W9 := Lib.hid (set_below nB_W9.out U_g4.out ((leBytes q 32).map vb : List Value).toArray)
    refine tail_assign (k := 2) (by kernel_rfl) rfl rfl (.const (.int .i64 5)) (.inr rfl) (v := .int .i64 5) rfl 5 rfl ?_
    simp only [Act.put, List.setIfInBounds_toArray, List.set_cons_zero, List.set_cons_succ]
    refine wpAny_done (by kernel_rfl) ?_ _
    have H_g4_W9 := Lib.hid h_g4
    have H_g9_W9 := Lib.hid h_g9
    clear hbr h_g4 h_g9  
    generalize (wn.setRow g4 ((leBytes q 32).map vb : List Value).toArray) = W9 at *
    clear nB_W8 H_g4_W8 H_g9_W8
    go_wp2
    refine bodyPost_ret (results_cell_tmp rfl _ _ g4 50 ((leBytes q 32).map vb : List Value).toArray (0, 0) _ (.int .i64 5) (by kernel_rfl) (by kernel_rfl) H_g4_W9.out Try.underlying50 rfl (by kernel_rfl)) rfl ⟨by rw [HOL.out, HOCC.out], nB_W9.out⟩
  · rw [decide_eq_false hq0]
    have hOC : OC = 0 := by rw [HOC.out, if_neg hq0]
    have HOCC := Lib.hid hOC
    clear hOC hq0
    go_upto_region 10 with fail
    refine wp_region_seq 1 [37] (phi [IsV (.agg ((leBytes q 32).map vb).toArray)]) [] rfl (by kernel_rfl) rfl rfl (by kernel_rfl) rfl (by kernel_rfl) (by kernel_rfl) (phi_mono (by repeat (first | exact mono_v _ | exact mono_r _ _ _ | exact mono_s _ _ _ | exact trivial | refine ⟨?_, ?_⟩))) ?_ ?_
    · intro i hi
      rcases (show i = 0 by omega) with rfl
      · intro ac W hB hst hdep
        have e9 : ac.tmps[9]? = some (.pointer (some ⟨g9, 0, none⟩)) := hst 9 (by decide)
        exact st_load rfl (wanted_no rfl) 50 (.tmp 9) rfl (eval_of e9) ((leBytes q 32).map vb) _ (RowL.range (RowL.upS (w := W8) H_g9_W8.out hB) 0 _ HR9.out) Try.underlying50 rfl (by kernel_rfl) rfl (notE rfl)
    intro vs hvs wn hbr hv hne
    obtain ⟨v37, rfl⟩ := listm1 vs hvs
    obtain rfl : v37 = .agg ((leBytes q 32).map vb).toArray := hv 0 _ rfl
    clear hvs hv hne
    try simp only [List.zip_cons_cons, List.zip_nil_right, List.zip_nil_left, puts, Act.put, List.setIfInBounds_toArray, List.set_cons_zero, List.set_cons_succ]
    have nB_W10 := Lib.hid (nB_W8.out.trans (hbr.mono nB_W8.out.size))
    have h_g4 := H_g4_W8.out.upS hbr
    have h_g9 := H_g9_W8.out.upS hbr
    refine tail_store (k := 1) (by kernel_rfl) rfl rfl rfl 50 (.tmp 4) (.tmp 37) rfl g4 ((leBytes q 32).map vb : List Value).toArray (by kernel_rfl) (by kernel_rfl) _ _ h_g4 (by kernel_rfl) rfl (by kernel_rfl) ?_
    replace h_g4 := RowL.set h_g4 ((leBytes q 32).map vb)
    replace h_g9 := RowL.set_ne h_g9 ((leBytes q 32).map vb : List Value).toArray (Ne.symm K_g4_g9.out)
    replace nB_W10 := Lib.hid (set_below nB_W10.out U_g4.out ((leBytes q 32).map vb : List Value).toArray)
    refine tail_assign (k := 2) (by kernel_rfl) rfl rfl (.const (.int .i64 0)) (.inr rfl) (v := .int .i64 0) rfl 5 rfl ?_
    simp only [Act.put, List.setIfInBounds_toArray, List.set_cons_zero, List.set_cons_succ]
    refine wpAny_done (by kernel_rfl) ?_ _
    have H_g4_W10 := Lib.hid h_g4
    have H_g9_W10 := Lib.hid h_g9
    clear hbr h_g4 h_g9  
    generalize (wn.setRow g4 ((leBytes q 32).map vb : List Value).toArray) = W10 at *
    clear nB_W8 H_g4_W8 H_g9_W8
    go_wp2
    refine bodyPost_ret (results_cell_tmp rfl _ _ g4 50 ((leBytes q 32).map vb : List Value).toArray (0, 0) _ (.int .i64 0) (by kernel_rfl) (by kernel_rfl) H_g4_W10.out Try.underlying50 rfl (by kernel_rfl)) rfl ⟨by rw [HOL.out, HOCC.out], nB_W10.out⟩
end Go.Proofs.Ytgkglielcbgpiaa
