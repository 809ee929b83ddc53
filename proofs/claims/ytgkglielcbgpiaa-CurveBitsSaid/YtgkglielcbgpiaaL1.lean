/- The laws' fixed fact, and 'is'. -/
import Derived.Test.YtgkglielcbgpiaaF15
namespace Go.Proofs.Ytgkglielcbgpiaa
open Go.RowKit

theorem invP_rpO (V : Nat) : invP V = rpO V (numL eInv) (8 * eInv.length) % PP := (rpO_all V eInv).symm
theorem invTwo : rpO 2 (numL eInv) (8 * eInv.length) % PP * 2 % PP = 1 := by decide +kernel
theorem prod_pair (A J : Nat) : prodP [A, J] = A % PP * J % PP := by
  show mulP (mulP (1 % PP) A) J = _
  have e : 1 % PP = 1 := by decide
  unfold mulP
  rw [e, Nat.one_mul]
theorem two_inv (J : Nat) (h : J = rpO 2 (numL eInv) (8 * eInv.length) % PP) : prodP [2, J] = 1 := by
  rw [prod_pair, h, Nat.mul_comm, show 2 % PP = 2 from by decide]
  exact invTwo
theorem prod2 : prodP [2, invP 2] = 1 := two_inv _ (invP_rpO 2)
theorem norm_ones (w : World) : Calls Try.prog 24 #[.agg #[.int .u64 18446744073709551615, .int .u64 18446744073709551615, .int .u64 18446744073709551615, .int .u64 18446744073709551615]] w fun e w' => e = .returned (.agg #[.int .u64 (l0 (37) : Int), .int .u64 (l1 (37) : Int), .int .u64 (l2 (37) : Int), .int .u64 (l3 (37) : Int)]) ∧ Below w.heap.size w w' := normE (V := W4 - 1) (by decide) w
theorem prod_two (w : World) : Calls Try.prog 22 #[.slice (some ⟨w.heap.size, 0, none⟩) 2 2] (w.alloc (.cells #[.int .u64 (l0 (2) : Int), .int .u64 (l1 (2) : Int), .int .u64 (l2 (2) : Int), .int .u64 (l3 (2) : Int), .int .u64 (l0 (invP 2) : Int), .int .u64 (l1 (invP 2) : Int), .int .u64 (l2 (invP 2) : Int), .int .u64 (l3 (invP 2) : Int)] 26)) fun e w' => e = .returned (.agg #[.int .u64 (l0 (1) : Int), .int .u64 (l1 (1) : Int), .int .u64 (l2 (1) : Int), .int .u64 (l3 (1) : Int)]) ∧ Below (w.alloc (.cells #[.int .u64 (l0 (2) : Int), .int .u64 (l1 (2) : Int), .int .u64 (l2 (2) : Int), .int .u64 (l3 (2) : Int), .int .u64 (l0 (invP 2) : Int), .int .u64 (l1 (invP 2) : Int), .int .u64 (l2 (invP 2) : Int), .int .u64 (l3 (invP 2) : Int)] 26)).heap.size (w.alloc (.cells #[.int .u64 (l0 (2) : Int), .int .u64 (l1 (2) : Int), .int .u64 (l2 (2) : Int), .int .u64 (l3 (2) : Int), .int .u64 (l0 (invP 2) : Int), .int .u64 (l1 (invP 2) : Int), .int .u64 (l2 (invP 2) : Int), .int .u64 (l3 (invP 2) : Int)] 26)) w' := by
  have h := prodE (es_two (W := w.alloc (.cells #[.int .u64 (l0 (2) : Int), .int .u64 (l1 (2) : Int), .int .u64 (l2 (2) : Int), .int .u64 (l3 (2) : Int), .int .u64 (l0 (invP 2) : Int), .int .u64 (l1 (invP 2) : Int), .int .u64 (l2 (invP 2) : Int), .int .u64 (l3 (invP 2) : Int)] 26)) (g := w.heap.size) (A := 2) (B := invP 2) (by decide) (invP_lt 2) (heap_alloc_new w _))
  rw [prod2] at h
  exact h
theorem eql_37 (w : World) : (binOp .eql 26 (.agg #[.int .u64 (l0 (37) : Int), .int .u64 (l1 (37) : Int), .int .u64 (l2 (37) : Int), .int .u64 (l3 (37) : Int)]) (.agg #[.int .u64 37, .int .u64 0, .int .u64 0, .int .u64 0])).run Try.prog w = .ok (.bool true) w := run_eqlE (V := 37) (U := 37) (by decide) (by decide) w
theorem eql_1 (w : World) : (binOp .eql 26 (.agg #[.int .u64 (l0 (1) : Int), .int .u64 (l1 (1) : Int), .int .u64 (l2 (1) : Int), .int .u64 (l3 (1) : Int)]) (.agg #[.int .u64 1, .int .u64 0, .int .u64 0, .int .u64 0])).run Try.prog w = .ok (.bool true) w := run_eqlE (V := 1) (U := 1) (by decide) (by decide) w

set_option maxRecDepth 100000 in
set_option maxHeartbeats 4000000 in
theorem awakeE (w : World) : Calls Try.prog 11 #[] w fun e w' => e = .returned (.bool true) ∧ Below w.heap.size w w' := by
  have C1 := Lib.hid (fun W => norm_ones W)
  have C2 := Lib.hid (fun W => of2 W)
  have CI := Lib.hid (fun W => invE (V := 2) (by decide) W)
  have CP := Lib.hid (fun W => prod_two W)
  have q1 := fun W => eql_37 W
  have q2 := fun W => eql_1 W
  obtain ⟨J, hJ⟩ : ∃ J, J = invP 2 := ⟨_, rfl⟩
  rw [← hJ] at CI CP
  clear hJ
  go_enter Try.func11, Try.ntmps11
  go_wp2_with fail
  with_reducible refine (C1.out _).mono ?_
  rintro e w1 ⟨rfl, hb1⟩
  have B1 := Lib.hid hb1
  obtain ⟨hc1, hf1⟩ := bcell hb1
  have zz1 := hb1.size
  try simp only [World.size_alloc] at zz1
  have z1_0 : w.heap.size < w1.heap.size := by omega
  clear hb1 zz1
  clear hc1 hf1
  go_wp2_with fail
  with_reducible refine (C2.out _).mono ?_
  rintro e w2 ⟨rfl, hb2⟩
  have B2 := Lib.hid hb2
  obtain ⟨hc2, hf2⟩ := bcell hb2
  have zz2 := hb2.size
  try simp only [World.size_alloc] at zz2
  have z2_0 : w.heap.size < w2.heap.size := by omega
  clear hb2 zz2
  clear hc2 hf2
  go_wp2_with fail
  with_reducible refine (C2.out _).mono ?_
  rintro e w3 ⟨rfl, hb3⟩
  have B3 := Lib.hid hb3
  obtain ⟨hc3, hf3⟩ := bcell hb3
  have zz3 := hb3.size
  try simp only [World.size_alloc] at zz3
  have z3_0 : w.heap.size < w3.heap.size := by omega
  clear hb3 zz3
  clear hc3 hf3
  go_wp2_with fail
  with_reducible refine (CI.out _).mono ?_
  rintro e w4 ⟨rfl, hb4⟩
  have B4 := Lib.hid hb4
  obtain ⟨hc4, hf4⟩ := bcell hb4
  have zz4 := hb4.size
  try simp only [World.size_alloc] at zz4
  have z4_0 : w.heap.size < w4.heap.size := by omega
  clear hb4 zz4
  clear hc4 hf4
  go_wp2_with fail
  with_reducible refine (CP.out _).mono ?_
  rintro e w5 ⟨rfl, hb5⟩
  have B5 := Lib.hid hb5
  obtain ⟨hc5, hf5⟩ := bcell hb5
  have zz5 := hb5.size
  try simp only [World.size_alloc] at zz5
  have z5_0 : w.heap.size < w5.heap.size := by omega
  clear hb5 zz5
  clear hc5 hf5
  go_wp2_with fail
  go_ret
  refine ⟨rfl, ?_⟩
  have b1 := B1.out
  have b5 := B5.out
  simp only [World.size_alloc] at b1 b5
  exact (((((Below.refl w.heap.size w).alloc (Nat.le_refl _) _).trans (b1.mono (by omega))).trans (B2.out.mono (by omega))).trans (B3.out.mono (by omega)) |>.trans (B4.out.mono (by omega)) |>.alloc (by omega) _).trans (b5.mono (by omega))

theorem u4Info : Try.prog.underlying 25 = some (.array 4 24) := by kernel_rfl
set_option maxRecDepth 100000 in
set_option maxHeartbeats 4000000 in
theorem run_eql4 {V U : Nat} (hV : V < W4) (hU : U < W4) (w : World) : (binOp .eql 25 (.agg #[.int .u64 (l0 (V) : Int), .int .u64 (l1 (V) : Int), .int .u64 (l2 (V) : Int), .int .u64 (l3 (V) : Int)]) (.agg #[.int .u64 (l0 (U) : Int), .int .u64 (l1 (U) : Int), .int .u64 (l2 (U) : Int), .int .u64 (l3 (U) : Int)])).run Try.prog w = .ok (.bool (decide (V = U))) w := by
  obtain ⟨info, hi⟩ := elInfo
  have h := run_eql_arr (P := Try.prog) (t := 25) (e := 24) (n := 4) (k := .u64) (k' := .u64) u4Info hi (by kernel_rfl) (by kernel_rfl) Try.underlying24 ([l0 V, l1 V, l2 V, l3 V].map fun n => ((n : Nat) : Int)) ([l0 U, l1 U, l2 U, l3 U].map fun n => ((n : Nat) : Int)) rfl rfl w
  rw [decide_eq_decide.2 (el_eq hV hU)] at h
  exact h

set_option maxRecDepth 100000 in
set_option maxHeartbeats 4000000 in
/-- the program's element is the document's number -/
theorem isLawE {V U : Nat} (hV : V < W4) (hU : U < W4) (w : World) : Calls Try.prog 14 #[.agg #[.int .u64 (l0 (V) : Int), .int .u64 (l1 (V) : Int), .int .u64 (l2 (V) : Int), .int .u64 (l3 (V) : Int)], .agg #[.int .u32 (dig (U) 0 : Int), .int .u32 (dig (U) 1 : Int), .int .u32 (dig (U) 2 : Int), .int .u32 (dig (U) 3 : Int), .int .u32 (dig (U) 4 : Int), .int .u32 (dig (U) 5 : Int), .int .u32 (dig (U) 6 : Int), .int .u32 (dig (U) 7 : Int)]] w fun e w' => e = .returned (.bool (decide (V = U))) ∧ Below w.heap.size w w' := by
  obtain ⟨rb, hrb⟩ : ∃ rb, rb = decide (V = U) := ⟨_, rfl⟩
  rw [← hrb]
  have C1 := Lib.hid (fun W => toE U W)
  rw [nvL] at C1
  have heq := fun W => run_eql4 hV hU W
  rw [← hrb] at heq
  clear hrb hV hU
  go_enter Try.func14, Try.ntmps14
  go_wp2_with fail
  go_region_held3 (fun w' => w'.cell? ⟨w.heap.size, 0, none⟩ = some (.int .u64 (l0 (V) : Int)) ∧ w'.cell? ⟨w.heap.size, 1, none⟩ = some (.int .u64 (l1 (V) : Int)) ∧ w'.cell? ⟨w.heap.size, 2, none⟩ = some (.int .u64 (l2 (V) : Int)) ∧ w'.cell? ⟨w.heap.size, 3, none⟩ = some (.int .u64 (l3 (V) : Int))
     ∧ w'.cell? ⟨w.heap.size + 1, 0, none⟩ = some (.int .u32 (dig (U) 0 : Int)) ∧ w'.cell? ⟨w.heap.size + 1, 1, none⟩ = some (.int .u32 (dig (U) 1 : Int)) ∧ w'.cell? ⟨w.heap.size + 1, 2, none⟩ = some (.int .u32 (dig (U) 2 : Int)) ∧ w'.cell? ⟨w.heap.size + 1, 3, none⟩ = some (.int .u32 (dig (U) 3 : Int))
     ∧ w'.cell? ⟨w.heap.size + 1, 4, none⟩ = some (.int .u32 (dig (U) 4 : Int)) ∧ w'.cell? ⟨w.heap.size + 1, 5, none⟩ = some (.int .u32 (dig (U) 5 : Int)) ∧ w'.cell? ⟨w.heap.size + 1, 6, none⟩ = some (.int .u32 (dig (U) 6 : Int)) ∧ w'.cell? ⟨w.heap.size + 1, 7, none⟩ = some (.int .u32 (dig (U) 7 : Int))) (go_simp)
    (first
      | ((with_reducible refine (C1.out _).mono ?_); rintro e' w' ⟨rfl, hb⟩; obtain ⟨hc, hf⟩ := bcell hb; (try simp only [World.size_drew] at hc hf); have zz := hb.size; (try simp only [World.size_drew] at zz); (try simp only [World.size_alloc] at zz); (first | (have zt := Nat.lt_of_lt_of_le zt zz) | (have zt := Nat.lt_of_lt_of_le zs zz) | skip); (try have zs := Nat.lt_of_succ_le zz); have y0 : w.heap.size < w'.heap.size := (by omega); have y1 : w.heap.size + 1 < w'.heap.size := (by omega); have hB0 : Below w.heap.size w w' := (by refine Below.trans ?_ (hb.mono (by first | omega | (simp only [World.size_alloc]; omega) | (simp only [World.size_drew, World.size_alloc]; omega) | (simp only [World.size_drew]; omega))); (repeat (first | (with_reducible exact Below.refl _ _) | (with_reducible exact HBE.out) | (with_reducible refine Below.drew ?_) | ((with_reducible refine Below.alloc ?_ ?_ _); rotate_left; (first | omega | (simp only [World.size_alloc]; omega) | (simp only [World.size_drew, World.size_alloc]; omega) | (simp only [World.size_drew]; omega))) | ((with_reducible refine set4_below ?_ ?_ _ _ _ _); rotate_left; omega) | ((with_reducible refine Below.setCell ?_ ?_ _); rotate_left; (show _ ≤ _); (simp only); omega)))); have HBE := Lib.hid hB0; clear hB0 hb)
      | fail)
  all_goals
    go_wp2_with fail
    go_ret
    refine ⟨rfl, ?_⟩
    (repeat (first | (with_reducible exact Below.refl _ _) | (with_reducible exact HBE.out) | (with_reducible refine Below.drew ?_) | ((with_reducible refine Below.alloc ?_ ?_ _); rotate_left; (first | omega | (simp only [World.size_alloc]; omega) | (simp only [World.size_drew, World.size_alloc]; omega) | (simp only [World.size_drew]; omega))) | ((with_reducible refine set4_below ?_ ?_ _ _ _ _); rotate_left; omega) | ((with_reducible refine Below.setCell ?_ ?_ _); rotate_left; (show _ ≤ _); (simp only); omega)))
end Go.Proofs.Ytgkglielcbgpiaa
