/- field's Odd and Is. -/
import Derived.Test.YtgkglielcbgpiaaF11
namespace Go.Proofs.Ytgkglielcbgpiaa
open Go.RowKit

theorem elL (V : Nat) : (#[.int .u64 (l0 (V) : Int), .int .u64 (l1 (V) : Int), .int .u64 (l2 (V) : Int), .int .u64 (l3 (V) : Int)] : Array Value) = (([l0 V, l1 V, l2 V, l3 V].map fun n => ((n : Nat) : Int)).map (Value.int .u64)).toArray := rfl
theorem el_eq {V U : Nat} (hV : V < W4) (hU : U < W4) : ([l0 V, l1 V, l2 V, l3 V].map fun n => ((n : Nat) : Int)) = ([l0 U, l1 U, l2 U, l3 U].map fun n => ((n : Nat) : Int)) ↔ V = U := by
  constructor
  · intro h
    simp only [List.map_cons, List.map_nil, List.cons.injEq, and_true] at h
    obtain ⟨h0, h1, h2, h3⟩ := h
    rw [← lv hV, ← lv hU, Int.ofNat.inj h0, Int.ofNat.inj h1, Int.ofNat.inj h2, Int.ofNat.inj h3]
  · rintro rfl
    rfl
theorem elInfo : ∃ info, Try.prog.info? 24 = some info := by
  have h : (Try.prog.info? 24).isSome = true := by kernel_rfl
  exact Option.isSome_iff_exists.1 h
set_option maxRecDepth 100000 in
set_option maxHeartbeats 4000000 in
/-- == of elements -/
theorem run_eqlE {V U : Nat} (hV : V < W4) (hU : U < W4) (w : World) : (binOp .eql 26 (.agg #[.int .u64 (l0 (V) : Int), .int .u64 (l1 (V) : Int), .int .u64 (l2 (V) : Int), .int .u64 (l3 (V) : Int)]) (.agg #[.int .u64 (l0 (U) : Int), .int .u64 (l1 (U) : Int), .int .u64 (l2 (U) : Int), .int .u64 (l3 (U) : Int)])).run Try.prog w = .ok (.bool (decide (V = U))) w := by
  obtain ⟨info, hi⟩ := elInfo
  have h := run_eql_arr (P := Try.prog) (t := 26) (e := 24) (n := 4) (k := .u64) (k' := .u64) Try.underlying26 hi (by kernel_rfl) (by kernel_rfl) Try.underlying24 ([l0 V, l1 V, l2 V, l3 V].map fun n => ((n : Nat) : Int)) ([l0 U, l1 U, l2 U, l3 U].map fun n => ((n : Nat) : Int)) rfl rfl w
  rw [decide_eq_decide.2 (el_eq hV hU)] at h
  exact h
set_option maxRecDepth 100000 in
set_option maxHeartbeats 4000000 in
theorem run_neqE {V U : Nat} (hV : V < W4) (hU : U < W4) (w : World) : (binOp .neq 26 (.agg #[.int .u64 (l0 (V) : Int), .int .u64 (l1 (V) : Int), .int .u64 (l2 (V) : Int), .int .u64 (l3 (V) : Int)]) (.agg #[.int .u64 (l0 (U) : Int), .int .u64 (l1 (U) : Int), .int .u64 (l2 (U) : Int), .int .u64 (l3 (U) : Int)])).run Try.prog w = .ok (.bool (!decide (V = U))) w := by
  obtain ⟨info, hi⟩ := elInfo
  have h := run_neq_arr (P := Try.prog) (t := 26) (e := 24) (n := 4) (k := .u64) (k' := .u64) Try.underlying26 hi (by kernel_rfl) (by kernel_rfl) Try.underlying24 ([l0 V, l1 V, l2 V, l3 V].map fun n => ((n : Nat) : Int)) ([l0 U, l1 U, l2 U, l3 U].map fun n => ((n : Nat) : Int)) rfl rfl w
  rw [decide_eq_decide.2 (el_eq hV hU)] at h
  exact h

theorem l0_odd (V : Nat) : l0 V % 2 = V % 2 := by unfold l0; omega
theorem and1 (a : Nat) (ha : a < 18446744073709551616) : bits .and .u64 (a : Int) 1 = ((a % 2 : Nat) : Int) := by
  have h := bits_and_u64_nat a 1 ha (by omega)
  rw [Nat.and_one_is_mod] at h
  exact h

set_option maxRecDepth 100000 in
set_option maxHeartbeats 4000000 in
theorem oddE {V : Nat} (hV : V < W4) (w : World) : Calls Try.prog 18 #[.agg #[.int .u64 (l0 (V) : Int), .int .u64 (l1 (V) : Int), .int .u64 (l2 (V) : Int), .int .u64 (l3 (V) : Int)]] w fun e w' => e = .returned (.bool (decide (V % PP % 2 = 1))) ∧ Below w.heap.size w w' := by
  obtain ⟨rb, hrb⟩ : ∃ rb, rb = decide (V % PP % 2 = 1) := ⟨_, rfl⟩
  rw [← hrb]
  have C1 := Lib.hid (fun W => normE hV W)
  have hb : Hid ((bits .and .u64 (l0 (V % PP) : Int) 1 == 1) = rb) := Lib.hid (by
    rw [hrb, and1 _ (lin (V % PP)).a, l0_odd]
    by_cases h : V % PP % 2 = 1
    · rw [h]; rfl
    · rw [show V % PP % 2 = 0 by omega]; rfl)
  have hix := fun W => idx_0 (.int .u64 (l0 (V % PP) : Int)) (.int .u64 (l1 (V % PP) : Int)) (.int .u64 (l2 (V % PP) : Int)) (.int .u64 (l3 (V % PP) : Int)) W
  clear hrb hV
  go_enter Try.func18, Try.ntmps18
  go_wp2_with fail
  with_reducible refine (C1.out _).mono ?_
  rintro e w1 ⟨rfl, hb1⟩
  have B1 := Lib.hid hb1
  clear hb1
  go_wp2_with fail
  rw [hb.out]
  go_ret
  refine ⟨rfl, ?_⟩
  have b1 := B1.out
  simp only [World.size_alloc] at b1
  exact ((Below.refl w.heap.size w).alloc (Nat.le_refl _) _).trans (b1.mono (by omega))

set_option maxRecDepth 100000 in
set_option maxHeartbeats 4000000 in
theorem isE {V U : Nat} (hV : V < W4) (hU : U < W4) (w : World) : Calls Try.prog 27 #[.agg #[.int .u64 (l0 (V) : Int), .int .u64 (l1 (V) : Int), .int .u64 (l2 (V) : Int), .int .u64 (l3 (V) : Int)], .agg #[.int .u64 (l0 (U) : Int), .int .u64 (l1 (U) : Int), .int .u64 (l2 (U) : Int), .int .u64 (l3 (U) : Int)]] w fun e w' => e = .returned (.bool (decide (V % PP = U % PP))) ∧ Below w.heap.size w w' := by
  obtain ⟨rb, hrb⟩ : ∃ rb, rb = decide (V % PP = U % PP) := ⟨_, rfl⟩
  rw [← hrb]
  have C1 := Lib.hid (fun W => normE hV W)
  have C2 := Lib.hid (fun W => normE hU W)
  have heq := fun W => run_eqlE (mod_lt4 V) (mod_lt4 U) W
  rw [← hrb] at heq
  have y0 : w.heap.size < w.heap.size + 1 + 1 := by omega
  clear hrb hV hU
  go_enter Try.func27, Try.ntmps27
  go_wp2_with fail
  go_region_held3 (fun w' => w'.cell? ⟨w.heap.size, 0, none⟩ = some (.int .u64 (l0 (V) : Int)) ∧ w'.cell? ⟨w.heap.size, 1, none⟩ = some (.int .u64 (l1 (V) : Int)) ∧ w'.cell? ⟨w.heap.size, 2, none⟩ = some (.int .u64 (l2 (V) : Int)) ∧ w'.cell? ⟨w.heap.size, 3, none⟩ = some (.int .u64 (l3 (V) : Int))
     ∧ w'.cell? ⟨w.heap.size + 1, 0, none⟩ = some (.int .u64 (l0 (U) : Int)) ∧ w'.cell? ⟨w.heap.size + 1, 1, none⟩ = some (.int .u64 (l1 (U) : Int)) ∧ w'.cell? ⟨w.heap.size + 1, 2, none⟩ = some (.int .u64 (l2 (U) : Int)) ∧ w'.cell? ⟨w.heap.size + 1, 3, none⟩ = some (.int .u64 (l3 (U) : Int))) (go_simp)
    (first
      | ((with_reducible refine (C1.out _).mono ?_); rintro e' w' ⟨rfl, hb⟩; obtain ⟨hc, hf⟩ := bcell hb; (try simp only [World.size_drew] at hc hf); have zz := hb.size; (try simp only [World.size_drew] at zz); (try simp only [World.size_alloc] at zz); (first | (have zt := Nat.lt_of_lt_of_le zt zz) | (have zt := Nat.lt_of_lt_of_le zs zz) | skip); (try have zs := Nat.lt_of_succ_le zz); have y0 : w.heap.size < w'.heap.size := (by omega); have y1 : w.heap.size + 1 < w'.heap.size := (by omega); have hB0 : Below w.heap.size w w' := (by refine Below.trans ?_ (hb.mono (by first | omega | (simp only [World.size_alloc]; omega) | (simp only [World.size_drew, World.size_alloc]; omega) | (simp only [World.size_drew]; omega))); (repeat (first | (with_reducible exact Below.refl _ _) | (with_reducible exact HBE.out) | (with_reducible refine Below.drew ?_) | ((with_reducible refine Below.alloc ?_ ?_ _); rotate_left; (first | omega | (simp only [World.size_alloc]; omega) | (simp only [World.size_drew, World.size_alloc]; omega) | (simp only [World.size_drew]; omega))) | ((with_reducible refine set4_below ?_ ?_ _ _ _ _); rotate_left; omega) | ((with_reducible refine Below.setCell ?_ ?_ _); rotate_left; (show _ ≤ _); (simp only); omega)))); have HBE := Lib.hid hB0; clear hB0 hb)
      | ((with_reducible refine (C2.out _).mono ?_); rintro e' w' ⟨rfl, hb⟩; obtain ⟨hc, hf⟩ := bcell hb; (try simp only [World.size_drew] at hc hf); have zz := hb.size; (try simp only [World.size_drew] at zz); (try simp only [World.size_alloc] at zz); (first | (have zt := Nat.lt_of_lt_of_le zt zz) | (have zt := Nat.lt_of_lt_of_le zs zz) | skip); (try have zs := Nat.lt_of_succ_le zz); have y0 : w.heap.size < w'.heap.size := (by omega); have y1 : w.heap.size + 1 < w'.heap.size := (by omega); have hB0 : Below w.heap.size w w' := (by refine Below.trans ?_ (hb.mono (by first | omega | (simp only [World.size_alloc]; omega) | (simp only [World.size_drew, World.size_alloc]; omega) | (simp only [World.size_drew]; omega))); (repeat (first | (with_reducible exact Below.refl _ _) | (with_reducible exact HBE.out) | (with_reducible refine Below.drew ?_) | ((with_reducible refine Below.alloc ?_ ?_ _); rotate_left; (first | omega | (simp only [World.size_alloc]; omega) | (simp only [World.size_drew, World.size_alloc]; omega) | (simp only [World.size_drew]; omega))) | ((with_reducible refine set4_below ?_ ?_ _ _ _ _); rotate_left; omega) | ((with_reducible refine Below.setCell ?_ ?_ _); rotate_left; (show _ ≤ _); (simp only); omega)))); have HBE := Lib.hid hB0; clear hB0 hb)
      | fail)
  all_goals
    go_wp2_with fail
    go_ret
    refine ⟨rfl, ?_⟩
    (repeat (first | (with_reducible exact Below.refl _ _) | (with_reducible exact HBE.out) | (with_reducible refine Below.drew ?_) | ((with_reducible refine Below.alloc ?_ ?_ _); rotate_left; (first | omega | (simp only [World.size_alloc]; omega) | (simp only [World.size_drew, World.size_alloc]; omega) | (simp only [World.size_drew]; omega))) | ((with_reducible refine set4_below ?_ ?_ _ _ _ _); rotate_left; omega) | ((with_reducible refine Below.setCell ?_ ?_ _); rotate_left; (show _ ≤ _); (simp only); omega)))
end Go.Proofs.Ytgkglielcbgpiaa
