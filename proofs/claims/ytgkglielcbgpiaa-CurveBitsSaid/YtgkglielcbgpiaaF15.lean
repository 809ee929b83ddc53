/- field's Value. -/
import Derived.Test.YtgkglielcbgpiaaF14
namespace Go.Proofs.Ytgkglielcbgpiaa
open Go.RowKit

theorem es_two {W : World} {g A B : Nat} (hA : A < W4) (hB : B < W4) (h : W.heap[g]? = some (.cells #[.int .u64 (l0 (A) : Int), .int .u64 (l1 (A) : Int), .int .u64 (l2 (A) : Int), .int .u64 (l3 (A) : Int), .int .u64 (l0 (B) : Int), .int .u64 (l1 (B) : Int), .int .u64 (l2 (B) : Int), .int .u64 (l3 (B) : Int)] 26 (0, 0))) :
    Es W W.heap.size (.slice (some ⟨g, 0, none⟩) 2 2) [A, B] := by
  refine ⟨_, _, rfl, Nat.le_refl 2, by decide, fun _ => ⟨g, 0, rfl, (Array.getElem?_eq_some_iff.1 h).1, fun j hj => ?_⟩⟩
  obtain ⟨a0, a1, a2, a3⟩ := limbs_of A
  obtain ⟨b0, b1, b2, b3⟩ := limbs_of B
  rcases (by simp at hj; omega : j = 0 ∨ j = 1) with rfl | rfl
  · refine ⟨hA, fun i hi => ?_⟩
    rw [cell_of_row W g _ _ _ _ h]
    rcases (by omega : i = 0 ∨ i = 1 ∨ i = 2 ∨ i = 3) with rfl | rfl | rfl | rfl
    · show _ = some (Value.int .u64 (limb A 0 : Int)); rw [a0]; rfl
    · show _ = some (Value.int .u64 (limb A 1 : Int)); rw [a1]; rfl
    · show _ = some (Value.int .u64 (limb A 2 : Int)); rw [a2]; rfl
    · show _ = some (Value.int .u64 (limb A 3 : Int)); rw [a3]; rfl
  · refine ⟨hB, fun i hi => ?_⟩
    rw [cell_of_row W g _ _ _ _ h]
    rcases (by omega : i = 0 ∨ i = 1 ∨ i = 2 ∨ i = 3) with rfl | rfl | rfl | rfl
    · show _ = some (Value.int .u64 (limb B 0 : Int)); rw [b0]; rfl
    · show _ = some (Value.int .u64 (limb B 1 : Int)); rw [b1]; rfl
    · show _ = some (Value.int .u64 (limb B 2 : Int)); rw [b2]; rfl
    · show _ = some (Value.int .u64 (limb B 3 : Int)); rw [b3]; rfl
theorem invP_lt (V : Nat) : invP V < W4 := mod_lt4 _

set_option maxRecDepth 100000 in
set_option maxHeartbeats 4000000 in
theorem valueE {A B : Nat} (hA : A < W4) (hB : B < W4) (w : World) : Calls Try.prog 13 #[.agg #[.int .u64 (l0 (A) : Int), .int .u64 (l1 (A) : Int), .int .u64 (l2 (A) : Int), .int .u64 (l3 (A) : Int), .int .u64 (l0 (B) : Int), .int .u64 (l1 (B) : Int), .int .u64 (l2 (B) : Int), .int .u64 (l3 (B) : Int)]] w fun e w' => e = .returned (.agg #[.int .u64 (l0 (prodP [A, invP B]) : Int), .int .u64 (l1 (prodP [A, invP B]) : Int), .int .u64 (l2 (prodP [A, invP B]) : Int), .int .u64 (l3 (prodP [A, invP B]) : Int)]) ∧ Below w.heap.size w w' := by
  have CI := Lib.hid (fun W => invE hB W)
  have CP : Hid (∀ (W : World), Calls Try.prog 22 #[.slice (some ⟨W.heap.size, 0, none⟩) 2 2] (W.alloc (.cells #[.int .u64 (l0 (A) : Int), .int .u64 (l1 (A) : Int), .int .u64 (l2 (A) : Int), .int .u64 (l3 (A) : Int), .int .u64 (l0 (invP B) : Int), .int .u64 (l1 (invP B) : Int), .int .u64 (l2 (invP B) : Int), .int .u64 (l3 (invP B) : Int)] 26)) fun e w' => e = .returned (.agg #[.int .u64 (l0 (prodP [A, invP B]) : Int), .int .u64 (l1 (prodP [A, invP B]) : Int), .int .u64 (l2 (prodP [A, invP B]) : Int), .int .u64 (l3 (prodP [A, invP B]) : Int)]) ∧ Below (W.alloc (.cells #[.int .u64 (l0 (A) : Int), .int .u64 (l1 (A) : Int), .int .u64 (l2 (A) : Int), .int .u64 (l3 (A) : Int), .int .u64 (l0 (invP B) : Int), .int .u64 (l1 (invP B) : Int), .int .u64 (l2 (invP B) : Int), .int .u64 (l3 (invP B) : Int)] 26)).heap.size (W.alloc (.cells #[.int .u64 (l0 (A) : Int), .int .u64 (l1 (A) : Int), .int .u64 (l2 (A) : Int), .int .u64 (l3 (A) : Int), .int .u64 (l0 (invP B) : Int), .int .u64 (l1 (invP B) : Int), .int .u64 (l2 (invP B) : Int), .int .u64 (l3 (invP B) : Int)] 26)) w') := Lib.hid (fun W => prodE (es_two hA (invP_lt B) (heap_alloc_new W _)))
  have HA := Lib.hid hA
  clear hA hB
  go_enter Try.func13, Try.ntmps13
  go_wp2_with fail
  go_region_held3 (fun w' => w'.cell? ⟨w.heap.size, 0, none⟩ = some (.int .u64 (l0 (A) : Int)) ∧ w'.cell? ⟨w.heap.size, 1, none⟩ = some (.int .u64 (l1 (A) : Int)) ∧ w'.cell? ⟨w.heap.size, 2, none⟩ = some (.int .u64 (l2 (A) : Int)) ∧ w'.cell? ⟨w.heap.size, 3, none⟩ = some (.int .u64 (l3 (A) : Int))
     ∧ w'.cell? ⟨w.heap.size, 4, none⟩ = some (.int .u64 (l0 (B) : Int)) ∧ w'.cell? ⟨w.heap.size, 5, none⟩ = some (.int .u64 (l1 (B) : Int)) ∧ w'.cell? ⟨w.heap.size, 6, none⟩ = some (.int .u64 (l2 (B) : Int)) ∧ w'.cell? ⟨w.heap.size, 7, none⟩ = some (.int .u64 (l3 (B) : Int))) (go_simp)
    (first
      | ((with_reducible refine (CI.out _).mono ?_); rintro e' w' ⟨rfl, hb⟩; obtain ⟨hc, hf⟩ := bcell hb; (try simp only [World.size_drew] at hc hf); have zz := hb.size; (try simp only [World.size_drew] at zz); (try simp only [World.size_alloc] at zz); (first | (have zt := Nat.lt_of_lt_of_le zt zz) | (have zt := Nat.lt_of_lt_of_le zs zz) | skip); (try have zs := Nat.lt_of_succ_le zz); have y0 : w.heap.size < w'.heap.size := (by omega); have y1 : w.heap.size + 1 < w'.heap.size := (by omega); have hB0 : Below w.heap.size w w' := (by refine Below.trans ?_ (hb.mono (by first | omega | (simp only [World.size_alloc]; omega) | (simp only [World.size_drew, World.size_alloc]; omega) | (simp only [World.size_drew]; omega))); (repeat (first | (with_reducible exact Below.refl _ _) | (with_reducible exact HBE.out) | (with_reducible refine Below.drew ?_) | ((with_reducible refine Below.alloc ?_ ?_ _); rotate_left; (first | omega | (simp only [World.size_alloc]; omega) | (simp only [World.size_drew, World.size_alloc]; omega) | (simp only [World.size_drew]; omega))) | ((with_reducible refine set4_below ?_ ?_ _ _ _ _); rotate_left; omega) | ((with_reducible refine Below.setCell ?_ ?_ _); rotate_left; (show _ ≤ _); (simp only); omega)))); have HBE := Lib.hid hB0; clear hB0 hb)
      | ((with_reducible refine (CP.out _).mono ?_); rintro e' w' ⟨rfl, hb⟩; obtain ⟨hc, hf⟩ := bcell hb; (try simp only [World.size_drew] at hc hf); have zz := hb.size; (try simp only [World.size_drew] at zz); (try simp only [World.size_alloc] at zz); (first | (have zt := Nat.lt_of_lt_of_le zt zz) | (have zt := Nat.lt_of_lt_of_le zs zz) | skip); (try have zs := Nat.lt_of_succ_le zz); have y0 : w.heap.size < w'.heap.size := (by omega); have y1 : w.heap.size + 1 < w'.heap.size := (by omega); have hB0 : Below w.heap.size w w' := (by refine Below.trans ?_ (hb.mono (by first | omega | (simp only [World.size_alloc]; omega) | (simp only [World.size_drew, World.size_alloc]; omega) | (simp only [World.size_drew]; omega))); (repeat (first | (with_reducible exact Below.refl _ _) | (with_reducible exact HBE.out) | (with_reducible refine Below.drew ?_) | ((with_reducible refine Below.alloc ?_ ?_ _); rotate_left; (first | omega | (simp only [World.size_alloc]; omega) | (simp only [World.size_drew, World.size_alloc]; omega) | (simp only [World.size_drew]; omega))) | ((with_reducible refine set4_below ?_ ?_ _ _ _ _); rotate_left; omega) | ((with_reducible refine Below.setCell ?_ ?_ _); rotate_left; (show _ ≤ _); (simp only); omega)))); have HBE := Lib.hid hB0; clear hB0 hb)
      | fail)
  all_goals
    go_wp2_with fail
    refine bodyPost_ret (v := .agg #[.int .u64 (l0 (prodP [A, invP B]) : Int), .int .u64 (l1 (prodP [A, invP B]) : Int), .int .u64 (l2 (prodP [A, invP B]) : Int), .int .u64 (l3 (prodP [A, invP B]) : Int)]) (by simp [results, Try.results13, go_sem, *]) rfl ⟨rfl, ?_⟩
    (repeat (first | (with_reducible exact Below.refl _ _) | (with_reducible exact HBE.out) | (with_reducible refine Below.drew ?_) | ((with_reducible refine Below.alloc ?_ ?_ _); rotate_left; (first | omega | (simp only [World.size_alloc]; omega) | (simp only [World.size_drew, World.size_alloc]; omega) | (simp only [World.size_drew]; omega))) | ((with_reducible refine set4_below ?_ ?_ _ _ _ _); rotate_left; omega) | ((with_reducible refine Below.setCell ?_ ?_ _); rotate_left; (show _ ≤ _); (simp only); omega)))
end Go.Proofs.Ytgkglielcbgpiaa
