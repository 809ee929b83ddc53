/- FieldLaws, walked. -/
import Derived.Test.YtgkglielcbgpiaaFL1
import Derived.Deep.Cut
namespace Go.Proofs.Ytgkglielcbgpiaa
open Go.RowKit

set_option maxRecDepth 100000
theorem undFo : Try.prog.underlying 35 = some (.array 4 24) := by kernel_rfl
theorem bsEl3 (A B C : Nat) (W : World) : (Instr.buildSlice 86 3 #[(0, .agg #[.int .u64 (l0 (A) : Int), .int .u64 (l1 (A) : Int), .int .u64 (l2 (A) : Int), .int .u64 (l3 (A) : Int)]), (1, .agg #[.int .u64 (l0 (B) : Int), .int .u64 (l1 (B) : Int), .int .u64 (l2 (B) : Int), .int .u64 (l3 (B) : Int)]), (2, .agg #[.int .u64 (l0 (C) : Int), .int .u64 (l1 (C) : Int), .int .u64 (l2 (C) : Int), .int .u64 (l3 (C) : Int)])]).run Try.prog W = .ok (.slice (some ⟨W.heap.size, 0, none⟩) 3 3) (W.alloc (.cells ([.int .u64 (l0 (A) : Int), .int .u64 (l1 (A) : Int), .int .u64 (l2 (A) : Int), .int .u64 (l3 (A) : Int), .int .u64 (l0 (B) : Int), .int .u64 (l1 (B) : Int), .int .u64 (l2 (B) : Int), .int .u64 (l3 (B) : Int), .int .u64 (l0 (C) : Int), .int .u64 (l1 (C) : Int), .int .u64 (l2 (C) : Int), .int .u64 (l3 (C) : Int)] : List Value).toArray 26)) := by kernel_rfl
theorem es_three {W : World} {g A B C : Nat} (hA : A < W4) (hB : B < W4) (hC : C < W4) (h : RowL W g [.int .u64 (l0 (A) : Int), .int .u64 (l1 (A) : Int), .int .u64 (l2 (A) : Int), .int .u64 (l3 (A) : Int), .int .u64 (l0 (B) : Int), .int .u64 (l1 (B) : Int), .int .u64 (l2 (B) : Int), .int .u64 (l3 (B) : Int), .int .u64 (l0 (C) : Int), .int .u64 (l1 (C) : Int), .int .u64 (l2 (C) : Int), .int .u64 (l3 (C) : Int)] 26) : Es W W.heap.size (.slice (some ⟨g, 0, none⟩) 3 3) [A, B, C] := by
  refine ⟨_, _, rfl, Nat.le_refl 3, by decide, fun _ => ⟨g, 0, rfl, h.lt, fun j hj => ?_⟩⟩
  have hl : ∀ V i, i < 4 → (([.int .u64 (l0 (V) : Int), .int .u64 (l1 (V) : Int), .int .u64 (l2 (V) : Int), .int .u64 (l3 (V) : Int)] : List Value)[i]?) = some (.int .u64 (limb V i : Int)) := fun V i hi => by
    obtain ⟨a0, a1, a2, a3⟩ := limbs_of V
    rcases (by omega : i = 0 ∨ i = 1 ∨ i = 2 ∨ i = 3) with rfl | rfl | rfl | rfl
    · rw [a0]; rfl
    · rw [a1]; rfl
    · rw [a2]; rfl
    · rw [a3]; rfl
  rcases (by simp at hj; omega : j = 0 ∨ j = 1 ∨ j = 2) with rfl | rfl | rfl
  · refine ⟨hA, fun i hi => ?_⟩
    rw [cell_of_row W g _ _ _ _ h]
    have h1 := hl A i hi
    rcases (by omega : i = 0 ∨ i = 1 ∨ i = 2 ∨ i = 3) with rfl | rfl | rfl | rfl <;> exact h1
  · refine ⟨hB, fun i hi => ?_⟩
    rw [cell_of_row W g _ _ _ _ h]
    have h1 := hl B i hi
    rcases (by omega : i = 0 ∨ i = 1 ∨ i = 2 ∨ i = 3) with rfl | rfl | rfl | rfl <;> exact h1
  · refine ⟨hC, fun i hi => ?_⟩
    rw [cell_of_row W g _ _ _ _ h]
    have h1 := hl C i hi
    rcases (by omega : i = 0 ∨ i = 1 ∨ i = 2 ∨ i = 3) with rfl | rfl | rfl | rfl <;> exact h1
theorem sumK2 {A B V : Nat} {W : World} {g : Nat} (hA : A < W4) (hB : B < W4) (e : V = sumP [A, B]) (h : RowL W g [.int .u64 (l0 (A) : Int), .int .u64 (l1 (A) : Int), .int .u64 (l2 (A) : Int), .int .u64 (l3 (A) : Int), .int .u64 (l0 (B) : Int), .int .u64 (l1 (B) : Int), .int .u64 (l2 (B) : Int), .int .u64 (l3 (B) : Int)] 26) : Calls Try.prog 21 #[.slice (some ⟨g, 0, none⟩) 2 2] W fun e w' => e = .returned (.agg #[.int .u64 (l0 (V) : Int), .int .u64 (l1 (V) : Int), .int .u64 (l2 (V) : Int), .int .u64 (l3 (V) : Int)]) ∧ Below W.heap.size W w' := sumK hA hB e h
theorem prodK2 {A B V : Nat} {W : World} {g : Nat} (hA : A < W4) (hB : B < W4) (e : V = prodP [A, B]) (h : RowL W g [.int .u64 (l0 (A) : Int), .int .u64 (l1 (A) : Int), .int .u64 (l2 (A) : Int), .int .u64 (l3 (A) : Int), .int .u64 (l0 (B) : Int), .int .u64 (l1 (B) : Int), .int .u64 (l2 (B) : Int), .int .u64 (l3 (B) : Int)] 26) : Calls Try.prog 22 #[.slice (some ⟨g, 0, none⟩) 2 2] W fun e w' => e = .returned (.agg #[.int .u64 (l0 (V) : Int), .int .u64 (l1 (V) : Int), .int .u64 (l2 (V) : Int), .int .u64 (l3 (V) : Int)]) ∧ Below W.heap.size W w' := prodK hA hB e h
theorem sumK3 {A B C V : Nat} {W : World} {g : Nat} (hA : A < W4) (hB : B < W4) (hC : C < W4) (e : V = sumP [A, B, C]) (h : RowL W g [.int .u64 (l0 (A) : Int), .int .u64 (l1 (A) : Int), .int .u64 (l2 (A) : Int), .int .u64 (l3 (A) : Int), .int .u64 (l0 (B) : Int), .int .u64 (l1 (B) : Int), .int .u64 (l2 (B) : Int), .int .u64 (l3 (B) : Int), .int .u64 (l0 (C) : Int), .int .u64 (l1 (C) : Int), .int .u64 (l2 (C) : Int), .int .u64 (l3 (C) : Int)] 26) : Calls Try.prog 21 #[.slice (some ⟨g, 0, none⟩) 3 3] W fun e w' => e = .returned (.agg #[.int .u64 (l0 (V) : Int), .int .u64 (l1 (V) : Int), .int .u64 (l2 (V) : Int), .int .u64 (l3 (V) : Int)]) ∧ Below W.heap.size W w' := by subst e; exact sumE (es_three hA hB hC h)
theorem prodK3 {A B C V : Nat} {W : World} {g : Nat} (hA : A < W4) (hB : B < W4) (hC : C < W4) (e : V = prodP [A, B, C]) (h : RowL W g [.int .u64 (l0 (A) : Int), .int .u64 (l1 (A) : Int), .int .u64 (l2 (A) : Int), .int .u64 (l3 (A) : Int), .int .u64 (l0 (B) : Int), .int .u64 (l1 (B) : Int), .int .u64 (l2 (B) : Int), .int .u64 (l3 (B) : Int), .int .u64 (l0 (C) : Int), .int .u64 (l1 (C) : Int), .int .u64 (l2 (C) : Int), .int .u64 (l3 (C) : Int)] 26) : Calls Try.prog 22 #[.slice (some ⟨g, 0, none⟩) 3 3] W fun e w' => e = .returned (.agg #[.int .u64 (l0 (V) : Int), .int .u64 (l1 (V) : Int), .int .u64 (l2 (V) : Int), .int .u64 (l3 (V) : Int)]) ∧ Below W.heap.size W w' := by subst e; exact prodE (es_three hA hB hC h)
theorem normK {A V : Nat} {W : World} (hA : A < W4) (e : V = A % PP) : Calls Try.prog 24 #[.agg #[.int .u64 (l0 (A) : Int), .int .u64 (l1 (A) : Int), .int .u64 (l2 (A) : Int), .int .u64 (l3 (A) : Int)]] W fun e w' => e = .returned (.agg #[.int .u64 (l0 (V) : Int), .int .u64 (l1 (V) : Int), .int .u64 (l2 (V) : Int), .int .u64 (l3 (V) : Int)]) ∧ Below W.heap.size W w' := by subst e; exact normE hA W
theorem invK {A V : Nat} {W : World} (hA : A < W4) (e : V = invP A) : Calls Try.prog 26 #[.agg #[.int .u64 (l0 (A) : Int), .int .u64 (l1 (A) : Int), .int .u64 (l2 (A) : Int), .int .u64 (l3 (A) : Int)]] W fun e w' => e = .returned (.agg #[.int .u64 (l0 (V) : Int), .int .u64 (l1 (V) : Int), .int .u64 (l2 (V) : Int), .int .u64 (l3 (V) : Int)]) ∧ Below W.heap.size W w' := by subst e; exact invE hA W
theorem ofOne {V : Nat} (e : V = 1) (W : World) : Calls Try.prog 12 #[.int .u64 1] W fun e w' => e = .returned (.agg #[.int .u64 (l0 (V) : Int), .int .u64 (l1 (V) : Int), .int .u64 (l2 (V) : Int), .int .u64 (l3 (V) : Int)]) ∧ Below W.heap.size W w' := by subst e; exact of1 W
theorem powK {A V : Nat} {l : List UInt8} {v : Value} {W : World} (hA : A < W4) (hb : Bs W W.heap.size v l) (e : V = A ^ numL l % PP) : Calls Try.prog 28 #[.agg #[.int .u64 (l0 (A) : Int), .int .u64 (l1 (A) : Int), .int .u64 (l2 (A) : Int), .int .u64 (l3 (A) : Int)], v] W fun e w' => e = .returned (.agg #[.int .u64 (l0 (V) : Int), .int .u64 (l1 (V) : Int), .int .u64 (l2 (V) : Int), .int .u64 (l3 (V) : Int)]) ∧ Below W.heap.size W w' := by subst e; exact powE hA hb
theorem guardEl (op : BinOp) (x y : Operand) (c d : Array Value) (W : World) : (eqGuard op 26 x y (.agg c) (.agg d)).run Try.prog W = .ok () W := by
  cases op <;> kernel_rfl
theorem neqSame {x y : Operand} (V : Nat) (h : V < W4) (W : World) : (do eqGuard .neq 26 x y (.agg #[.int .u64 (l0 (V) : Int), .int .u64 (l1 (V) : Int), .int .u64 (l2 (V) : Int), .int .u64 (l3 (V) : Int)]) (.agg #[.int .u64 (l0 (V) : Int), .int .u64 (l1 (V) : Int), .int .u64 (l2 (V) : Int), .int .u64 (l3 (V) : Int)]); binOp .neq 26 (.agg #[.int .u64 (l0 (V) : Int), .int .u64 (l1 (V) : Int), .int .u64 (l2 (V) : Int), .int .u64 (l3 (V) : Int)]) (.agg #[.int .u64 (l0 (V) : Int), .int .u64 (l1 (V) : Int), .int .u64 (l2 (V) : Int), .int .u64 (l3 (V) : Int)]) : Sem Value).run Try.prog W = .ok (.bool false) W := by
  have h := run_neqE h h W
  rw [decide_eq_true rfl] at h
  rw [Sem.run_bind, guardEl, Result.andThen_ok]
  exact h
theorem eqlSame {x y : Operand} (V : Nat) (h : V < W4) (W : World) : (do eqGuard .eql 26 x y (.agg #[.int .u64 (l0 (V) : Int), .int .u64 (l1 (V) : Int), .int .u64 (l2 (V) : Int), .int .u64 (l3 (V) : Int)]) (.agg #[.int .u64 (l0 (V) : Int), .int .u64 (l1 (V) : Int), .int .u64 (l2 (V) : Int), .int .u64 (l3 (V) : Int)]); binOp .eql 26 (.agg #[.int .u64 (l0 (V) : Int), .int .u64 (l1 (V) : Int), .int .u64 (l2 (V) : Int), .int .u64 (l3 (V) : Int)]) (.agg #[.int .u64 (l0 (V) : Int), .int .u64 (l1 (V) : Int), .int .u64 (l2 (V) : Int), .int .u64 (l3 (V) : Int)]) : Sem Value).run Try.prog W = .ok (.bool true) W := by
  have h := run_eqlE h h W
  rw [decide_eq_true rfl] at h
  rw [Sem.run_bind, guardEl, Result.andThen_ok]
  exact h
end Go.Proofs.Ytgkglielcbgpiaa
