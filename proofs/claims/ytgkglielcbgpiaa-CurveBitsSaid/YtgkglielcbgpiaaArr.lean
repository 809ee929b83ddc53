/- Two arrays of integers, compared. -/
import Derived.Test.YtgkglielcbgpiaaLib
import Derived.ChangeKeysEq
import Derived.Laws.StructEq
namespace Go.Proofs.Ytgkglielcbgpiaa
open Go.RowKit

theorem run_items {P : Program} (w : World) (d : Nat) {e : TypeId} {k k' : IntKind} (hp : P.plainKey e = true) (hu : P.underlying e = some (.int k')) (xs ys : Array Value) (fx fy : Nat → Int) :
    ∀ (is : List Nat), (∀ i ∈ is, xs[i]? = some (.int k (fx i)) ∧ ys[i]? = some (.int k (fy i))) → (Op.eqItems (d + 1) e 1 xs ys is).run P w = .ok (is.all fun i => fx i == fy i) w
  | [], _ => by simp [Op.eqItems]
  | i :: is, h => by
    obtain ⟨h1, h2⟩ := h i (by simp)
    have ih := run_items w d hp hu xs ys fx fy is (fun j hj => h j (by simp [hj]))
    have p1 : (part e xs (i * 1)).run P w = .ok (.int k (fx i)) w := run_part_plain w hp (by rw [Nat.mul_one]; exact h1)
    have p2 : (part e ys (i * 1)).run P w = .ok (.int k (fy i)) w := run_part_plain w hp (by rw [Nat.mul_one]; exact h2)
    simp only [Op.eqItems, Sem.run_bind, p1, p2, Result.andThen_ok, run_equalIn_int w d e k k' (fx i) (fy i) hu]
    by_cases he : fx i = fy i
    · simp [he, ih]
    · simp [he]
theorem eq_of_maps {xs ys : List Int} (hl : xs.length = ys.length) : ((List.range xs.length).all fun i => xs.getD i 0 == ys.getD i 0) = decide (xs = ys) := by
  rw [Bool.eq_iff_iff]
  simp only [List.all_eq_true, List.mem_range, beq_iff_eq, decide_eq_true_eq]
  constructor
  · intro h
    refine List.ext_getElem hl fun i h1 h2 => ?_
    have := h i h1
    simpa [h1, h2] using this
  · rintro rfl i _
    rfl
theorem run_eq_arr {P : Program} (w : World) {t e : TypeId} {n : Nat} {k k' : IntKind} {info : TypeInfo} (ht : P.underlying t = some (.array n e)) (hi : P.info? e = some info) (hc : P.cellsOf e = 1) (hp : P.plainKey e = true) (hu : P.underlying e = some (.int k'))
    (xs ys : List Int) (hx : xs.length = n) (hy : ys.length = n) (d : Nat) :
    (Op.equalIn (d + 2) t (.agg (xs.map (Value.int k)).toArray) (.agg (ys.map (Value.int k)).toArray)).run P w = .ok (decide (xs = ys)) w := by
  rw [run_equalIn_array w (d + 1) _ _ ht hi, hc, run_items (k := k) w d hp hu _ _ (fun i => xs.getD i 0) (fun i => ys.getD i 0)]
  · subst hx
    rw [eq_of_maps hy.symm]
  · intro i hi
    have hi' : i < n := by simpa using hi
    constructor
    · simp [show i < xs.length by omega]
    · simp [show i < ys.length by omega]
/-- == and != of arrays of integers -/
theorem run_eql_arr {P : Program} {t e : TypeId} {n : Nat} {k k' : IntKind} {info : TypeInfo} (ht : P.underlying t = some (.array n e)) (hi : P.info? e = some info) (hc : P.cellsOf e = 1) (hp : P.plainKey e = true) (hu : P.underlying e = some (.int k'))
    (xs ys : List Int) (hx : xs.length = n) (hy : ys.length = n) (w : World) :
    (binOp .eql t (.agg (xs.map (Value.int k)).toArray) (.agg (ys.map (Value.int k)).toArray)).run P w = .ok (.bool (decide (xs = ys))) w := by
  rw [run_eql_struct, run_eq_arr w ht hi hc hp hu xs ys hx hy 9998]
  rfl
theorem run_neq_arr {P : Program} {t e : TypeId} {n : Nat} {k k' : IntKind} {info : TypeInfo} (ht : P.underlying t = some (.array n e)) (hi : P.info? e = some info) (hc : P.cellsOf e = 1) (hp : P.plainKey e = true) (hu : P.underlying e = some (.int k'))
    (xs ys : List Int) (hx : xs.length = n) (hy : ys.length = n) (w : World) :
    (binOp .neq t (.agg (xs.map (Value.int k)).toArray) (.agg (ys.map (Value.int k)).toArray)).run P w = .ok (.bool (!decide (xs = ys))) w := by
  rw [run_neq_struct, run_eq_arr w ht hi hc hp hu xs ys hx hy 9998]
  rfl
end Go.Proofs.Ytgkglielcbgpiaa
