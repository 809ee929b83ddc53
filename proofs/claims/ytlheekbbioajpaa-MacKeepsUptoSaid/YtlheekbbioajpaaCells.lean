/- Stores of several cells in a row; what they turn. -/
import Derived.Test.YtlheekbbioajpaaConsts64
namespace Go.Proofs.Ytlheekbbioajpaa
open Go.RowKit

theorem setCells_mid {g : Nat} {t : TypeId} : ∀ (vs p r : List Value) (w : World), r.length = vs.length → w.heap[g]? = some (.cells (p ++ r).toArray t (0, 0)) →
    (w.setCells g p.length vs).heap[g]? = some (.cells (p ++ vs).toArray t (0, 0))
  | [], p, r, w, hl, h => by
    obtain rfl : r = [] := List.eq_nil_of_length_eq_zero hl
    exact h
  | v :: vs, p, [], w, hl, h => by simp at hl
  | v :: vs, p, x :: r, w, hl, h => by
    have h1 := heap_setCell_same w g p.length _ _ v h
    have h2 : ((p ++ x :: r).toArray.setIfInBounds p.length v) = ((p ++ [v]) ++ r).toArray := by simp
    rw [h2] at h1
    have h3 := setCells_mid vs (p ++ [v]) r _ (by simpa using hl) h1
    simpa [World.setCells] using h3
theorem setCells_whole {g : Nat} {t : TypeId} {cs : Array Value} {vs : List Value} {w : World} (h : w.heap[g]? = some (.cells cs t (0, 0))) (hl : cs.size = vs.length) :
    (w.setCells g 0 vs).heap[g]? = some (.cells vs.toArray t (0, 0)) :=
  setCells_mid vs [] cs.toList w (by simpa using hl) (by simpa using h)
theorem setCell_grown (w : World) (g i : Nat) (v : Value) : w.grownBy (w.setCell ⟨g, i, none⟩ v) (some g) :=
  ⟨rfl, rfl, rfl, by simp, fun k _ hne => Below.heap_setCell w ⟨g, i, none⟩ v k (fun e => hne (by rw [e]))⟩
theorem setCells_grown (g : Nat) : ∀ (vs : List Value) (o : Nat) (w : World), w.grownBy (w.setCells g o vs) (some g)
  | [], _, w => World.grownBy.refl w _
  | v :: vs, o, w => (setCell_grown w g o v).trans (setCells_grown g vs (o + 1) _)
theorem grew_row (w : World) (o : Obj) (cs : Array Value) : w.grownBy ((w.alloc o).setRow w.heap.size cs) none :=
  ⟨rfl, rfl, rfl, by simp, fun j hj _ => (setRow_other (w.alloc o) w.heap.size j cs (by omega)).trans (heap_alloc_old w o hj)⟩
end Go.Proofs.Ytlheekbbioajpaa
