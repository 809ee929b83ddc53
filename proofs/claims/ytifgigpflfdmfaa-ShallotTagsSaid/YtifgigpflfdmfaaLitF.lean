/- Bytes of a constant. -/
import Derived.Test.YtifgigpflfdmfaaLib
import Derived.Lib.SlBytesConst
namespace Go.Proofs.Ytifgigpflfdmfaa
open Go.RowKit

theorem Bs.litF (w : World) (l : List UInt8) (fr : Nat × Nat) (hl : l.length ≤ maxLen) : Bs (w.alloc (.cells (l.map vb).toArray 5 fr)) (w.heap.size + 1) (.slice (some ⟨w.heap.size, 0, none⟩) l.length l.length) l :=
  ⟨_, _, rfl, Nat.le_refl _, hl, fun _ => ⟨_, 0, rfl, by omega, fun j hj => by
    rw [Nat.zero_add, cell_of_row _ _ j _ 5 fr (heap_alloc_new w _)]
    simp [vb, hj]⟩⟩
end Go.Proofs.Ytifgigpflfdmfaa
