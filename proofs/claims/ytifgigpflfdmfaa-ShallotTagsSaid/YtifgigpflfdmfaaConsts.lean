/- sha's Start and Constants. -/
import Derived.Test.YtifgigpflfdmfaaSched
namespace Go.Proofs.Ytifgigpflfdmfaa
open Go.RowKit

def startL : List UInt32 := [0x6a09e667, 0xbb67ae85, 0x3c6ef372, 0xa54ff53a, 0x510e527f, 0x9b05688c, 0x1f83d9ab, 0x5be0cd19]

set_option maxRecDepth 4000 in
set_option maxHeartbeats 1600000 in
theorem start_any (w : World) : Calls Try.prog 77 #[] w fun ex w' => ex = .returned (agg startL) ∧ Below w.heap.size w w' := by
  have hbel : ∀ A, Below w.heap.size w (w.alloc A) := fun A => (Below.refl _ _).alloc (Nat.le_refl _) A
  have HB := Lib.hid hbel
  clear hbel
  go_enter Try.func77, Try.ntmps77
  go_wp2
  (try simp only [Exit.inBlock, Exit.then])
  refine bodyPost_ret (results_cell_row rfl _ _ w.heap.size 36 _ (0, 0) _ rfl (heap_alloc_new w _) u32arr rfl (by kernel_rfl)) rfl ?_
  exact ⟨rfl, HB.out _⟩
theorem first_any (w : World) : Calls Try.prog 86 #[] w fun ex w' => ex = .returned (agg startL) ∧ Below w.heap.size w w' := by
  have hbel : ∀ A, Below w.heap.size w (w.alloc A) := fun A => (Below.refl _ _).alloc (Nat.le_refl _) A
  have HB := Lib.hid hbel
  clear hbel
  go_enter Try.func86, Try.ntmps86
  go_wp2
  (try simp only [Exit.inBlock, Exit.then])
  refine bodyPost_ret (results_cell_row rfl _ _ w.heap.size 36 _ (0, 0) _ rfl (heap_alloc_new w _) u32arr rfl (by kernel_rfl)) rfl ?_
  exact ⟨rfl, HB.out _⟩
end Go.Proofs.Ytifgigpflfdmfaa
