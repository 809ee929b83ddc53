/- The reference's Copy. -/
import Derived.Test.YtgkglielcbgpiaaLib
namespace Go.Proofs.Ytgkglielcbgpiaa
open Go.RowKit

theorem Own.empty (w : World) (B : Nat) (hB : B ≤ w.heap.size) : Own (w.alloc (.cells #[] 5)) B (.slice (some ⟨w.heap.size, 0, none⟩) 0 0) [] :=
  World.ownsRow_made w #[] 0 hB (Nat.zero_le _) rfl

theorem copy_any {l : List UInt8} {v : Value} {w : World} {B : Nat} (hb : Bs w B v l) (hB : B ≤ w.heap.size) (hl : l.length ≤ 140737488355328) :
    Calls Try.prog 31 #[v] w fun e w' => ∃ u, e = .returned u ∧ Own w' w.heap.size u l ∧ Below w.heap.size w w' := by
  have he := Own.empty w w.heap.size (Nat.le_refl _)
  have hal : Below w.heap.size w (w.alloc (.cells #[] 5)) := (Below.refl _ _).alloc (Nat.le_refl _) _
  have hb' := hb.below hal hB
  go_enter Try.func31, Try.ntmps31
  go_wp2_with (at_builtin; refine wpList_app rfl (.tmp 3) (.tmp 4) rfl rfl he rfl hb' (by simpa using hl) (by simp) ?_)
  intro v' w' hown hg _
  have hbel := grown_below hal hg (by simp) he
  go_wp2
  go_ret
  exact ⟨_, rfl, hown, hbel⟩
end Go.Proofs.Ytgkglielcbgpiaa
