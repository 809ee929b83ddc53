/- Block of the reference: its beginning. -/
import Derived.Test.YthgdficgjldobaaB7
import Derived.Great.Ranges
namespace Go.Proofs.Ythgdficgjldobaa
open Go.RowKit

def expandL : List UInt8 := [101, 120, 112, 97, 110, 100, 32, 51, 50, 45, 98, 121, 116, 101, 32, 107]
theorem expand_wds : wds expandL 4 = [0x61707865, 0x3320646e, 0x79622d32, 0x6b206574] := by decide
theorem Bs.litF (w : World) (l : List UInt8) (fr : Nat × Nat) (hl : l.length ≤ maxLen) : Bs (w.alloc (.cells (l.map vb).toArray 5 fr)) (w.heap.size + 1) (.slice (some ⟨w.heap.size, 0, none⟩) l.length l.length) l :=
  ⟨_, _, rfl, Nat.le_refl _, hl, fun _ => ⟨_, 0, rfl, by omega, fun j hj => by
    rw [Nat.zero_add, cell_of_row _ _ j _ 5 fr (heap_alloc_new w _)]
    simp [vb, hj]⟩⟩
theorem OwnW.cells {w : World} {B : Nat} {v : Value} {m : List UInt32} (h : OwnW w B v m) (h0 : 0 < m.length) : ∃ g c, v = .slice (some ⟨g, 0, none⟩) m.length c ∧ B ≤ g ∧ g < w.heap.size ∧ ∀ j (hj : j < m.length), w.cell? ((⟨g, 0, none⟩ : Addr).add j) = some (vw m[j]) := by
  obtain ⟨A, c, rfl⟩ := h.shape rfl
  obtain ⟨g, e, hB, hl, _, _⟩ := h.at_ h0
  subst e
  refine ⟨g, c, rfl, hB, hl, fun j hj => ?_⟩
  obtain ⟨g', e', _, _, hc, _⟩ := h.at_ hj
  simp only [Option.some.injEq, Addr.mk.injEq] at e'
  rw [add_none, Nat.zero_add, e'.1, hc, gw_at hj]
  rfl
end Go.Proofs.Ythgdficgjldobaa
