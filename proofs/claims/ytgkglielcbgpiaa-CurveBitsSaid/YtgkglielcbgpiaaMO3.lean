/- Words for the values of such a region; rows of cells. -/
import Derived.Test.YtgkglielcbgpiaaMO2
namespace Go.Proofs.Ytgkglielcbgpiaa
open Go.RowKit

/-- block g holds these cells and nothing else -/
def RowL (w : World) (g : Nat) (cs : List Value) (T : TypeId) : Prop := w.heap[g]? = some (.cells cs.toArray T (0, 0))
theorem RowL.lt {w : World} {g : Nat} {cs : List Value} {T : TypeId} (h : RowL w g cs T) : g < w.heap.size := (Array.getElem?_eq_some_iff.1 h).1
theorem RowL.up {w w' : World} {g : Nat} {cs : List Value} {T : TypeId} (h : RowL w g cs T) {B : Nat} (hb : Below B w w') (hB : g < B) : RowL w' g cs T := (hb.block g hB).trans h
theorem RowL.upS {w w' : World} {g : Nat} {cs : List Value} {T : TypeId} (h : RowL w g cs T) (hb : Below w.heap.size w w') : RowL w' g cs T := (hb.block g h.lt).trans h
theorem RowL.drew {w : World} {g : Nat} {cs : List Value} {T : TypeId} (h : RowL w g cs T) : RowL w.drew g cs T := h
theorem RowL.new (w : World) (cs : List Value) (T : TypeId) : RowL (w.alloc (.cells cs.toArray T)) w.heap.size cs T := heap_alloc_new w _
theorem RowL.alloc {w : World} {g : Nat} {cs : List Value} {T : TypeId} (h : RowL w g cs T) (o : Obj) : RowL (w.alloc o) g cs T := (heap_alloc_old _ _ h.lt).trans h
theorem RowL.range {w : World} {g : Nat} {cs : List Value} {T : TypeId} (h : RowL w g cs T) (k : Nat) (ds : List Value) (e : (cs.drop k).take ds.length = ds) : w.rangeAt g k ds := fun j v hv => by
  rw [cell_of_row _ _ _ _ _ _ h]
  rw [← e, List.getElem?_take] at hv
  split at hv
  · rw [List.getElem?_drop] at hv
    simpa using hv
  · cases hv
theorem RowL.set {w : World} {g : Nat} {cs : List Value} {T : TypeId} (h : RowL w g cs T) (ds : List Value) : RowL (w.setRow g ds.toArray) g ds T := setRow_heap w g _ _ T _ h
theorem RowL.set_ne {w : World} {g k : Nat} {cs : List Value} {T : TypeId} (h : RowL w g cs T) (ds : Array Value) (hn : g ≠ k) : RowL (w.setRow k ds) g cs T := (setRow_other w k g ds hn).trans h
theorem set_below {B g : Nat} {w0 w : World} (hb : Below B w0 w) (hg : B ≤ g) (cs : Array Value) : Below B w0 (w.setRow g cs) := below_setRow hb hg cs
def IsV (u : Value) (v : Value) (_ : World) : Prop := v = u
def IsR (B : Nat) (cs : List Value) (T : TypeId) (v : Value) (w : World) : Prop := ∃ g, v = .pointer (some ⟨g, 0, none⟩) ∧ B ≤ g ∧ RowL w g cs T
def IsS (n : Nat) (cs : List Value) (T : TypeId) (v : Value) (w : World) : Prop := ∃ g, v = .slice (some ⟨g, 0, none⟩) n n ∧ RowL w g cs T
def MonoP (p : Value → World → Prop) : Prop := ∀ v w w', p v w → Below w.heap.size w w' → p v w'
def MonoL : List (Value → World → Prop) → Prop
  | [] => True
  | p :: l => MonoP p ∧ MonoL l
theorem mono_v (u : Value) : MonoP (IsV u) := fun _ _ _ h _ => h
theorem mono_r (B : Nat) (cs : List Value) (T : TypeId) : MonoP (IsR B cs T) := fun _ _ _ ⟨g, h1, h2, h3⟩ hb => ⟨g, h1, h2, h3.upS hb⟩
theorem mono_s (n : Nat) (cs : List Value) (T : TypeId) : MonoP (IsS n cs T) := fun _ _ _ ⟨g, h1, h2⟩ hb => ⟨g, h1, h2.upS hb⟩
def phi (l : List (Value → World → Prop)) (i : Nat) (v : Value) (w : World) : Prop := (l.getD i fun _ _ => True) v w
theorem phi_mono : ∀ {l : List (Value → World → Prop)}, MonoL l → ∀ i v w w', phi l i v w → Below w.heap.size w w' → phi l i v w'
  | [], _, _, _, _, _, _, _ => trivial
  | _ :: _, h, 0, v, w, w', hp, hb => h.1 v w w' hp hb
  | _ :: l, h, i + 1, v, w, w', hp, hb => phi_mono (l := l) h.2 i v w w' hp hb
end Go.Proofs.Ytgkglielcbgpiaa
