/- Two copies with room behind them. -/
import Derived.Test.YtajhpebefehciaaD2
import Derived.Test.YtajhpebefehciaaG7
namespace Go.Proofs.Ytajhpebefehciaa
open Go.RowKit

/-- two copies with room behind them, and what came in -/
structure KX (w0 : World) (gX gY : Nat) (a b : List UInt8) (w : World) : Prop where
  bel : Below w0.heap.size w0 w
  X : Own w w0.heap.size (.slice (some ⟨gX, 0, none⟩) (a.length + 40) (a.length + 40)) (fullS a)
  Y : Own w w0.heap.size (.slice (some ⟨gY, 0, none⟩) (b.length + 40) (b.length + 40)) (fullS b)
theorem KX.ltX {w0 : World} {gX gY : Nat} {a b : List UInt8} {w : World} (k : KX w0 gX gY a b w) : gX < w.heap.size := (own_lt k.X (k := gX) rfl).2
theorem KX.ltY {w0 : World} {gX gY : Nat} {a b : List UInt8} {w : World} (k : KX w0 gX gY a b w) : gY < w.heap.size := (own_lt k.Y (k := gY) rfl).2
theorem KX.below {w0 : World} {gX gY : Nat} {a b : List UInt8} {w w' : World} (k : KX w0 gX gY a b w) (hb : Below w.heap.size w w') : KX w0 gX gY a b w' :=
  ⟨k.bel.trans (hb.mono k.bel.size), k.X.below hb (Nat.le_refl _), k.Y.below hb (Nat.le_refl _)⟩
theorem KX.alloc {w0 : World} {gX gY : Nat} {a b : List UInt8} {w : World} (k : KX w0 gX gY a b w) (o : Obj) : KX w0 gX gY a b (w.alloc o) := k.below ((Below.refl _ _).alloc (Nat.le_refl _) o)
theorem KX.grown {w0 : World} {gX gY g : Nat} {a b : List UInt8} {w w' : World} (k : KX w0 gX gY a b w) (hg : w.grownBy w' (some g)) (h0 : w0.heap.size ≤ g) (hx : gX ≠ g) (hy : gY ≠ g) : KX w0 gX gY a b w' :=
  ⟨k.bel.grown hg k.bel.size (fun j hj => by simp only [Option.some.injEq] at hj; omega), k.X.kept hg (.inr (by simpa [Value.ownBlock] using hx)), k.Y.kept hg (.inr (by simpa [Value.ownBlock] using hy))⟩
theorem KX.bx {w0 : World} {gX gY : Nat} {a b : List UInt8} {w : World} (k : KX w0 gX gY a b w) : Bs w w.heap.size (.slice (some ⟨gX, 0, none⟩) a.length (a.length + 40)) a := by
  have h := (k.X.pre (n := a.length) (by rw [fullS_len]; omega)).bs
  rwa [fullS_take] at h
theorem KX.by_ {w0 : World} {gX gY : Nat} {a b : List UInt8} {w : World} (k : KX w0 gX gY a b w) : Bs w w.heap.size (.slice (some ⟨gY, 0, none⟩) b.length (b.length + 40)) b := by
  have h := (k.Y.pre (n := b.length) (by rw [fullS_len]; omega)).bs
  rwa [fullS_take] at h
end Go.Proofs.Ytajhpebefehciaa
