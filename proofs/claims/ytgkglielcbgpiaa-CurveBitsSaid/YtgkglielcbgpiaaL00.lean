/- Worlds, walked back. -/
import Derived.Test.YtgkglielcbgpiaaF15
namespace Go.Proofs.Ytgkglielcbgpiaa
open Go.RowKit

/-- the last call's word on memory -/
structure LastB (w w' : World) : Prop where
  out : Below w.heap.size w w'
theorem E8z.last {w w' : World} {g : Nat} (h : E8z w g) (hb : LastB w w') (hg : g < w.heap.size) : E8z w' g := h.below hb.out hg
theorem E8.last {w w' : World} {g V : Nat} (h : E8 w g V) (hb : LastB w w') (hg : g < w.heap.size) : E8 w' g V := h.below hb.out hg
theorem E8z.alloc {w : World} {g : Nat} (h : E8z w g) (o : Obj) (hg : g < w.heap.size) : E8z (w.alloc o) g := h.below ((Below.refl _ _).alloc (Nat.le_refl _) o) hg
theorem E8.alloc {w : World} {g V : Nat} (h : E8 w g V) (o : Obj) (hg : g < w.heap.size) : E8 (w.alloc o) g V := h.below ((Below.refl _ _).alloc (Nat.le_refl _) o) hg
theorem E8.drew {w : World} {g V : Nat} (e : E8 w g V) : E8 w.drew g V := ⟨e.c0, e.c1, e.c2, e.c3, e.c4, e.c5, e.c6, e.c7, e.f0, e.f1, e.f2, e.f3, e.f4, e.f5, e.f6, e.f7⟩
theorem Ec.newT (w : World) (T : TypeId) (V : Nat) : Ec (w.alloc (.cells #[.int .u64 (l0 (V) : Int), .int .u64 (l1 (V) : Int), .int .u64 (l2 (V) : Int), .int .u64 (l3 (V) : Int)] T)) w.heap.size V := by
  constructor <;> simp [go_sem]
theorem e8_new2 (w : World) (o : Obj) (V : Nat) : E8 ((w.alloc o).alloc (.cells #[.int .u32 (dig (V) 0 : Int), .int .u32 (dig (V) 1 : Int), .int .u32 (dig (V) 2 : Int), .int .u32 (dig (V) 3 : Int), .int .u32 (dig (V) 4 : Int), .int .u32 (dig (V) 5 : Int), .int .u32 (dig (V) 6 : Int), .int .u32 (dig (V) 7 : Int)] 34)) (w.heap.size + 1) V := by
  have h := E8.new (w.alloc o) V
  simpa using h
theorem e8z_new2 (w : World) (o : Obj) : E8z ((w.alloc o).alloc (.cells #[.int .u32 0, .int .u32 0, .int .u32 0, .int .u32 0, .int .u32 0, .int .u32 0, .int .u32 0, .int .u32 0] 34)) (w.heap.size + 1) := by
  have h := E8z.new (w.alloc o)
  simpa using h
theorem e8_newAt (w : World) (V : Nat) {g : Nat} (hg : g = w.heap.size) : E8 (w.alloc (.cells #[.int .u32 (dig (V) 0 : Int), .int .u32 (dig (V) 1 : Int), .int .u32 (dig (V) 2 : Int), .int .u32 (dig (V) 3 : Int), .int .u32 (dig (V) 4 : Int), .int .u32 (dig (V) 5 : Int), .int .u32 (dig (V) 6 : Int), .int .u32 (dig (V) 7 : Int)] 34)) g V := by
  subst hg
  exact E8.new w V
theorem ltA {x y : Nat} (h : x + 1 + 1 ≤ y) : x < y := by omega
theorem ltB {x y : Nat} (h : x + 1 + 1 ≤ y) : x + 1 < y := by omega
theorem ltC {x y : Nat} (h : x + 1 ≤ y) : x < y := by omega
theorem fromN (V : Nat) (w : World) : Calls Try.prog 16 #[.agg #[.int .u64 (l0 (V) : Int), .int .u64 (l1 (V) : Int), .int .u64 (l2 (V) : Int), .int .u64 (l3 (V) : Int)]] w fun e w' => e = .returned (.agg #[.int .u32 (dig (V) 0 : Int), .int .u32 (dig (V) 1 : Int), .int .u32 (dig (V) 2 : Int), .int .u32 (dig (V) 3 : Int), .int .u32 (dig (V) 4 : Int), .int .u32 (dig (V) 5 : Int), .int .u32 (dig (V) 6 : Int), .int .u32 (dig (V) 7 : Int)]) ∧ Below w.heap.size w w' := fromE V w
end Go.Proofs.Ytgkglielcbgpiaa
