/- One round of SHA-256, of sha. -/
import Derived.Test.YtifgigpflfdmfaaWord
namespace Go.Proofs.Ytifgigpflfdmfaa
open Go.RowKit

def sig1 (e : UInt32) : UInt32 := rotr e 6 ^^^ rotr e 11 ^^^ rotr e 25
def sig0 (a : UInt32) : UInt32 := rotr a 2 ^^^ rotr a 13 ^^^ rotr a 22
def choice (e f g : UInt32) : UInt32 := (e &&& f) ^^^ ((4294967295 ^^^ e) &&& g)
def most (a b c : UInt32) : UInt32 := (a &&& b) ^^^ (a &&& c) ^^^ (b &&& c)
/-- the eight words behind a round -/
def rndL (a b c d e f g k kw : UInt32) : List UInt32 :=
  [k + sig1 e + choice e f g + kw + (sig0 a + most a b c), a, b, c, d + (k + sig1 e + choice e f g + kw), e, f, g]
def agg (l : List UInt32) : Value := .agg (l.map vw).toArray
theorem w_max : IntKind.u32.max = ((4294967295 : UInt32).toNat : Int) := by decide
theorem w_sum6 (k X Y q S M : UInt32) : ((k.toNat : Int) + (X.toNat : Int) + (Y.toNat : Int) + (q.toNat : Int) + ((S.toNat : Int) + (M.toNat : Int))) % 4294967296 = ((k + X + Y + q + (S + M)).toNat : Int) := by
  simp only [UInt32.toNat_add]
  omega
theorem w_sum5 (d k X Y q : UInt32) : ((d.toNat : Int) + ((k.toNat : Int) + (X.toNat : Int) + (Y.toNat : Int) + (q.toNat : Int))) % 4294967296 = ((d + (k + X + Y + q)).toNat : Int) := by
  simp only [UInt32.toNat_add]
  omega
theorem u32arr : Try.prog.underlying 36 = some (.array 8 35) := Try.underlying36

set_option maxRecDepth 4000 in
set_option maxHeartbeats 1600000 in
theorem round_any (a b c d e f g k kw : UInt32) (w : World) :
    Calls Try.prog 80 #[.agg #[.int .u32 (a.toNat : Int), .int .u32 (b.toNat : Int), .int .u32 (c.toNat : Int), .int .u32 (d.toNat : Int), .int .u32 (e.toNat : Int), .int .u32 (f.toNat : Int), .int .u32 (g.toNat : Int), .int .u32 (k.toNat : Int)], .int .u32 (kw.toNat : Int)] w fun ex w' => ex = .returned (agg (rndL a b c d e f g k kw)) ∧ Below w.heap.size w w' := by
  have d0 : ((w.alloc (.cells #[.int .u32 (a.toNat : Int), .int .u32 (b.toNat : Int), .int .u32 (c.toNat : Int), .int .u32 (d.toNat : Int), .int .u32 (e.toNat : Int), .int .u32 (f.toNat : Int), .int .u32 (g.toNat : Int), .int .u32 (k.toNat : Int)] 36)).alloc (.cells #[.int .u32 0, .int .u32 0, .int .u32 0, .int .u32 0, .int .u32 0, .int .u32 0, .int .u32 0, .int .u32 0] 36)).drew.cell? ⟨w.heap.size, 0, none⟩ = some (.int .u32 (a.toNat : Int)) := by simp
  have d1 : ((w.alloc (.cells #[.int .u32 (a.toNat : Int), .int .u32 (b.toNat : Int), .int .u32 (c.toNat : Int), .int .u32 (d.toNat : Int), .int .u32 (e.toNat : Int), .int .u32 (f.toNat : Int), .int .u32 (g.toNat : Int), .int .u32 (k.toNat : Int)] 36)).alloc (.cells #[.int .u32 0, .int .u32 0, .int .u32 0, .int .u32 0, .int .u32 0, .int .u32 0, .int .u32 0, .int .u32 0] 36)).drew.cell? ⟨w.heap.size, 1, none⟩ = some (.int .u32 (b.toNat : Int)) := by simp
  have d2 : ((w.alloc (.cells #[.int .u32 (a.toNat : Int), .int .u32 (b.toNat : Int), .int .u32 (c.toNat : Int), .int .u32 (d.toNat : Int), .int .u32 (e.toNat : Int), .int .u32 (f.toNat : Int), .int .u32 (g.toNat : Int), .int .u32 (k.toNat : Int)] 36)).alloc (.cells #[.int .u32 0, .int .u32 0, .int .u32 0, .int .u32 0, .int .u32 0, .int .u32 0, .int .u32 0, .int .u32 0] 36)).drew.cell? ⟨w.heap.size, 2, none⟩ = some (.int .u32 (c.toNat : Int)) := by simp
  have d3 : ((w.alloc (.cells #[.int .u32 (a.toNat : Int), .int .u32 (b.toNat : Int), .int .u32 (c.toNat : Int), .int .u32 (d.toNat : Int), .int .u32 (e.toNat : Int), .int .u32 (f.toNat : Int), .int .u32 (g.toNat : Int), .int .u32 (k.toNat : Int)] 36)).alloc (.cells #[.int .u32 0, .int .u32 0, .int .u32 0, .int .u32 0, .int .u32 0, .int .u32 0, .int .u32 0, .int .u32 0] 36)).drew.cell? ⟨w.heap.size, 3, none⟩ = some (.int .u32 (d.toNat : Int)) := by simp
  have d4 : ((w.alloc (.cells #[.int .u32 (a.toNat : Int), .int .u32 (b.toNat : Int), .int .u32 (c.toNat : Int), .int .u32 (d.toNat : Int), .int .u32 (e.toNat : Int), .int .u32 (f.toNat : Int), .int .u32 (g.toNat : Int), .int .u32 (k.toNat : Int)] 36)).alloc (.cells #[.int .u32 0, .int .u32 0, .int .u32 0, .int .u32 0, .int .u32 0, .int .u32 0, .int .u32 0, .int .u32 0] 36)).drew.cell? ⟨w.heap.size, 4, none⟩ = some (.int .u32 (e.toNat : Int)) := by simp
  have d5 : ((w.alloc (.cells #[.int .u32 (a.toNat : Int), .int .u32 (b.toNat : Int), .int .u32 (c.toNat : Int), .int .u32 (d.toNat : Int), .int .u32 (e.toNat : Int), .int .u32 (f.toNat : Int), .int .u32 (g.toNat : Int), .int .u32 (k.toNat : Int)] 36)).alloc (.cells #[.int .u32 0, .int .u32 0, .int .u32 0, .int .u32 0, .int .u32 0, .int .u32 0, .int .u32 0, .int .u32 0] 36)).drew.cell? ⟨w.heap.size, 5, none⟩ = some (.int .u32 (f.toNat : Int)) := by simp
  have d6 : ((w.alloc (.cells #[.int .u32 (a.toNat : Int), .int .u32 (b.toNat : Int), .int .u32 (c.toNat : Int), .int .u32 (d.toNat : Int), .int .u32 (e.toNat : Int), .int .u32 (f.toNat : Int), .int .u32 (g.toNat : Int), .int .u32 (k.toNat : Int)] 36)).alloc (.cells #[.int .u32 0, .int .u32 0, .int .u32 0, .int .u32 0, .int .u32 0, .int .u32 0, .int .u32 0, .int .u32 0] 36)).drew.cell? ⟨w.heap.size, 6, none⟩ = some (.int .u32 (g.toNat : Int)) := by simp
  have d7 : ((w.alloc (.cells #[.int .u32 (a.toNat : Int), .int .u32 (b.toNat : Int), .int .u32 (c.toNat : Int), .int .u32 (d.toNat : Int), .int .u32 (e.toNat : Int), .int .u32 (f.toNat : Int), .int .u32 (g.toNat : Int), .int .u32 (k.toNat : Int)] 36)).alloc (.cells #[.int .u32 0, .int .u32 0, .int .u32 0, .int .u32 0, .int .u32 0, .int .u32 0, .int .u32 0, .int .u32 0] 36)).drew.cell? ⟨w.heap.size, 7, none⟩ = some (.int .u32 (k.toNat : Int)) := by simp
  have Le6 : Hid (∀ W, Calls Try.prog 92 #[.int .u32 (e.toNat : Int), .int .i64 6] W fun e' w' => e' = .returned (.int .u32 ((rotr e 6).toNat : Int)) ∧ w' = W) := fun W => right_l e 6 (by decide) W
  have Le11 : Hid (∀ W, Calls Try.prog 92 #[.int .u32 (e.toNat : Int), .int .i64 11] W fun e' w' => e' = .returned (.int .u32 ((rotr e 11).toNat : Int)) ∧ w' = W) := fun W => right_l e 11 (by decide) W
  have Le25 : Hid (∀ W, Calls Try.prog 92 #[.int .u32 (e.toNat : Int), .int .i64 25] W fun e' w' => e' = .returned (.int .u32 ((rotr e 25).toNat : Int)) ∧ w' = W) := fun W => right_l e 25 (by decide) W
  have La2 : Hid (∀ W, Calls Try.prog 92 #[.int .u32 (a.toNat : Int), .int .i64 2] W fun e' w' => e' = .returned (.int .u32 ((rotr a 2).toNat : Int)) ∧ w' = W) := fun W => right_l a 2 (by decide) W
  have La13 : Hid (∀ W, Calls Try.prog 92 #[.int .u32 (a.toNat : Int), .int .i64 13] W fun e' w' => e' = .returned (.int .u32 ((rotr a 13).toNat : Int)) ∧ w' = W) := fun W => right_l a 13 (by decide) W
  have La22 : Hid (∀ W, Calls Try.prog 92 #[.int .u32 (a.toNat : Int), .int .i64 22] W fun e' w' => e' = .returned (.int .u32 ((rotr a 22).toNat : Int)) ∧ w' = W) := fun W => right_l a 22 (by decide) W
  have hbel : ∀ A B, Below w.heap.size w ((w.alloc A).alloc B).drew := fun A B => (((Below.refl _ _).alloc (Nat.le_refl _) A).alloc (by simp) B).drew
  have HB := Lib.hid hbel
  clear hbel
  go_enter Try.func80, Try.ntmps80
  go_wp2_with fail
  go_region_held3 (fun w' => w'.cell? ⟨w.heap.size, 0, none⟩ = some (.int .u32 (a.toNat : Int)) ∧ w'.cell? ⟨w.heap.size, 1, none⟩ = some (.int .u32 (b.toNat : Int)) ∧ w'.cell? ⟨w.heap.size, 2, none⟩ = some (.int .u32 (c.toNat : Int)) ∧ w'.cell? ⟨w.heap.size, 3, none⟩ = some (.int .u32 (d.toNat : Int)) ∧ w'.cell? ⟨w.heap.size, 4, none⟩ = some (.int .u32 (e.toNat : Int)) ∧ w'.cell? ⟨w.heap.size, 5, none⟩ = some (.int .u32 (f.toNat : Int)) ∧ w'.cell? ⟨w.heap.size, 6, none⟩ = some (.int .u32 (g.toNat : Int)) ∧ w'.cell? ⟨w.heap.size, 7, none⟩ = some (.int .u32 (k.toNat : Int))) (exact ⟨d0, d1, d2, d3, d4, d5, d6, d7⟩) (fail)
  clear d0 d1 d2 d3 d4 d5 d6 d7
  go_wp2_with (go_at_call 92; (first | with_reducible refine (Le6.out _).mono ?_ | with_reducible refine (Le11.out _).mono ?_ | with_reducible refine (Le25.out _).mono ?_ | with_reducible refine (La2.out _).mono ?_ | with_reducible refine (La13.out _).mono ?_ | with_reducible refine (La22.out _).mono ?_); rintro e' w' ⟨rfl, rfl⟩)
  (try simp only [Exit.inBlock, Exit.then])
  refine bodyPost_ret (results_cell_row rfl _ _ (w.heap.size + 1) 36 _ (0, 0) _ rfl (heap_alloc2_new w _ _) u32arr rfl (by kernel_rfl)) rfl ?_
  refine ⟨?_, HB.out _ _⟩
  simp only [w_max, w_xor, w_and, w_sum6, w_sum5]
  rfl
end Go.Proofs.Ytifgigpflfdmfaa
