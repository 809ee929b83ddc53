/- sha's Constants, the reference's Table. -/
import Derived.Test.YtifgigpflfdmfaaConsts
namespace Go.Proofs.Ytifgigpflfdmfaa
open Go.RowKit

def constL : List UInt32 := [0x428a2f98, 0x71374491, 0xb5c0fbcf, 0xe9b5dba5, 0x3956c25b, 0x59f111f1, 0x923f82a4, 0xab1c5ed5, 0xd807aa98, 0x12835b01, 0x243185be, 0x550c7dc3, 0x72be5d74, 0x80deb1fe, 0x9bdc06a7, 0xc19bf174, 0xe49b69c1, 0xefbe4786, 0x0fc19dc6, 0x240ca1cc, 0x2de92c6f, 0x4a7484aa, 0x5cb0a9dc, 0x76f988da, 0x983e5152, 0xa831c66d, 0xb00327c8, 0xbf597fc7, 0xc6e00bf3, 0xd5a79147, 0x06ca6351, 0x14292967, 0x27b70a85, 0x2e1b2138, 0x4d2c6dfc, 0x53380d13, 0x650a7354, 0x766a0abb, 0x81c2c92e, 0x92722c85, 0xa2bfe8a1, 0xa81a664b, 0xc24b8b70, 0xc76c51a3, 0xd192e819, 0xd6990624, 0xf40e3585, 0x106aa070, 0x19a4c116, 0x1e376c08, 0x2748774c, 0x34b0bcb5, 0x391c0cb3, 0x4ed8aa4a, 0x5b9cca4f, 0x682e6ff3, 0x748f82ee, 0x78a5636f, 0x84c87814, 0x8cc70208, 0x90befffa, 0xa4506ceb, 0xbef9a3f7, 0xc67178f2]

theorem wpList_built {P : Program} {ops : Array Oper} {rest : List Oper} {o : Oper} {a : Act} {w : World} {Q : Exit → Act → World → Prop} (hg : o.guard = none) (t : TypeId) (parts : Array (Nat × Operand)) (ho : o.op = .build t parts)
    (cs : Array Value) (hf : P.built t (parts.map fun (i, x) => (i, a.eval x)).toList = some cs) (h : wpList P ops Q rest (a.put o.dst (.agg cs)) w) : wpList P ops Q (o :: rest) a w :=
  wpList_build hg t parts ho (by rw [hf]; rfl) (by rw [hf]; exact h)

set_option maxRecDepth 8000 in
set_option maxHeartbeats 1600000 in
theorem constants_any (w : World) : Calls Try.prog 79 #[] w fun ex w' => ex = .returned (agg constL) ∧ Below w.heap.size w w' := by
  obtain ⟨cs, hcs⟩ : ∃ cs : Array Value, cs = (constL.map vw).toArray := ⟨_, rfl⟩
  have hi : Hid ((Try.prog.info? 106).map (·.size) = some cs.size) := by rw [hcs]; show _ = _; kernel_rfl
  have hone : Hid (cs.all (·.oneCell') = true) := by rw [hcs]; show _ = _; kernel_rfl
  have hsz : cs.size = 64 := by rw [hcs]; rfl
  have hbel : ∀ A, Below w.heap.size w ((w.alloc A).setRow w.heap.size cs) := fun A => ((Below.refl w.heap.size w).alloc (Nat.le_refl _) A).grown (row := some w.heap.size) ⟨rfl, rfl, rfl, by simp, fun j _ hj => setRow_other (w.alloc A) w.heap.size j _ (fun e => hj (by rw [e]))⟩ (by simp) (fun j hj => by simp only [Option.some.injEq] at hj; omega)
  have HB := Lib.hid hbel; have HC := Lib.hid hcs; have HS := Lib.hid hsz
  clear hbel hcs hsz
  have h0 : Hid ((w.alloc (.cells #[.int .u32 0, .int .u32 0, .int .u32 0, .int .u32 0, .int .u32 0, .int .u32 0, .int .u32 0, .int .u32 0, .int .u32 0, .int .u32 0, .int .u32 0, .int .u32 0, .int .u32 0, .int .u32 0, .int .u32 0, .int .u32 0, .int .u32 0, .int .u32 0, .int .u32 0, .int .u32 0, .int .u32 0, .int .u32 0, .int .u32 0, .int .u32 0, .int .u32 0, .int .u32 0, .int .u32 0, .int .u32 0, .int .u32 0, .int .u32 0, .int .u32 0, .int .u32 0, .int .u32 0, .int .u32 0, .int .u32 0, .int .u32 0, .int .u32 0, .int .u32 0, .int .u32 0, .int .u32 0, .int .u32 0, .int .u32 0, .int .u32 0, .int .u32 0, .int .u32 0, .int .u32 0, .int .u32 0, .int .u32 0, .int .u32 0, .int .u32 0, .int .u32 0, .int .u32 0, .int .u32 0, .int .u32 0, .int .u32 0, .int .u32 0, .int .u32 0, .int .u32 0, .int .u32 0, .int .u32 0, .int .u32 0, .int .u32 0, .int .u32 0, .int .u32 0] 106)).heap[w.heap.size]? = some (.cells #[.int .u32 0, .int .u32 0, .int .u32 0, .int .u32 0, .int .u32 0, .int .u32 0, .int .u32 0, .int .u32 0, .int .u32 0, .int .u32 0, .int .u32 0, .int .u32 0, .int .u32 0, .int .u32 0, .int .u32 0, .int .u32 0, .int .u32 0, .int .u32 0, .int .u32 0, .int .u32 0, .int .u32 0, .int .u32 0, .int .u32 0, .int .u32 0, .int .u32 0, .int .u32 0, .int .u32 0, .int .u32 0, .int .u32 0, .int .u32 0, .int .u32 0, .int .u32 0, .int .u32 0, .int .u32 0, .int .u32 0, .int .u32 0, .int .u32 0, .int .u32 0, .int .u32 0, .int .u32 0, .int .u32 0, .int .u32 0, .int .u32 0, .int .u32 0, .int .u32 0, .int .u32 0, .int .u32 0, .int .u32 0, .int .u32 0, .int .u32 0, .int .u32 0, .int .u32 0, .int .u32 0, .int .u32 0, .int .u32 0, .int .u32 0, .int .u32 0, .int .u32 0, .int .u32 0, .int .u32 0, .int .u32 0, .int .u32 0, .int .u32 0, .int .u32 0] 106 (0, 0))) := heap_alloc_new w _
  have hold : Hid ((#[.int .u32 0, .int .u32 0, .int .u32 0, .int .u32 0, .int .u32 0, .int .u32 0, .int .u32 0, .int .u32 0, .int .u32 0, .int .u32 0, .int .u32 0, .int .u32 0, .int .u32 0, .int .u32 0, .int .u32 0, .int .u32 0, .int .u32 0, .int .u32 0, .int .u32 0, .int .u32 0, .int .u32 0, .int .u32 0, .int .u32 0, .int .u32 0, .int .u32 0, .int .u32 0, .int .u32 0, .int .u32 0, .int .u32 0, .int .u32 0, .int .u32 0, .int .u32 0, .int .u32 0, .int .u32 0, .int .u32 0, .int .u32 0, .int .u32 0, .int .u32 0, .int .u32 0, .int .u32 0, .int .u32 0, .int .u32 0, .int .u32 0, .int .u32 0, .int .u32 0, .int .u32 0, .int .u32 0, .int .u32 0, .int .u32 0, .int .u32 0, .int .u32 0, .int .u32 0, .int .u32 0, .int .u32 0, .int .u32 0, .int .u32 0, .int .u32 0, .int .u32 0, .int .u32 0, .int .u32 0, .int .u32 0, .int .u32 0, .int .u32 0, .int .u32 0] : Array Value).size = cs.size) := by show _ = _; rw [HS.out]; rfl
  go_enter Try.func79, Try.ntmps79
  go_wp2_with (first
    | (with_reducible refine wpList_built rfl 106 _ rfl cs (by rw [HC.out]; kernel_rfl) ?_)
    | (with_reducible refine wpList_store_row rfl 106 (.tmp 0) (.tmp 1) rfl w.heap.size cs rfl rfl 106 _ h0.out hi.out hold.out hone.out ?_))
  (try simp only [Exit.inBlock, Exit.then])
  refine bodyPost_ret (results_cell_row rfl _ _ w.heap.size 106 cs (0, 0) _ rfl (setRow_heap (w.alloc _) w.heap.size _ _ _ _ h0.out) Try.underlying106 rfl hi.out) rfl ?_
  exact ⟨by rw [HC.out]; rfl, HB.out _⟩
set_option maxRecDepth 8000 in
set_option maxHeartbeats 1600000 in
theorem table_any (w : World) : Calls Try.prog 97 #[] w fun ex w' => ex = .returned (agg constL) ∧ Below w.heap.size w w' := by
  obtain ⟨cs, hcs⟩ : ∃ cs : Array Value, cs = (constL.map vw).toArray := ⟨_, rfl⟩
  have hi : Hid ((Try.prog.info? 106).map (·.size) = some cs.size) := by rw [hcs]; show _ = _; kernel_rfl
  have hone : Hid (cs.all (·.oneCell') = true) := by rw [hcs]; show _ = _; kernel_rfl
  have hsz : cs.size = 64 := by rw [hcs]; rfl
  have hbel : ∀ A, Below w.heap.size w ((w.alloc A).setRow w.heap.size cs) := fun A => ((Below.refl w.heap.size w).alloc (Nat.le_refl _) A).grown (row := some w.heap.size) ⟨rfl, rfl, rfl, by simp, fun j _ hj => setRow_other (w.alloc A) w.heap.size j _ (fun e => hj (by rw [e]))⟩ (by simp) (fun j hj => by simp only [Option.some.injEq] at hj; omega)
  have HB := Lib.hid hbel; have HC := Lib.hid hcs; have HS := Lib.hid hsz
  clear hbel hcs hsz
  have h0 : Hid ((w.alloc (.cells #[.int .u32 0, .int .u32 0, .int .u32 0, .int .u32 0, .int .u32 0, .int .u32 0, .int .u32 0, .int .u32 0, .int .u32 0, .int .u32 0, .int .u32 0, .int .u32 0, .int .u32 0, .int .u32 0, .int .u32 0, .int .u32 0, .int .u32 0, .int .u32 0, .int .u32 0, .int .u32 0, .int .u32 0, .int .u32 0, .int .u32 0, .int .u32 0, .int .u32 0, .int .u32 0, .int .u32 0, .int .u32 0, .int .u32 0, .int .u32 0, .int .u32 0, .int .u32 0, .int .u32 0, .int .u32 0, .int .u32 0, .int .u32 0, .int .u32 0, .int .u32 0, .int .u32 0, .int .u32 0, .int .u32 0, .int .u32 0, .int .u32 0, .int .u32 0, .int .u32 0, .int .u32 0, .int .u32 0, .int .u32 0, .int .u32 0, .int .u32 0, .int .u32 0, .int .u32 0, .int .u32 0, .int .u32 0, .int .u32 0, .int .u32 0, .int .u32 0, .int .u32 0, .int .u32 0, .int .u32 0, .int .u32 0, .int .u32 0, .int .u32 0, .int .u32 0] 106)).heap[w.heap.size]? = some (.cells #[.int .u32 0, .int .u32 0, .int .u32 0, .int .u32 0, .int .u32 0, .int .u32 0, .int .u32 0, .int .u32 0, .int .u32 0, .int .u32 0, .int .u32 0, .int .u32 0, .int .u32 0, .int .u32 0, .int .u32 0, .int .u32 0, .int .u32 0, .int .u32 0, .int .u32 0, .int .u32 0, .int .u32 0, .int .u32 0, .int .u32 0, .int .u32 0, .int .u32 0, .int .u32 0, .int .u32 0, .int .u32 0, .int .u32 0, .int .u32 0, .int .u32 0, .int .u32 0, .int .u32 0, .int .u32 0, .int .u32 0, .int .u32 0, .int .u32 0, .int .u32 0, .int .u32 0, .int .u32 0, .int .u32 0, .int .u32 0, .int .u32 0, .int .u32 0, .int .u32 0, .int .u32 0, .int .u32 0, .int .u32 0, .int .u32 0, .int .u32 0, .int .u32 0, .int .u32 0, .int .u32 0, .int .u32 0, .int .u32 0, .int .u32 0, .int .u32 0, .int .u32 0, .int .u32 0, .int .u32 0, .int .u32 0, .int .u32 0, .int .u32 0, .int .u32 0] 106 (0, 0))) := heap_alloc_new w _
  have hold : Hid ((#[.int .u32 0, .int .u32 0, .int .u32 0, .int .u32 0, .int .u32 0, .int .u32 0, .int .u32 0, .int .u32 0, .int .u32 0, .int .u32 0, .int .u32 0, .int .u32 0, .int .u32 0, .int .u32 0, .int .u32 0, .int .u32 0, .int .u32 0, .int .u32 0, .int .u32 0, .int .u32 0, .int .u32 0, .int .u32 0, .int .u32 0, .int .u32 0, .int .u32 0, .int .u32 0, .int .u32 0, .int .u32 0, .int .u32 0, .int .u32 0, .int .u32 0, .int .u32 0, .int .u32 0, .int .u32 0, .int .u32 0, .int .u32 0, .int .u32 0, .int .u32 0, .int .u32 0, .int .u32 0, .int .u32 0, .int .u32 0, .int .u32 0, .int .u32 0, .int .u32 0, .int .u32 0, .int .u32 0, .int .u32 0, .int .u32 0, .int .u32 0, .int .u32 0, .int .u32 0, .int .u32 0, .int .u32 0, .int .u32 0, .int .u32 0, .int .u32 0, .int .u32 0, .int .u32 0, .int .u32 0, .int .u32 0, .int .u32 0, .int .u32 0, .int .u32 0] : Array Value).size = cs.size) := by show _ = _; rw [HS.out]; rfl
  go_enter Try.func97, Try.ntmps97
  go_wp2_with (first
    | (with_reducible refine wpList_built rfl 106 _ rfl cs (by rw [HC.out]; kernel_rfl) ?_)
    | (with_reducible refine wpList_store_row rfl 106 (.tmp 0) (.tmp 1) rfl w.heap.size cs rfl rfl 106 _ h0.out hi.out hold.out hone.out ?_))
  (try simp only [Exit.inBlock, Exit.then])
  refine bodyPost_ret (results_cell_row rfl _ _ w.heap.size 106 cs (0, 0) _ rfl (setRow_heap (w.alloc _) w.heap.size _ _ _ _ h0.out) Try.underlying106 rfl hi.out) rfl ?_
  exact ⟨by rw [HC.out]; rfl, HB.out _⟩
end Go.Proofs.Ytifgigpflfdmfaa

namespace Go.Proofs.Ytifgigpflfdmfaa
open Go.RowKit

theorem setCells_mid {g : Nat} {t : TypeId} : ∀ (vs p r : List Value) (w : World), r.length = vs.length → w.heap[g]? = some (.cells (p ++ r).toArray t (0, 0)) →
    (w.setCells g p.length vs).heap[g]? = some (.cells (p ++ vs).toArray t (0, 0))
  | [], p, r, w, hl, h => by
    obtain rfl : r = [] := List.eq_nil_of_length_eq_zero hl
    exact h
  | v :: vs, p, [], w, hl, h => by simp at hl
  | v :: vs, p, x :: r, w, hl, h => by
    have h1 := heap_setCell_same w g p.length _ _ v h
    have h2 : ((p ++ x :: r).toArray.setIfInBounds p.length v) = ((p ++ [v]) ++ r).toArray := by simp
    rw [h2] at h1
    have h3 := setCells_mid vs (p ++ [v]) r _ (by simpa using hl) h1
    simpa [World.setCells] using h3
theorem setCells_whole {g : Nat} {t : TypeId} {cs : Array Value} {vs : List Value} {w : World} (h : w.heap[g]? = some (.cells cs t (0, 0))) (hl : cs.size = vs.length) :
    (w.setCells g 0 vs).heap[g]? = some (.cells vs.toArray t (0, 0)) :=
  setCells_mid vs [] cs.toList w (by simpa using hl) (by simpa using h)
theorem setCell_grown (w : World) (g i : Nat) (v : Value) : w.grownBy (w.setCell ⟨g, i, none⟩ v) (some g) :=
  ⟨rfl, rfl, rfl, by simp, fun k _ hne => Below.heap_setCell w ⟨g, i, none⟩ v k (fun e => hne (by rw [e]))⟩
theorem setCells_grown (g : Nat) : ∀ (vs : List Value) (o : Nat) (w : World), w.grownBy (w.setCells g o vs) (some g)
  | [], _, w => World.grownBy.refl w _
  | v :: vs, o, w => (setCell_grown w g o v).trans (setCells_grown g vs (o + 1) _)
theorem grew_row (w : World) (o : Obj) (cs : Array Value) : w.grownBy ((w.alloc o).setRow w.heap.size cs) none :=
  ⟨rfl, rfl, rfl, by simp, fun j hj _ => (setRow_other (w.alloc o) w.heap.size j cs (by omega)).trans (heap_alloc_old w o hj)⟩
end Go.Proofs.Ytifgigpflfdmfaa
