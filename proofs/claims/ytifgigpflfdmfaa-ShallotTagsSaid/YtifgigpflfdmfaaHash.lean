/- A hash that is written step by step: what its block of memory holds. -/
import Derived.Test.YtifgigpflfdmfaaRefCompress
import Derived.Test.YtifgigpflfdmfaaConsts
import Derived.Deep.RegionLaw
namespace Go.Proofs.Ytifgigpflfdmfaa
open Go.RowKit

def cellsH (st : List UInt32) (rest : List UInt8) (n : Nat) (ex : List Value) : List Value := st.map vw ++ (rest.map vb ++ (.int .i64 (n : Int) :: ex))
/-- block g is a hash (and what may lie behind it in the same struct) -/
structure Hat (w : World) (g : Nat) (T : TypeId) (ex : List Value) (st : List UInt32) (rest : List UInt8) (n : Nat) : Prop where
  row : w.heap[g]? = some (.cells (cellsH st rest n ex).toArray T (0, 0))
  ls : st.length = 8
  lr : rest.length = 64
theorem Hat.lt {w : World} {g : Nat} {T : TypeId} {ex : List Value} {st : List UInt32} {rest : List UInt8} {n : Nat} (h : Hat w g T ex st rest n) : g < w.heap.size := (Array.getElem?_eq_some_iff.1 h.row).1
theorem Hat.size {w : World} {g : Nat} {T : TypeId} {ex : List Value} {st : List UInt32} {rest : List UInt8} {n : Nat} (h : Hat w g T ex st rest n) :
    w.cell? ⟨g, 72, none⟩ = some (.int .i64 (n : Int)) ∧ w.frozen? ⟨g, 72, none⟩ = false := by
  refine ⟨?_, frozen_of_row w g 72 _ _ h.row⟩
  rw [cell_of_row w g 72 _ _ _ h.row]
  simp only [cellsH, List.getElem?_toArray]
  rw [List.getElem?_append_right (by simp [h.ls]), List.getElem?_append_right (by simp [h.ls, h.lr])]
  simp [h.ls, h.lr]
theorem Hat.word {w : World} {g : Nat} {T : TypeId} {ex : List Value} {st : List UInt32} {rest : List UInt8} {n : Nat} (h : Hat w g T ex st rest n) {j : Nat} (hj : j < 8) :
    w.cell? ⟨g, j, none⟩ = some (.int .u32 ((st.getD j 0).toNat : Int)) ∧ w.frozen? ⟨g, j, none⟩ = false := by
  refine ⟨?_, frozen_of_row w g j _ _ h.row⟩
  have hl : j < st.length := by rw [h.ls]; exact hj
  rw [cell_of_row w g j _ _ _ h.row]
  simp [cellsH, List.getElem?_append_left, hl, vw]
theorem Hat.rest {w : World} {g : Nat} {T : TypeId} {ex : List Value} {st : List UInt32} {rest : List UInt8} {n : Nat} (h : Hat w g T ex st rest n) {j : Nat} (hj : j < 64) :
    w.cell? ⟨g, 8 + j, none⟩ = some (.int .u8 ((rest.getD j 0).toNat : Int)) ∧ w.frozen? ⟨g, 8 + j, none⟩ = false := by
  refine ⟨?_, frozen_of_row w g (8 + j) _ _ h.row⟩
  have hl : j < rest.length := by rw [h.lr]; exact hj
  rw [cell_of_row w g (8 + j) _ _ _ h.row]
  simp only [cellsH, List.getElem?_toArray]
  rw [List.getElem?_append_right (by simp [h.ls]), List.getElem?_append_left (by simp [h.ls, hl])]
  simp [h.ls, hl, vb]
theorem Hat.bs {w : World} {g : Nat} {T : TypeId} {ex : List Value} {st : List UInt32} {rest : List UInt8} {n : Nat} (h : Hat w g T ex st rest n) :
    Bs w w.heap.size (.slice (some ⟨g, 8, none⟩) 64 64) rest := by
  refine ⟨some ⟨g, 8, none⟩, 64, by rw [h.lr], by rw [h.lr]; exact Nat.le_refl _, by unfold maxLen; omega, fun _ => ⟨g, 8, rfl, h.lt, fun j hj => ?_⟩⟩
  have hj' : j < 64 := by rw [← h.lr]; exact hj
  rw [(h.rest hj').1]
  simp [hj]
theorem Hat.below {w w' : World} {B g : Nat} {T : TypeId} {ex : List Value} {st : List UInt32} {rest : List UInt8} {n : Nat} (h : Hat w g T ex st rest n) (hb : Below B w w') (hB : g < B) : Hat w' g T ex st rest n :=
  ⟨(hb.block g hB).trans h.row, h.ls, h.lr⟩
theorem Hat.grown {w w' : World} {r : Option Nat} {g : Nat} {T : TypeId} {ex : List Value} {st : List UInt32} {rest : List UInt8} {n : Nat} (h : Hat w g T ex st rest n) (hb : w.grownBy w' r) (hr : r ≠ some g) : Hat w' g T ex st rest n :=
  ⟨(hb.block g h.lt (fun e => hr e.symm)).trans h.row, h.ls, h.lr⟩
theorem Hat.drew {w : World} {g : Nat} {T : TypeId} {ex : List Value} {st : List UInt32} {rest : List UInt8} {n : Nat} (h : Hat w g T ex st rest n) : Hat w.drew g T ex st rest n := ⟨h.row, h.ls, h.lr⟩
/-- the state behind the whole blocks -/
def chainL (st : List UInt32) (n : Nat) : List UInt32 := if n < 64 then startL else st
theorem chainL_len {st : List UInt32} {n : Nat} (h : st.length = 8) : (chainL st n).length = 8 := by
  unfold chainL; split
  · rfl
  · exact h
theorem words8 {l : List UInt32} (h : l.length = 8) : ∃ a b c d e f g k : UInt32, l = [a, b, c, d, e, f, g, k] := by
  match l, h with
  | [a, b, c, d, e, f, g, k], _ => exact ⟨a, b, c, d, e, f, g, k, rfl⟩
theorem one_words (m : List UInt32) : ((m.map vw).toArray).all (·.oneCell') = true := by
  rw [Array.all_eq_true_iff_forall_mem]
  intro u hu
  simp only [List.mem_toArray, List.mem_map] at hu
  obtain ⟨x, _, rfl⟩ := hu
  rfl

set_option maxRecDepth 8000 in
set_option maxHeartbeats 1600000 in
theorem chain_any {w : World} {g : Nat} {T : TypeId} {ex : List Value} {st : List UInt32} {rest : List UInt8} {n : Nat} (h : Hat w g T ex st rest n) (hn : n ≤ 1152921504606846975) :
    Calls Try.prog 65 #[.pointer (some ⟨g, 0, none⟩)] w fun e w' => e = .returned (agg (chainL st n)) ∧ Below w.heap.size w w' := by
  have hb0 : Below w.heap.size w (w.alloc (.cells #[.int .u32 0, .int .u32 0, .int .u32 0, .int .u32 0, .int .u32 0, .int .u32 0, .int .u32 0, .int .u32 0] 36)) := (Below.refl _ _).alloc (Nat.le_refl _) _
  have h0 := h.below hb0 h.lt
  have d72 := h0.size.1
  obtain ⟨cs, hcs⟩ : ∃ cs : Array Value, agg (chainL st n) = .agg cs ∧ cs = ((chainL st n).map vw).toArray := ⟨_, rfl, rfl⟩
  have hi : Hid ((Try.prog.info? 36).map (·.size) = some cs.size) := by
    have : cs.size = 8 := by rw [hcs.2]; simp [chainL_len h.ls]
    rw [this]; show _ = _; kernel_rfl
  have ho : Hid ((#[.int .u32 0, .int .u32 0, .int .u32 0, .int .u32 0, .int .u32 0, .int .u32 0, .int .u32 0, .int .u32 0] : Array Value).size = cs.size) := by
    have : cs.size = 8 := by rw [hcs.2]; simp [chainL_len h.ls]
    rw [this]; show _ = _; rfl
  have hone : Hid (cs.all (·.oneCell') = true) := by rw [hcs.2]; exact one_words _
  have HB0 := Lib.hid hb0
  have HR0 : Hid ((w.alloc (.cells #[.int .u32 0, .int .u32 0, .int .u32 0, .int .u32 0, .int .u32 0, .int .u32 0, .int .u32 0, .int .u32 0] 36)).heap[w.heap.size]? = some (.cells #[.int .u32 0, .int .u32 0, .int .u32 0, .int .u32 0, .int .u32 0, .int .u32 0, .int .u32 0, .int .u32 0] 36 (0, 0))) := heap_alloc_new w _
  by_cases hlt : n < 64
  · have cS : Hid (∀ W, Calls Try.prog 77 #[] W fun ex w' => ex = .returned (.agg cs) ∧ Below W.heap.size W w') := by
      have h := fun W => start_any W
      rw [show startL = chainL st n by rw [chainL, if_pos hlt], hcs.1] at h
      exact h
    have HCS := Lib.hid hcs.1
    have hd : decide ((n : Int) < 64) = true := by simp; omega
    clear hcs hb0
    go_enter Try.func65, Try.ntmps65
    go_wp2_with fail
    refine (cS.out _).mono ?_
    rintro e w1 ⟨rfl, hb1⟩
    have HR1 : Hid (w1.heap[w.heap.size]? = some (.cells #[.int .u32 0, .int .u32 0, .int .u32 0, .int .u32 0, .int .u32 0, .int .u32 0, .int .u32 0, .int .u32 0] 36 (0, 0))) := Lib.hid ((hb1.block _ (by simp)).trans HR0.out)
    have hbb : Below w.heap.size w w1 := HB0.out.trans (hb1.mono HB0.out.size)
    have hbe3 : Below w.heap.size w (w1.setRow w.heap.size cs) := hbb.grown (row := some w.heap.size) ⟨rfl, rfl, rfl, by simp, fun j _ hj => setRow_other w1 w.heap.size j _ (fun e => hj (by rw [e]))⟩ hbb.size (fun j hj => by simp only [Option.some.injEq] at hj; omega)
    have HB3 := Lib.hid hbe3
    clear hb1 hbb hbe3
    go_wp2_with (with_reducible refine wpList_store_row rfl 36 (.tmp 2) (.tmp 8) rfl w.heap.size cs rfl rfl 36 _ HR1.out hi.out ho.out hone.out ?_)
    (try simp only [Exit.inBlock, Exit.then])
    refine bodyPost_ret (results_cell_row rfl _ _ w.heap.size 36 cs (0, 0) _ rfl (setRow_heap w1 w.heap.size _ _ _ _ HR1.out) u32arr rfl hi.out) rfl ?_
    exact ⟨by rw [HCS.out], HB3.out⟩
  · obtain ⟨a, b, c, d, e, f, g', k, hst⟩ := words8 h.ls
    subst hst
    have hcl : chainL [a, b, c, d, e, f, g', k] n = [a, b, c, d, e, f, g', k] := by rw [chainL, if_neg hlt]
    have hd : decide ((n : Int) < 64) = false := by simp; omega
    have d0 := (h0.word (j := 0) (by omega)).1
    have d1 := (h0.word (j := 1) (by omega)).1
    have d2 := (h0.word (j := 2) (by omega)).1
    have d3 := (h0.word (j := 3) (by omega)).1
    have d4 := (h0.word (j := 4) (by omega)).1
    have d5 := (h0.word (j := 5) (by omega)).1
    have d6 := (h0.word (j := 6) (by omega)).1
    have d7 := (h0.word (j := 7) (by omega)).1
    simp only [List.getD_cons_zero, List.getD_cons_succ] at d0 d1 d2 d3 d4 d5 d6 d7
    have HCL := Lib.hid hcl
    clear hcl hcs hi ho hone hb0 h0
    go_enter Try.func65, Try.ntmps65
    go_wp2
    (try simp only [Exit.inBlock, Exit.then])
    refine bodyPost_ret (results_cell_row rfl _ _ w.heap.size 36 _ (0, 0) _ rfl (heap_alloc_new w _) u32arr rfl (by kernel_rfl)) rfl ?_
    exact ⟨by rw [HCL.out]; rfl, (Below.refl _ _).alloc (Nat.le_refl _) _⟩
end Go.Proofs.Ytifgigpflfdmfaa
