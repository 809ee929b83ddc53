/- The stream of ChaCha20 as a list, and a flow's memory. -/
import Derived.Test.YtifgigpflfdmfaaB5
import Derived.StillTailTactics
namespace Go.Proofs.Ytifgigpflfdmfaa
open Go.RowKit

def zs12 : List UInt8 := List.replicate 12 0
/-- byte i of a key's stream -/
def kb (key : List UInt8) (i : Nat) : UInt8 := (blockL key zs12 (UInt32.ofNat (i / 64))).getD (i % 64) 0
/-- n bytes of a key's stream from place a on -/
def strL (key : List UInt8) (a n : Nat) : List UInt8 := (List.range n).map fun j => kb key (a + j)
theorem strL_len (key : List UInt8) (a n : Nat) : (strL key a n).length = n := by simp [strL]
theorem strL_app (key : List UInt8) (a m n : Nat) : strL key a (m + n) = strL key a m ++ strL key (a + m) n := by
  simp only [strL, List.range_add, List.map_append, List.map_map]
  refine congrArg (fun x => _ ++ x) ?_
  exact List.map_congr_left (fun j _ => by simp only [Function.comp, Nat.add_assoc])
theorem blockL_len (key nonce : List UInt8) (c : UInt32) : (blockL key nonce c).length = 64 := by rw [blockL, outB_len]
theorem strL_block (key : List UInt8) (a m : Nat) (h : m ≤ 64 - a % 64) : strL key a m = ((blockL key zs12 (UInt32.ofNat (a / 64))).drop (a % 64)).take m := by
  have hb := blockL_len key zs12 (UInt32.ofNat (a / 64))
  apply List.ext_getElem
  · simp [strL, hb]; omega
  · intro j h1 h2
    rw [strL_len] at h1
    have e1 : (a + j) / 64 = a / 64 := by omega
    have e2 : (a + j) % 64 = a % 64 + j := by omega
    simp only [strL, List.getElem_map, List.getElem_range, List.getElem_take, List.getElem_drop, kb, e1, e2]
    rw [List.getD_eq_getElem?_getD, List.getElem?_eq_getElem (by omega)]
    rfl
/-- a stream as it grows to n bytes -/
def strP (key : List UInt8) (a n i : Nat) : List UInt8 := strL key a i ++ List.replicate (n - i) 0
theorem strP_len (key : List UInt8) (a : Nat) {n i : Nat} (h : i ≤ n) : (strP key a n i).length = n := by simp [strP, strL_len]; omega
theorem strP_end (key : List UInt8) (a n : Nat) : strP key a n n = strL key a n := by simp [strP]
theorem strP_splice (key : List UInt8) (a : Nat) {n i m : Nat} (h : i + m ≤ n) : splice ((strP key a n i).map vb) i ((strL key (a + i) m).map vb) = (strP key a n (i + m)).map vb := by
  have e := splice_end ((strL key a i).map vb) ((List.replicate (n - i) (0 : UInt8)).map vb) ((strL key (a + i) m).map vb)
  rw [List.length_map, strL_len, List.length_map, strL_len] at e
  unfold strP
  rw [List.map_append, e, strL_app, List.map_append, List.map_append]
  congr 1
  rw [← List.map_drop, List.drop_replicate, show n - i - m = n - (i + m) by omega]

/-- the cells of a flow with its key and how much is done -/
def flwC (key : List UInt8) (d : Nat) (ex : List Value) : List Value := key.map vb ++ .int .i64 (d : Int) :: ex
def Flw (w : World) (g : Nat) (T : TypeId) (ex : List Value) (key : List UInt8) (d : Nat) : Prop := key.length = 32 ∧ w.heap[g]? = some (.cells (flwC key d ex).toArray T (0, 0))
theorem Flw.lt {w : World} {g d : Nat} {T : TypeId} {ex : List Value} {key : List UInt8} (h : Flw w g T ex key d) : g < w.heap.size := (Array.getElem?_eq_some_iff.1 h.2).1
theorem Flw.below {w w' : World} {B g d : Nat} {T : TypeId} {ex : List Value} {key : List UInt8} (h : Flw w g T ex key d) (hb : Below B w w') (hB : g < B) : Flw w' g T ex key d := ⟨h.1, (hb.block g hB).trans h.2⟩
theorem Flw.key {w : World} {g d : Nat} {T : TypeId} {ex : List Value} {key : List UInt8} (h : Flw w g T ex key d) : Bs w w.heap.size (.slice (some ⟨g, 0, none⟩) 32 32) key := by
  have h1 := h.1
  refine ⟨_, 32, by rw [h1], by omega, by unfold maxLen; omega, fun _ => ⟨_, 0, rfl, h.lt, fun j hj => ?_⟩⟩
  rw [Nat.zero_add, cell_of_row _ _ j _ _ _ h.2]
  simp [flwC, hj, List.getElem?_append_left, vb]
theorem Flw.done {w : World} {g d : Nat} {T : TypeId} {ex : List Value} {key : List UInt8} (h : Flw w g T ex key d) : w.cell? ⟨g, 32, none⟩ = some (.int .i64 (d : Int)) ∧ w.frozen? ⟨g, 32, none⟩ = false := by
  refine ⟨?_, frozen_of_row w g 32 _ _ h.2⟩
  have h1 := h.1
  rw [cell_of_row _ _ 32 _ _ _ h.2]
  simp [flwC, List.getElem?_append_right, h1]
theorem Flw.set {w : World} {g d : Nat} {T : TypeId} {ex : List Value} {key : List UInt8} (h : Flw w g T ex key d) (d' : Nat) : Flw (w.setCell ⟨g, 32, none⟩ (.int .i64 (d' : Int))) g T ex key d' := by
  have h1 := h.1
  refine ⟨h1, ?_⟩
  rw [heap_setCell_same _ _ 32 _ _ _ h.2]
  have e : (flwC key d ex).toArray.setIfInBounds 32 (.int .i64 (d' : Int)) = (flwC key d' ex).toArray := by
    rw [List.setIfInBounds_toArray]
    congr 1
    have h2 : 32 = (key.map vb).length := by rw [List.length_map, h1]
    unfold flwC
    rw [h2, List.set_append_right (h := Nat.le_refl _)]
    simp
  rw [e]
theorem arr32k : Try.prog.underlying 29 = some (.array (Try.prog.arrayLen 29) (Try.prog.elem 29)) := by kernel_rfl
theorem elem32k : Try.prog.elem 29 = 5 := by kernel_rfl
theorem len32k : Try.prog.arrayLen 29 = 32 := by kernel_rfl
theorem cut32_k {g : Nat} (W : World) : (Instr.sliceAt 29 (.pointer (some ⟨g, 0, none⟩)) none none none).run Try.prog W = .ok (.slice (some ⟨g, 0, none⟩) 32 32) W := by
  rw [run_sliceAt_array_all _ _ _ arr32k, elem32k, u8sizeOf, len32k]
  simp [Result.andThen, slicedAt, Addr.add_lit]
set_option maxRecDepth 100000 in
set_option maxHeartbeats 4000000 in
theorem left_any {w : World} {g d : Nat} {T : TypeId} {ex : List Value} {key : List UInt8} (h : Flw w g T ex key d) (hd : d ≤ 65536) :
    Calls Try.prog 49 #[.pointer (some ⟨g, 0, none⟩)] w fun e w' => e = .returned (.int .i64 (65536 - (d : Int))) ∧ w = w' := by
  obtain ⟨hc, hf⟩ := h.done
  clear h
  go_enter Try.func49, Try.ntmps49
  go_wp2
  go_ret
  exact ⟨rfl, rfl⟩
end Go.Proofs.Ytifgigpflfdmfaa
