/- mac's taggers and tags. -/
import Derived.Test.YtifgigpflfdmfaaMacFill
namespace Go.Proofs.Ytifgigpflfdmfaa
open Go.RowKit

def innerL (key : List UInt8) : List UInt8 := maskL 54 (fillL key)
def outerL (key : List UInt8) : List UInt8 := maskL 92 (fillL key)
theorem innerL_len (key : List UInt8) : (innerL key).length = 64 := by simp [innerL, maskL, fillL_len]
theorem outerL_len (key : List UInt8) : (outerL key).length = 64 := by simp [outerL, maskL, fillL_len]
/-- HMAC's inner sum, and the tag -/
def insideL (key b : List UInt8) : List UInt8 := sumL (innerL key ++ b)
def tagL (key b : List UInt8) : List UInt8 := sumL (outerL key ++ insideL key b)
theorem tagL_len (key b : List UInt8) : (tagL key b).length = 32 := sumL_len _

set_option maxRecDepth 100000 in
set_option maxHeartbeats 1600000 in
theorem fold_tagger (o : List UInt8) (ho : o.length = 64) : Array.foldl (fun (cs : Array Value) (x : Value × Nat) => cs.setIfInBounds (73 + x.snd) x.fst) Try.zeroCells41 (o.map vb).toArray.zipIdx 0 64 = (cellsH (List.replicate 8 0) (List.replicate 64 0) 0 (o.map vb)).toArray := by
  have e : o.map vb = (List.range 64).map (fun i => vb (o.getD i 0)) := by
    apply List.ext_getElem?
    intro i
    by_cases hi : i < 64
    · simp [hi, ho]
    · have h1 : o[i]? = none := List.getElem?_eq_none (by omega)
      have h2 : (List.range 64)[i]? = none := List.getElem?_eq_none (by simp; omega)
      rw [List.getElem?_map, List.getElem?_map, h1, h2]
      rfl
  rw [e]
  show _ = _
  kernel_rfl

theorem Hashed.drew {w : World} {g : Nat} {T : TypeId} {ex : List Value} {L : List UInt8} (h : Hashed w g T ex L) : Hashed w.drew g T ex L := by
  obtain ⟨st, rest, h1, h2⟩ := h
  exact ⟨st, rest, h1.drew, h2⟩

set_option maxRecDepth 100000 in
set_option maxHeartbeats 1600000 in
theorem newTagger_any {key : List UInt8} {v : Value} {w : World} {B : Nat} (hb : Bs w B v key) (hB : B ≤ w.heap.size) (hlen : key.length ≤ 1152921504606846000) :
    Calls Try.prog 12 #[v] w fun e w' => ∃ g, e = .returned (.pointer (some ⟨g, 0, none⟩)) ∧ w.heap.size ≤ g ∧ Hashed w' g 41 ((outerL key).map vb) (innerL key) ∧ Below w.heap.size w w' := by
  obtain ⟨us, hus⟩ : ∃ us : Array Value, us = ((fillL key).map vb).toArray := ⟨_, rfl⟩
  obtain ⟨os, hos⟩ : ∃ os : Array Value, os = ((outerL key).map vb).toArray := ⟨_, rfl⟩
  obtain ⟨is, his⟩ : ∃ is : Array Value, is = ((innerL key).map vb).toArray := ⟨_, rfl⟩
  have CF : Hid (Calls Try.prog 44 #[v] w fun e w' => e = .returned (.agg us) ∧ Below w.heap.size w w') := by rw [hus]; exact fill_any hb hB hlen
  have CO : Hid (∀ W, Calls Try.prog 45 #[.agg us, .int .u8 92] W fun e w' => e = .returned (.agg os) ∧ Below W.heap.size W w') := by rw [hus, hos]; exact fun W => masked_any (fillL_len key) 92 W
  have CI : Hid (∀ W, Calls Try.prog 45 #[.agg us, .int .u8 54] W fun e w' => e = .returned (.agg is) ∧ Below W.heap.size W w') := by rw [hus, his]; exact fun W => masked_any (fillL_len key) 54 W
  obtain ⟨cells, hcells⟩ : ∃ cells, cells = (cellsH (List.replicate 8 0) (List.replicate 64 0) 0 ((outerL key).map vb)).toArray := ⟨_, rfl⟩
  have hosz : os.size = 64 := by rw [hos]; simp [outerL_len]
  have hbt : Array.foldl (fun (cs : Array Value) (x : Value × Nat) => cs.setIfInBounds (73 + x.snd) x.fst) Try.zeroCells41 os.zipIdx 0 64 = cells := by rw [hos, hcells]; exact fold_tagger _ (outerL_len key)
  have husz : us.size = 64 := by rw [hus]; simp [fillL_len]
  have hisz : is.size = 64 := by rw [his]; simp [innerL_len]
  have h1 : Hid (us.all (·.oneCell') = true) := by rw [hus]; exact one_bytes _
  have h2 : Hid (is.all (·.oneCell') = true) := by rw [his]; exact one_bytes _
  have i1 : Hid ((Try.prog.info? 37).map (·.size) = some us.size) := by rw [husz]; show _ = _; kernel_rfl
  have i2 : Hid ((Try.prog.info? 37).map (·.size) = some is.size) := by rw [hisz]; show _ = _; kernel_rfl
  have z1 : Hid ((#[.int .u8 0, .int .u8 0, .int .u8 0, .int .u8 0, .int .u8 0, .int .u8 0, .int .u8 0, .int .u8 0, .int .u8 0, .int .u8 0, .int .u8 0, .int .u8 0, .int .u8 0, .int .u8 0, .int .u8 0, .int .u8 0, .int .u8 0, .int .u8 0, .int .u8 0, .int .u8 0, .int .u8 0, .int .u8 0, .int .u8 0, .int .u8 0, .int .u8 0, .int .u8 0, .int .u8 0, .int .u8 0, .int .u8 0, .int .u8 0, .int .u8 0, .int .u8 0, .int .u8 0, .int .u8 0, .int .u8 0, .int .u8 0, .int .u8 0, .int .u8 0, .int .u8 0, .int .u8 0, .int .u8 0, .int .u8 0, .int .u8 0, .int .u8 0, .int .u8 0, .int .u8 0, .int .u8 0, .int .u8 0, .int .u8 0, .int .u8 0, .int .u8 0, .int .u8 0, .int .u8 0, .int .u8 0, .int .u8 0, .int .u8 0, .int .u8 0, .int .u8 0, .int .u8 0, .int .u8 0, .int .u8 0, .int .u8 0, .int .u8 0, .int .u8 0] : Array Value).size = us.size) := by rw [husz]; show _ = _; rfl
  have z2 : Hid ((#[.int .u8 0, .int .u8 0, .int .u8 0, .int .u8 0, .int .u8 0, .int .u8 0, .int .u8 0, .int .u8 0, .int .u8 0, .int .u8 0, .int .u8 0, .int .u8 0, .int .u8 0, .int .u8 0, .int .u8 0, .int .u8 0, .int .u8 0, .int .u8 0, .int .u8 0, .int .u8 0, .int .u8 0, .int .u8 0, .int .u8 0, .int .u8 0, .int .u8 0, .int .u8 0, .int .u8 0, .int .u8 0, .int .u8 0, .int .u8 0, .int .u8 0, .int .u8 0, .int .u8 0, .int .u8 0, .int .u8 0, .int .u8 0, .int .u8 0, .int .u8 0, .int .u8 0, .int .u8 0, .int .u8 0, .int .u8 0, .int .u8 0, .int .u8 0, .int .u8 0, .int .u8 0, .int .u8 0, .int .u8 0, .int .u8 0, .int .u8 0, .int .u8 0, .int .u8 0, .int .u8 0, .int .u8 0, .int .u8 0, .int .u8 0, .int .u8 0, .int .u8 0, .int .u8 0, .int .u8 0, .int .u8 0, .int .u8 0, .int .u8 0, .int .u8 0] : Array Value).size = is.size) := by rw [hisz]; show _ = _; rfl
  have HIS := Lib.hid his; have HCE := Lib.hid hcells
  clear hus hos his husz hisz hb hcells
  go_enter Try.func12, Try.ntmps12
  go_wp2_with fail
  with_reducible refine (CF.out).mono ?_
  rintro e1 w1 ⟨rfl, hb1⟩
  have hr1 : Hid ((w1.alloc (.cells #[.int .u8 0, .int .u8 0, .int .u8 0, .int .u8 0, .int .u8 0, .int .u8 0, .int .u8 0, .int .u8 0, .int .u8 0, .int .u8 0, .int .u8 0, .int .u8 0, .int .u8 0, .int .u8 0, .int .u8 0, .int .u8 0, .int .u8 0, .int .u8 0, .int .u8 0, .int .u8 0, .int .u8 0, .int .u8 0, .int .u8 0, .int .u8 0, .int .u8 0, .int .u8 0, .int .u8 0, .int .u8 0, .int .u8 0, .int .u8 0, .int .u8 0, .int .u8 0, .int .u8 0, .int .u8 0, .int .u8 0, .int .u8 0, .int .u8 0, .int .u8 0, .int .u8 0, .int .u8 0, .int .u8 0, .int .u8 0, .int .u8 0, .int .u8 0, .int .u8 0, .int .u8 0, .int .u8 0, .int .u8 0, .int .u8 0, .int .u8 0, .int .u8 0, .int .u8 0, .int .u8 0, .int .u8 0, .int .u8 0, .int .u8 0, .int .u8 0, .int .u8 0, .int .u8 0, .int .u8 0, .int .u8 0, .int .u8 0, .int .u8 0, .int .u8 0] 37)).heap[w1.heap.size]? = some (.cells #[.int .u8 0, .int .u8 0, .int .u8 0, .int .u8 0, .int .u8 0, .int .u8 0, .int .u8 0, .int .u8 0, .int .u8 0, .int .u8 0, .int .u8 0, .int .u8 0, .int .u8 0, .int .u8 0, .int .u8 0, .int .u8 0, .int .u8 0, .int .u8 0, .int .u8 0, .int .u8 0, .int .u8 0, .int .u8 0, .int .u8 0, .int .u8 0, .int .u8 0, .int .u8 0, .int .u8 0, .int .u8 0, .int .u8 0, .int .u8 0, .int .u8 0, .int .u8 0, .int .u8 0, .int .u8 0, .int .u8 0, .int .u8 0, .int .u8 0, .int .u8 0, .int .u8 0, .int .u8 0, .int .u8 0, .int .u8 0, .int .u8 0, .int .u8 0, .int .u8 0, .int .u8 0, .int .u8 0, .int .u8 0, .int .u8 0, .int .u8 0, .int .u8 0, .int .u8 0, .int .u8 0, .int .u8 0, .int .u8 0, .int .u8 0, .int .u8 0, .int .u8 0, .int .u8 0, .int .u8 0, .int .u8 0, .int .u8 0, .int .u8 0, .int .u8 0] 37 (0, 0))) := heap_alloc_new w1 _
  have hbe1 : Below w.heap.size w ((w1.alloc (.cells #[.int .u8 0, .int .u8 0, .int .u8 0, .int .u8 0, .int .u8 0, .int .u8 0, .int .u8 0, .int .u8 0, .int .u8 0, .int .u8 0, .int .u8 0, .int .u8 0, .int .u8 0, .int .u8 0, .int .u8 0, .int .u8 0, .int .u8 0, .int .u8 0, .int .u8 0, .int .u8 0, .int .u8 0, .int .u8 0, .int .u8 0, .int .u8 0, .int .u8 0, .int .u8 0, .int .u8 0, .int .u8 0, .int .u8 0, .int .u8 0, .int .u8 0, .int .u8 0, .int .u8 0, .int .u8 0, .int .u8 0, .int .u8 0, .int .u8 0, .int .u8 0, .int .u8 0, .int .u8 0, .int .u8 0, .int .u8 0, .int .u8 0, .int .u8 0, .int .u8 0, .int .u8 0, .int .u8 0, .int .u8 0, .int .u8 0, .int .u8 0, .int .u8 0, .int .u8 0, .int .u8 0, .int .u8 0, .int .u8 0, .int .u8 0, .int .u8 0, .int .u8 0, .int .u8 0, .int .u8 0, .int .u8 0, .int .u8 0, .int .u8 0, .int .u8 0] 37)).setRow w1.heap.size us) := hb1.grown (grew_row w1 _ us) hb1.size (by simp)
  have hu1 : ((w1.alloc (.cells #[.int .u8 0, .int .u8 0, .int .u8 0, .int .u8 0, .int .u8 0, .int .u8 0, .int .u8 0, .int .u8 0, .int .u8 0, .int .u8 0, .int .u8 0, .int .u8 0, .int .u8 0, .int .u8 0, .int .u8 0, .int .u8 0, .int .u8 0, .int .u8 0, .int .u8 0, .int .u8 0, .int .u8 0, .int .u8 0, .int .u8 0, .int .u8 0, .int .u8 0, .int .u8 0, .int .u8 0, .int .u8 0, .int .u8 0, .int .u8 0, .int .u8 0, .int .u8 0, .int .u8 0, .int .u8 0, .int .u8 0, .int .u8 0, .int .u8 0, .int .u8 0, .int .u8 0, .int .u8 0, .int .u8 0, .int .u8 0, .int .u8 0, .int .u8 0, .int .u8 0, .int .u8 0, .int .u8 0, .int .u8 0, .int .u8 0, .int .u8 0, .int .u8 0, .int .u8 0, .int .u8 0, .int .u8 0, .int .u8 0, .int .u8 0, .int .u8 0, .int .u8 0, .int .u8 0, .int .u8 0, .int .u8 0, .int .u8 0, .int .u8 0, .int .u8 0] 37)).setRow w1.heap.size us).heap[w1.heap.size]? = some (.cells us 37 (0, 0)) := setRow_heap (w1.alloc _) w1.heap.size _ _ _ _ hr1.out
  obtain ⟨w2, hw2⟩ : ∃ w2, w2 = (w1.alloc (.cells #[.int .u8 0, .int .u8 0, .int .u8 0, .int .u8 0, .int .u8 0, .int .u8 0, .int .u8 0, .int .u8 0, .int .u8 0, .int .u8 0, .int .u8 0, .int .u8 0, .int .u8 0, .int .u8 0, .int .u8 0, .int .u8 0, .int .u8 0, .int .u8 0, .int .u8 0, .int .u8 0, .int .u8 0, .int .u8 0, .int .u8 0, .int .u8 0, .int .u8 0, .int .u8 0, .int .u8 0, .int .u8 0, .int .u8 0, .int .u8 0, .int .u8 0, .int .u8 0, .int .u8 0, .int .u8 0, .int .u8 0, .int .u8 0, .int .u8 0, .int .u8 0, .int .u8 0, .int .u8 0, .int .u8 0, .int .u8 0, .int .u8 0, .int .u8 0, .int .u8 0, .int .u8 0, .int .u8 0, .int .u8 0, .int .u8 0, .int .u8 0, .int .u8 0, .int .u8 0, .int .u8 0, .int .u8 0, .int .u8 0, .int .u8 0, .int .u8 0, .int .u8 0, .int .u8 0, .int .u8 0, .int .u8 0, .int .u8 0, .int .u8 0, .int .u8 0] 37)).setRow w1.heap.size us := ⟨_, rfl⟩
  rw [← hw2] at hbe1 hu1
  have HW2 := Lib.hid hw2; have HU1 := Lib.hid hu1; have HBE1 := Lib.hid hbe1
  have hl1 : w1.heap.size < w2.heap.size := (Array.getElem?_eq_some_iff.1 hu1).1
  have hl0 : w.heap.size ≤ w1.heap.size := hb1.size
  clear hw2 hu1 hbe1 hb1
  go_wp2_with (first
    | (with_reducible refine wpList_store_row rfl 37 (.tmp 3) (.tmp 7) rfl w1.heap.size us rfl rfl 37 _ hr1.out i1.out z1.out h1.out ?_; rw [← HW2.out])
    | (with_reducible refine wpList_load_row rfl 37 (.tmp 3) rfl w1.heap.size rfl 37 us (0, 0) _ HU1.out Try.underlying37 rfl i1.out ?_))
  with_reducible refine (CO.out _).mono ?_
  rintro e3 w3 ⟨rfl, hb3⟩
  have hu3 : Hid ((w3.alloc (.cells cells 41)).heap[w1.heap.size]? = some (.cells us 37 (0, 0))) := Lib.hid ((heap_alloc_old _ _ (Nat.lt_of_lt_of_le hl1 hb3.size)).trans ((hb3.block _ hl1).trans HU1.out))
  have hH3 : Hid (Hashed (w3.alloc (.cells cells 41)) w3.heap.size 41 ((outerL key).map vb) []) := by rw [HCE.out]; exact hashed_zero w3 _ _
  have hbe3 := HBE1.out.trans (hb3.mono HBE1.out.size)
  have HBE3 := Lib.hid (hbe3.alloc hbe3.size (.cells cells 41))
  have hl3 : w.heap.size ≤ w3.heap.size := hbe3.size
  clear hb3 hbe3
  go_wp2_with ((with_reducible refine wpList_load_row rfl 37 (.tmp 3) rfl w1.heap.size rfl 37 us (0, 0) _ hu3.out Try.underlying37 rfl i1.out ?_))
  with_reducible refine (CI.out _).mono ?_
  rintro e4 w4 ⟨rfl, hb4⟩
  have hH4 := hH3.out.below hb4 hH3.out.lt
  have hr4 : Hid ((w4.alloc (.cells #[.int .u8 0, .int .u8 0, .int .u8 0, .int .u8 0, .int .u8 0, .int .u8 0, .int .u8 0, .int .u8 0, .int .u8 0, .int .u8 0, .int .u8 0, .int .u8 0, .int .u8 0, .int .u8 0, .int .u8 0, .int .u8 0, .int .u8 0, .int .u8 0, .int .u8 0, .int .u8 0, .int .u8 0, .int .u8 0, .int .u8 0, .int .u8 0, .int .u8 0, .int .u8 0, .int .u8 0, .int .u8 0, .int .u8 0, .int .u8 0, .int .u8 0, .int .u8 0, .int .u8 0, .int .u8 0, .int .u8 0, .int .u8 0, .int .u8 0, .int .u8 0, .int .u8 0, .int .u8 0, .int .u8 0, .int .u8 0, .int .u8 0, .int .u8 0, .int .u8 0, .int .u8 0, .int .u8 0, .int .u8 0, .int .u8 0, .int .u8 0, .int .u8 0, .int .u8 0, .int .u8 0, .int .u8 0, .int .u8 0, .int .u8 0, .int .u8 0, .int .u8 0, .int .u8 0, .int .u8 0, .int .u8 0, .int .u8 0, .int .u8 0, .int .u8 0] 37)).heap[w4.heap.size]? = some (.cells #[.int .u8 0, .int .u8 0, .int .u8 0, .int .u8 0, .int .u8 0, .int .u8 0, .int .u8 0, .int .u8 0, .int .u8 0, .int .u8 0, .int .u8 0, .int .u8 0, .int .u8 0, .int .u8 0, .int .u8 0, .int .u8 0, .int .u8 0, .int .u8 0, .int .u8 0, .int .u8 0, .int .u8 0, .int .u8 0, .int .u8 0, .int .u8 0, .int .u8 0, .int .u8 0, .int .u8 0, .int .u8 0, .int .u8 0, .int .u8 0, .int .u8 0, .int .u8 0, .int .u8 0, .int .u8 0, .int .u8 0, .int .u8 0, .int .u8 0, .int .u8 0, .int .u8 0, .int .u8 0, .int .u8 0, .int .u8 0, .int .u8 0, .int .u8 0, .int .u8 0, .int .u8 0, .int .u8 0, .int .u8 0, .int .u8 0, .int .u8 0, .int .u8 0, .int .u8 0, .int .u8 0, .int .u8 0, .int .u8 0, .int .u8 0, .int .u8 0, .int .u8 0, .int .u8 0, .int .u8 0, .int .u8 0, .int .u8 0, .int .u8 0, .int .u8 0] 37 (0, 0))) := heap_alloc_new w4 _
  have hg5 := grew_row w4 (.cells #[.int .u8 0, .int .u8 0, .int .u8 0, .int .u8 0, .int .u8 0, .int .u8 0, .int .u8 0, .int .u8 0, .int .u8 0, .int .u8 0, .int .u8 0, .int .u8 0, .int .u8 0, .int .u8 0, .int .u8 0, .int .u8 0, .int .u8 0, .int .u8 0, .int .u8 0, .int .u8 0, .int .u8 0, .int .u8 0, .int .u8 0, .int .u8 0, .int .u8 0, .int .u8 0, .int .u8 0, .int .u8 0, .int .u8 0, .int .u8 0, .int .u8 0, .int .u8 0, .int .u8 0, .int .u8 0, .int .u8 0, .int .u8 0, .int .u8 0, .int .u8 0, .int .u8 0, .int .u8 0, .int .u8 0, .int .u8 0, .int .u8 0, .int .u8 0, .int .u8 0, .int .u8 0, .int .u8 0, .int .u8 0, .int .u8 0, .int .u8 0, .int .u8 0, .int .u8 0, .int .u8 0, .int .u8 0, .int .u8 0, .int .u8 0, .int .u8 0, .int .u8 0, .int .u8 0, .int .u8 0, .int .u8 0, .int .u8 0, .int .u8 0, .int .u8 0] 37) is
  have hbe4 := HBE3.out.trans (hb4.mono HBE3.out.size)
  have hbe5 : Below w.heap.size w ((w4.alloc (.cells #[.int .u8 0, .int .u8 0, .int .u8 0, .int .u8 0, .int .u8 0, .int .u8 0, .int .u8 0, .int .u8 0, .int .u8 0, .int .u8 0, .int .u8 0, .int .u8 0, .int .u8 0, .int .u8 0, .int .u8 0, .int .u8 0, .int .u8 0, .int .u8 0, .int .u8 0, .int .u8 0, .int .u8 0, .int .u8 0, .int .u8 0, .int .u8 0, .int .u8 0, .int .u8 0, .int .u8 0, .int .u8 0, .int .u8 0, .int .u8 0, .int .u8 0, .int .u8 0, .int .u8 0, .int .u8 0, .int .u8 0, .int .u8 0, .int .u8 0, .int .u8 0, .int .u8 0, .int .u8 0, .int .u8 0, .int .u8 0, .int .u8 0, .int .u8 0, .int .u8 0, .int .u8 0, .int .u8 0, .int .u8 0, .int .u8 0, .int .u8 0, .int .u8 0, .int .u8 0, .int .u8 0, .int .u8 0, .int .u8 0, .int .u8 0, .int .u8 0, .int .u8 0, .int .u8 0, .int .u8 0, .int .u8 0, .int .u8 0, .int .u8 0, .int .u8 0] 37)).setRow w4.heap.size is) := hbe4.grown hg5 hbe4.size (by simp)
  have hi5 : Bw ((w4.alloc (.cells #[.int .u8 0, .int .u8 0, .int .u8 0, .int .u8 0, .int .u8 0, .int .u8 0, .int .u8 0, .int .u8 0, .int .u8 0, .int .u8 0, .int .u8 0, .int .u8 0, .int .u8 0, .int .u8 0, .int .u8 0, .int .u8 0, .int .u8 0, .int .u8 0, .int .u8 0, .int .u8 0, .int .u8 0, .int .u8 0, .int .u8 0, .int .u8 0, .int .u8 0, .int .u8 0, .int .u8 0, .int .u8 0, .int .u8 0, .int .u8 0, .int .u8 0, .int .u8 0, .int .u8 0, .int .u8 0, .int .u8 0, .int .u8 0, .int .u8 0, .int .u8 0, .int .u8 0, .int .u8 0, .int .u8 0, .int .u8 0, .int .u8 0, .int .u8 0, .int .u8 0, .int .u8 0, .int .u8 0, .int .u8 0, .int .u8 0, .int .u8 0, .int .u8 0, .int .u8 0, .int .u8 0, .int .u8 0, .int .u8 0, .int .u8 0, .int .u8 0, .int .u8 0, .int .u8 0, .int .u8 0, .int .u8 0, .int .u8 0, .int .u8 0, .int .u8 0] 37)).setRow w4.heap.size is) w4.heap.size 37 (innerL key) := by
    show _ = _
    rw [← HIS.out]
    exact setRow_heap (w4.alloc _) w4.heap.size _ _ _ _ hr4.out
  have hH5 := hH4.grown hg5 (by simp)
  have hl4 : w3.heap.size < w4.heap.size := hH4.lt
  obtain ⟨w5, hw5⟩ : ∃ w5, w5 = (w4.alloc (.cells #[.int .u8 0, .int .u8 0, .int .u8 0, .int .u8 0, .int .u8 0, .int .u8 0, .int .u8 0, .int .u8 0, .int .u8 0, .int .u8 0, .int .u8 0, .int .u8 0, .int .u8 0, .int .u8 0, .int .u8 0, .int .u8 0, .int .u8 0, .int .u8 0, .int .u8 0, .int .u8 0, .int .u8 0, .int .u8 0, .int .u8 0, .int .u8 0, .int .u8 0, .int .u8 0, .int .u8 0, .int .u8 0, .int .u8 0, .int .u8 0, .int .u8 0, .int .u8 0, .int .u8 0, .int .u8 0, .int .u8 0, .int .u8 0, .int .u8 0, .int .u8 0, .int .u8 0, .int .u8 0, .int .u8 0, .int .u8 0, .int .u8 0, .int .u8 0, .int .u8 0, .int .u8 0, .int .u8 0, .int .u8 0, .int .u8 0, .int .u8 0, .int .u8 0, .int .u8 0, .int .u8 0, .int .u8 0, .int .u8 0, .int .u8 0, .int .u8 0, .int .u8 0, .int .u8 0, .int .u8 0, .int .u8 0, .int .u8 0, .int .u8 0, .int .u8 0] 37)).setRow w4.heap.size is := ⟨_, rfl⟩
  rw [← hw5] at hbe5 hi5 hH5
  have HW5 := Lib.hid hw5; have HI5 := Lib.hid hi5; have HBE5 := Lib.hid hbe5; have HH5 := Lib.hid hH5
  have cutB : ∀ W, (Instr.sliceAt 37 (.pointer (some ⟨w4.heap.size, 0, none⟩)) none none none).run Try.prog W = .ok (.slice (some ⟨w4.heap.size, 0, none⟩) 64 64) W := fun W => cut_arr_all W
  have hbs5 : Bs w5.drew w5.heap.size (.slice (some ⟨w4.heap.size, 0, none⟩) 64 64) (innerL key) := by
    have h := hi5.bs (by rw [innerL_len]; unfold maxLen; omega)
    rw [innerL_len] at h
    exact h
  have CW := write_one (w2 := w5.drew) (L := []) hH5.drew hbs5 (Nat.le_refl _) (fun _ => by simp only [Value.ownBlock, ne_eq, Option.some.injEq]; omega) (by rw [innerL_len]; simp)
  have HCW := Lib.hid CW
  clear hw5 hi5 hbe5 hH5 hbs5 CW hg5 hbe4 hH4 hb4
  go_wp2_with (with_reducible refine wpList_store_row rfl 37 (.tmp 5) (.tmp 13) rfl w4.heap.size is rfl rfl 37 _ hr4.out i2.out z2.out h2.out ?_)
  rw [← HW5.out]
  go_region_with (first
    | (go_at_call 13; refine (HCW.out).mono ?_; rintro e6 w6 ⟨rfl, h6, hg6⟩)
    | fail)
  all_goals
    have hbe6 : Below w.heap.size w w6 := HBE5.out.drew.grown hg6 HBE5.out.size (fun j hj => by simp only [Option.some.injEq] at hj; omega)
    have HB6 := Lib.hid hbe6; have HH6 := Lib.hid h6
    clear hbe6 hg6 h6
    go_wp2
    go_ret
    refine ⟨_, rfl, hl3, ?_, HB6.out⟩
    have h := HH6.out
    rw [List.nil_append] at h
    exact h
end Go.Proofs.Ytifgigpflfdmfaa
