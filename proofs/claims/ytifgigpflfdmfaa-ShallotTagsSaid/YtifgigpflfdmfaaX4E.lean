/- Extract of mac. -/
import Derived.Test.YtifgigpflfdmfaaX2
import Derived.Test.YtifgigpflfdmfaaX3
import Derived.Test.YtifgigpflfdmfaaArr

namespace Go.Proofs.Ytifgigpflfdmfaa
open Go.RowKit

theorem eq_arr32 (l : List UInt8) (h : l.length = 32) (W : World) : (Op.equalIn 10000 29 (arr32 l) (arr32 l)).run Try.prog W = .ok true W := by
  obtain ⟨i, hi⟩ : ∃ i, Try.prog.info? 5 = some i := Option.isSome_iff_exists.1 (by kernel_rfl)
  have h2 := run_eq_arr (P := Try.prog) (k := .u8) W Try.underlying29 hi (by kernel_rfl) (by kernel_rfl) Try.underlying5 (l.map fun x => (x.toNat : Int)) (l.map fun x => (x.toNat : Int)) (by simpa using h) (by simpa using h) 9998
  have e : arr32 l = .agg ((l.map fun x => (x.toNat : Int)).map (Value.int .u8)).toArray := by rw [arr32, List.map_map]; rfl
  rw [e, h2]
  simp

set_option maxRecDepth 100000 in
set_option maxHeartbeats 4000000 in
theorem extract_any {salt key : List UInt8} {v u : Value} {w : World} {B : Nat} (hb : Bs w B v salt) (hu : Bs w B u key) (hB : B ≤ w.heap.size) (hlen : salt.length ≤ 1152921504606846000) (hlen2 : key.length ≤ 1152921504606845000) :
    Calls Try.prog 39 #[v, u] w fun e w' => e = .returned (arr32 (tagL salt key)) ∧ Below w.heap.size w w' := by
  obtain ⟨Au, cu, rfl⟩ := hu.shape
  have hb0 : Below w.heap.size w (w.alloc (.cells #[.int .u8 0, .int .u8 0, .int .u8 0, .int .u8 0, .int .u8 0, .int .u8 0, .int .u8 0, .int .u8 0, .int .u8 0, .int .u8 0, .int .u8 0, .int .u8 0, .int .u8 0, .int .u8 0, .int .u8 0, .int .u8 0, .int .u8 0, .int .u8 0, .int .u8 0, .int .u8 0, .int .u8 0, .int .u8 0, .int .u8 0, .int .u8 0, .int .u8 0, .int .u8 0, .int .u8 0, .int .u8 0, .int .u8 0, .int .u8 0, .int .u8 0, .int .u8 0] 29)) := (Below.refl _ _).alloc (Nat.le_refl _) _
  have hs0 : (w.alloc (.cells #[.int .u8 0, .int .u8 0, .int .u8 0, .int .u8 0, .int .u8 0, .int .u8 0, .int .u8 0, .int .u8 0, .int .u8 0, .int .u8 0, .int .u8 0, .int .u8 0, .int .u8 0, .int .u8 0, .int .u8 0, .int .u8 0, .int .u8 0, .int .u8 0, .int .u8 0, .int .u8 0, .int .u8 0, .int .u8 0, .int .u8 0, .int .u8 0, .int .u8 0, .int .u8 0, .int .u8 0, .int .u8 0, .int .u8 0, .int .u8 0, .int .u8 0, .int .u8 0] 29)).heap.size = w.heap.size + 1 := by simp
  have hr0 : (w.alloc (.cells #[.int .u8 0, .int .u8 0, .int .u8 0, .int .u8 0, .int .u8 0, .int .u8 0, .int .u8 0, .int .u8 0, .int .u8 0, .int .u8 0, .int .u8 0, .int .u8 0, .int .u8 0, .int .u8 0, .int .u8 0, .int .u8 0, .int .u8 0, .int .u8 0, .int .u8 0, .int .u8 0, .int .u8 0, .int .u8 0, .int .u8 0, .int .u8 0, .int .u8 0, .int .u8 0, .int .u8 0, .int .u8 0, .int .u8 0, .int .u8 0, .int .u8 0, .int .u8 0] 29)).heap[w.heap.size]? = some (.cells #[.int .u8 0, .int .u8 0, .int .u8 0, .int .u8 0, .int .u8 0, .int .u8 0, .int .u8 0, .int .u8 0, .int .u8 0, .int .u8 0, .int .u8 0, .int .u8 0, .int .u8 0, .int .u8 0, .int .u8 0, .int .u8 0, .int .u8 0, .int .u8 0, .int .u8 0, .int .u8 0, .int .u8 0, .int .u8 0, .int .u8 0, .int .u8 0, .int .u8 0, .int .u8 0, .int .u8 0, .int .u8 0, .int .u8 0, .int .u8 0, .int .u8 0, .int .u8 0] 29 (0, 0)) := heap_alloc_new w _
  obtain ⟨cs, hcs⟩ : ∃ cs : Array Value, cs = ((tagL salt key).map vb).toArray := ⟨_, rfl⟩
  have hcz : cs.size = 32 := by rw [hcs]; simp [tagL_len]
  have hi2 : Hid ((Try.prog.info? 29).map (·.size) = some cs.size) := by rw [hcz]; show _ = _; kernel_rfl
  have ho2 : Hid ((#[.int .u8 0, .int .u8 0, .int .u8 0, .int .u8 0, .int .u8 0, .int .u8 0, .int .u8 0, .int .u8 0, .int .u8 0, .int .u8 0, .int .u8 0, .int .u8 0, .int .u8 0, .int .u8 0, .int .u8 0, .int .u8 0, .int .u8 0, .int .u8 0, .int .u8 0, .int .u8 0, .int .u8 0, .int .u8 0, .int .u8 0, .int .u8 0, .int .u8 0, .int .u8 0, .int .u8 0, .int .u8 0, .int .u8 0, .int .u8 0, .int .u8 0, .int .u8 0] : Array Value).size = cs.size) := by rw [hcz]; show _ = _; rfl
  have hone2 : Hid (cs.all (·.oneCell') = true) := by rw [hcs]; exact one_bytes _
  have hr1 := Rs.lit (w.alloc (.cells #[.int .u8 0, .int .u8 0, .int .u8 0, .int .u8 0, .int .u8 0, .int .u8 0, .int .u8 0, .int .u8 0, .int .u8 0, .int .u8 0, .int .u8 0, .int .u8 0, .int .u8 0, .int .u8 0, .int .u8 0, .int .u8 0, .int .u8 0, .int .u8 0, .int .u8 0, .int .u8 0, .int .u8 0, .int .u8 0, .int .u8 0, .int .u8 0, .int .u8 0, .int .u8 0, .int .u8 0, .int .u8 0, .int .u8 0, .int .u8 0, .int .u8 0, .int .u8 0] 29)) [.slice Au key.length cu] [key] rfl (by unfold maxLen; simp) (by
    intro j h1 h2
    obtain rfl : j = 0 := by simpa using h1
    exact (hu.below hb0 hB).more (by rw [hs0]; omega))
  have hb2 := hb0.alloc (by rw [hs0]; omega) (.cells #[.slice Au key.length cu] 22)
  have ct := tag_any (key := salt) (((hb.below hb0 hB).below ((Below.refl _ (w.alloc (.cells #[.int .u8 0, .int .u8 0, .int .u8 0, .int .u8 0, .int .u8 0, .int .u8 0, .int .u8 0, .int .u8 0, .int .u8 0, .int .u8 0, .int .u8 0, .int .u8 0, .int .u8 0, .int .u8 0, .int .u8 0, .int .u8 0, .int .u8 0, .int .u8 0, .int .u8 0, .int .u8 0, .int .u8 0, .int .u8 0, .int .u8 0, .int .u8 0, .int .u8 0, .int .u8 0, .int .u8 0, .int .u8 0, .int .u8 0, .int .u8 0, .int .u8 0, .int .u8 0] 29))).alloc (Nat.le_refl _) (.cells #[.slice Au key.length cu] 22)) (by rw [hs0]; omega)).more (by rw [hs0]; omega)) hr1 (by simp) hlen (by simpa using hlen2)
  rw [show ([key] : List (List UInt8)).flatten = key by simp] at ct
  have HBB := Lib.hid hb2
  have HRB : Hid (((w.alloc (.cells #[.int .u8 0, .int .u8 0, .int .u8 0, .int .u8 0, .int .u8 0, .int .u8 0, .int .u8 0, .int .u8 0, .int .u8 0, .int .u8 0, .int .u8 0, .int .u8 0, .int .u8 0, .int .u8 0, .int .u8 0, .int .u8 0, .int .u8 0, .int .u8 0, .int .u8 0, .int .u8 0, .int .u8 0, .int .u8 0, .int .u8 0, .int .u8 0, .int .u8 0, .int .u8 0, .int .u8 0, .int .u8 0, .int .u8 0, .int .u8 0, .int .u8 0, .int .u8 0] 29)).alloc (.cells #[.slice Au key.length cu] 22)).heap[w.heap.size]? = some (.cells #[.int .u8 0, .int .u8 0, .int .u8 0, .int .u8 0, .int .u8 0, .int .u8 0, .int .u8 0, .int .u8 0, .int .u8 0, .int .u8 0, .int .u8 0, .int .u8 0, .int .u8 0, .int .u8 0, .int .u8 0, .int .u8 0, .int .u8 0, .int .u8 0, .int .u8 0, .int .u8 0, .int .u8 0, .int .u8 0, .int .u8 0, .int .u8 0, .int .u8 0, .int .u8 0, .int .u8 0, .int .u8 0, .int .u8 0, .int .u8 0, .int .u8 0, .int .u8 0] 29 (0, 0))) := Lib.hid (alloc_block2 hr0 _)
  have HZB : Hid (((w.alloc (.cells #[.int .u8 0, .int .u8 0, .int .u8 0, .int .u8 0, .int .u8 0, .int .u8 0, .int .u8 0, .int .u8 0, .int .u8 0, .int .u8 0, .int .u8 0, .int .u8 0, .int .u8 0, .int .u8 0, .int .u8 0, .int .u8 0, .int .u8 0, .int .u8 0, .int .u8 0, .int .u8 0, .int .u8 0, .int .u8 0, .int .u8 0, .int .u8 0, .int .u8 0, .int .u8 0, .int .u8 0, .int .u8 0, .int .u8 0, .int .u8 0, .int .u8 0, .int .u8 0] 29)).alloc (.cells #[.slice Au key.length cu] 22)).heap.size = w.heap.size + 2) := Lib.hid (by simp)
  have CT : Hid (Calls Try.prog 43 #[v, .slice (some ⟨w.heap.size + 1, 0, none⟩) 1 1] ((w.alloc (.cells #[.int .u8 0, .int .u8 0, .int .u8 0, .int .u8 0, .int .u8 0, .int .u8 0, .int .u8 0, .int .u8 0, .int .u8 0, .int .u8 0, .int .u8 0, .int .u8 0, .int .u8 0, .int .u8 0, .int .u8 0, .int .u8 0, .int .u8 0, .int .u8 0, .int .u8 0, .int .u8 0, .int .u8 0, .int .u8 0, .int .u8 0, .int .u8 0, .int .u8 0, .int .u8 0, .int .u8 0, .int .u8 0, .int .u8 0, .int .u8 0, .int .u8 0, .int .u8 0] 29)).alloc (.cells #[.slice Au key.length cu] 22)) fun e w' => e = .returned (.agg cs) ∧ Below ((w.alloc (.cells #[.int .u8 0, .int .u8 0, .int .u8 0, .int .u8 0, .int .u8 0, .int .u8 0, .int .u8 0, .int .u8 0, .int .u8 0, .int .u8 0, .int .u8 0, .int .u8 0, .int .u8 0, .int .u8 0, .int .u8 0, .int .u8 0, .int .u8 0, .int .u8 0, .int .u8 0, .int .u8 0, .int .u8 0, .int .u8 0, .int .u8 0, .int .u8 0, .int .u8 0, .int .u8 0, .int .u8 0, .int .u8 0, .int .u8 0, .int .u8 0, .int .u8 0, .int .u8 0] 29)).alloc (.cells #[.slice Au key.length cu] 22)).heap.size ((w.alloc (.cells #[.int .u8 0, .int .u8 0, .int .u8 0, .int .u8 0, .int .u8 0, .int .u8 0, .int .u8 0, .int .u8 0, .int .u8 0, .int .u8 0, .int .u8 0, .int .u8 0, .int .u8 0, .int .u8 0, .int .u8 0, .int .u8 0, .int .u8 0, .int .u8 0, .int .u8 0, .int .u8 0, .int .u8 0, .int .u8 0, .int .u8 0, .int .u8 0, .int .u8 0, .int .u8 0, .int .u8 0, .int .u8 0, .int .u8 0, .int .u8 0, .int .u8 0, .int .u8 0] 29)).alloc (.cells #[.slice Au key.length cu] 22)) w') := Lib.hid (by
    rw [hcs]
    simp only [hs0] at ct
    exact ct)
  have HCE := Lib.hid hcs
  clear hb0 hs0 hr0 hcs hcz hr1 hb2 ct hb hu
  go_enter Try.func39, Try.ntmps39
  go_wp2_with fail
  with_reducible refine (CT.out).mono ?_
  rintro e3 w3 ⟨rfl, hb3⟩
  have hr3 := Lib.hid ((hb3.block w.heap.size (by rw [HZB.out]; omega)).trans HRB.out)
  have hbe3 : Below w.heap.size w (w3.setRow w.heap.size cs) := (HBB.out.trans (hb3.mono HBB.out.size)).grown (row := some w.heap.size) ⟨rfl, rfl, rfl, by simp, fun j _ hj => setRow_other w3 w.heap.size j _ (fun e => hj (by rw [e]))⟩ (by have := (HBB.out.trans (hb3.mono HBB.out.size)).size; exact this) (fun j hj => by simp only [Option.some.injEq] at hj; omega)
  have HB3 := Lib.hid hbe3
  clear hb3 hbe3
  go_wp2_with (with_reducible refine wpList_store_row rfl 29 (.tmp 4) (.tmp 8) rfl w.heap.size cs rfl rfl 29 _ hr3.out hi2.out ho2.out hone2.out ?_)
  (try simp only [Exit.inBlock, Exit.then])
  refine bodyPost_ret (results_cell_row rfl _ _ w.heap.size 29 cs (0, 0) _ rfl (setRow_heap w3 w.heap.size _ _ _ _ hr3.out) Try.underlying29 rfl hi2.out) rfl ?_
  exact ⟨by rw [HCE.out]; rfl, HB3.out⟩

end Go.Proofs.Ytifgigpflfdmfaa
