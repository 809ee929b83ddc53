/- A tagger's sum, and mac's Tag. -/
import Derived.Test.YtifgigpflfdmfaaMacTag
namespace Go.Proofs.Ytifgigpflfdmfaa
open Go.RowKit

theorem Hashed.ex_bs {w : World} {g : Nat} {T : TypeId} {o L : List UInt8} (h : Hashed w g T (o.map vb) L) (ho : o.length = 64) : Bs w w.heap.size (.slice (some ⟨g, 73, none⟩) 64 64) o := by
  obtain ⟨st, rest, H, _⟩ := h
  refine ⟨some ⟨g, 73, none⟩, 64, by rw [ho], by rw [ho]; exact Nat.le_refl _, by unfold maxLen; omega, fun _ => ⟨g, 73, rfl, H.lt, fun j hj => ?_⟩⟩
  rw [cell_of_row w g (73 + j) _ _ _ H.row]
  simp only [cellsH, List.getElem?_toArray]
  rw [List.getElem?_append_right (by simp [H.ls]; omega), List.getElem?_append_right (by simp [H.ls, H.lr]; omega)]
  have e : 73 + j - (st.map vw).length - (rest.map vb).length = j + 1 := by simp [H.ls, H.lr]; omega
  rw [e]
  simp [hj, vb]
/-- a row that is laid over a row -/
theorem store_row {w : World} {g : Nat} {t : TypeId} {cur : Array Value} {Y : List Value} (h : w.heap[g]? = some (.cells cur t (0, 0))) (hl : Y.length = cur.size) (h1 : ∀ v ∈ Y, v.oneCell' = true) :
    (storeCells ⟨g, 0, none⟩ Y).run Try.prog w = .ok () (w.setRow g Y.toArray) := by
  have := run_storeCells_from (P := Try.prog) g t Y 0 cur w h (by omega) h1
  simpa using this

set_option maxRecDepth 100000 in
set_option maxHeartbeats 1600000 in
theorem taggerSum_any {w : World} {g : Nat} {o L : List UInt8} (h : Hashed w g 41 (o.map vb) L) (ho : o.length = 64) (hlen : L.length ≤ 1152921504606846000) :
    Calls Try.prog 47 #[.pointer (some ⟨g, 0, none⟩)] w fun e w' => e = .returned (arr32 (sumL (o ++ sumL L))) ∧ Below w.heap.size w w' := by
  have hb0 : Below w.heap.size w (w.alloc (.cells #[.int .u8 0, .int .u8 0, .int .u8 0, .int .u8 0, .int .u8 0, .int .u8 0, .int .u8 0, .int .u8 0, .int .u8 0, .int .u8 0, .int .u8 0, .int .u8 0, .int .u8 0, .int .u8 0, .int .u8 0, .int .u8 0, .int .u8 0, .int .u8 0, .int .u8 0, .int .u8 0, .int .u8 0, .int .u8 0, .int .u8 0, .int .u8 0, .int .u8 0, .int .u8 0, .int .u8 0, .int .u8 0, .int .u8 0, .int .u8 0, .int .u8 0, .int .u8 0] 29)) := (Below.refl _ _).alloc (Nat.le_refl _) _
  have h0 := h.below hb0 h.lt
  have hs0 : (w.alloc (.cells #[.int .u8 0, .int .u8 0, .int .u8 0, .int .u8 0, .int .u8 0, .int .u8 0, .int .u8 0, .int .u8 0, .int .u8 0, .int .u8 0, .int .u8 0, .int .u8 0, .int .u8 0, .int .u8 0, .int .u8 0, .int .u8 0, .int .u8 0, .int .u8 0, .int .u8 0, .int .u8 0, .int .u8 0, .int .u8 0, .int .u8 0, .int .u8 0, .int .u8 0, .int .u8 0, .int .u8 0, .int .u8 0, .int .u8 0, .int .u8 0, .int .u8 0, .int .u8 0] 29)).heap.size = w.heap.size + 1 := by simp
  have hr0 : (w.alloc (.cells #[.int .u8 0, .int .u8 0, .int .u8 0, .int .u8 0, .int .u8 0, .int .u8 0, .int .u8 0, .int .u8 0, .int .u8 0, .int .u8 0, .int .u8 0, .int .u8 0, .int .u8 0, .int .u8 0, .int .u8 0, .int .u8 0, .int .u8 0, .int .u8 0, .int .u8 0, .int .u8 0, .int .u8 0, .int .u8 0, .int .u8 0, .int .u8 0, .int .u8 0, .int .u8 0, .int .u8 0, .int .u8 0, .int .u8 0, .int .u8 0, .int .u8 0, .int .u8 0] 29)).heap[w.heap.size]? = some (.cells #[.int .u8 0, .int .u8 0, .int .u8 0, .int .u8 0, .int .u8 0, .int .u8 0, .int .u8 0, .int .u8 0, .int .u8 0, .int .u8 0, .int .u8 0, .int .u8 0, .int .u8 0, .int .u8 0, .int .u8 0, .int .u8 0, .int .u8 0, .int .u8 0, .int .u8 0, .int .u8 0, .int .u8 0, .int .u8 0, .int .u8 0, .int .u8 0, .int .u8 0, .int .u8 0, .int .u8 0, .int .u8 0, .int .u8 0, .int .u8 0, .int .u8 0, .int .u8 0] 29 (0, 0)) := heap_alloc_new w _
  have CS := sum_any h0 hlen
  obtain ⟨cs, hcs⟩ : ∃ cs : Array Value, cs = ((sumL L).map vb).toArray := ⟨_, rfl⟩
  have HCS : Hid (Calls Try.prog 67 #[.pointer (some ⟨g, 0, none⟩)] (w.alloc (.cells #[.int .u8 0, .int .u8 0, .int .u8 0, .int .u8 0, .int .u8 0, .int .u8 0, .int .u8 0, .int .u8 0, .int .u8 0, .int .u8 0, .int .u8 0, .int .u8 0, .int .u8 0, .int .u8 0, .int .u8 0, .int .u8 0, .int .u8 0, .int .u8 0, .int .u8 0, .int .u8 0, .int .u8 0, .int .u8 0, .int .u8 0, .int .u8 0, .int .u8 0, .int .u8 0, .int .u8 0, .int .u8 0, .int .u8 0, .int .u8 0, .int .u8 0, .int .u8 0] 29)) fun e w' => e = .returned (.agg cs) ∧ Below (w.alloc (.cells #[.int .u8 0, .int .u8 0, .int .u8 0, .int .u8 0, .int .u8 0, .int .u8 0, .int .u8 0, .int .u8 0, .int .u8 0, .int .u8 0, .int .u8 0, .int .u8 0, .int .u8 0, .int .u8 0, .int .u8 0, .int .u8 0, .int .u8 0, .int .u8 0, .int .u8 0, .int .u8 0, .int .u8 0, .int .u8 0, .int .u8 0, .int .u8 0, .int .u8 0, .int .u8 0, .int .u8 0, .int .u8 0, .int .u8 0, .int .u8 0, .int .u8 0, .int .u8 0] 29)).heap.size (w.alloc (.cells #[.int .u8 0, .int .u8 0, .int .u8 0, .int .u8 0, .int .u8 0, .int .u8 0, .int .u8 0, .int .u8 0, .int .u8 0, .int .u8 0, .int .u8 0, .int .u8 0, .int .u8 0, .int .u8 0, .int .u8 0, .int .u8 0, .int .u8 0, .int .u8 0, .int .u8 0, .int .u8 0, .int .u8 0, .int .u8 0, .int .u8 0, .int .u8 0, .int .u8 0, .int .u8 0, .int .u8 0, .int .u8 0, .int .u8 0, .int .u8 0, .int .u8 0, .int .u8 0] 29)) w') := by rw [hcs]; exact CS
  have hcz : cs.size = 32 := by rw [hcs]; simp [sumL_len]
  have hi2 : Hid ((Try.prog.info? 29).map (·.size) = some cs.size) := by rw [hcz]; show _ = _; kernel_rfl
  have ho2 : Hid ((#[.int .u8 0, .int .u8 0, .int .u8 0, .int .u8 0, .int .u8 0, .int .u8 0, .int .u8 0, .int .u8 0, .int .u8 0, .int .u8 0, .int .u8 0, .int .u8 0, .int .u8 0, .int .u8 0, .int .u8 0, .int .u8 0, .int .u8 0, .int .u8 0, .int .u8 0, .int .u8 0, .int .u8 0, .int .u8 0, .int .u8 0, .int .u8 0, .int .u8 0, .int .u8 0, .int .u8 0, .int .u8 0, .int .u8 0, .int .u8 0, .int .u8 0, .int .u8 0] : Array Value).size = cs.size) := by rw [hcz]; show _ = _; rfl
  have hone2 : Hid (cs.all (·.oneCell') = true) := by rw [hcs]; exact one_bytes _
  have HB0 := Lib.hid hb0; have H0 := Lib.hid h0; have HR0 := Lib.hid hr0; have HS0 := Lib.hid hs0; have HCE := Lib.hid hcs; have HO := Lib.hid ho
  have hgl : g < w.heap.size := h.lt
  clear hb0 h0 hr0 hs0 CS hcs hcz h ho
  go_enter Try.func47, Try.ntmps47
  go_wp2_with fail
  with_reducible refine (HCS.out).mono ?_
  rintro e1 w1 ⟨rfl, hb1⟩
  have hl1 : w.heap.size + 1 ≤ w1.heap.size := by have := hb1.size; rw [HS0.out] at this; exact this
  have hrow1 : Hid ((w1.alloc (.cells #[.int .u8 0, .int .u8 0, .int .u8 0, .int .u8 0, .int .u8 0, .int .u8 0, .int .u8 0, .int .u8 0, .int .u8 0, .int .u8 0, .int .u8 0, .int .u8 0, .int .u8 0, .int .u8 0, .int .u8 0, .int .u8 0, .int .u8 0, .int .u8 0, .int .u8 0, .int .u8 0, .int .u8 0, .int .u8 0, .int .u8 0, .int .u8 0, .int .u8 0, .int .u8 0, .int .u8 0, .int .u8 0, .int .u8 0, .int .u8 0, .int .u8 0, .int .u8 0] 29)).heap[w1.heap.size]? = some (.cells #[.int .u8 0, .int .u8 0, .int .u8 0, .int .u8 0, .int .u8 0, .int .u8 0, .int .u8 0, .int .u8 0, .int .u8 0, .int .u8 0, .int .u8 0, .int .u8 0, .int .u8 0, .int .u8 0, .int .u8 0, .int .u8 0, .int .u8 0, .int .u8 0, .int .u8 0, .int .u8 0, .int .u8 0, .int .u8 0, .int .u8 0, .int .u8 0, .int .u8 0, .int .u8 0, .int .u8 0, .int .u8 0, .int .u8 0, .int .u8 0, .int .u8 0, .int .u8 0] 29 (0, 0))) := heap_alloc_new w1 _
  have hg2 := grew_row w1 (.cells #[.int .u8 0, .int .u8 0, .int .u8 0, .int .u8 0, .int .u8 0, .int .u8 0, .int .u8 0, .int .u8 0, .int .u8 0, .int .u8 0, .int .u8 0, .int .u8 0, .int .u8 0, .int .u8 0, .int .u8 0, .int .u8 0, .int .u8 0, .int .u8 0, .int .u8 0, .int .u8 0, .int .u8 0, .int .u8 0, .int .u8 0, .int .u8 0, .int .u8 0, .int .u8 0, .int .u8 0, .int .u8 0, .int .u8 0, .int .u8 0, .int .u8 0, .int .u8 0] 29) cs
  have hbe1 := HB0.out.trans (hb1.mono HB0.out.size)
  have hbe2 : Below w.heap.size w ((w1.alloc (.cells #[.int .u8 0, .int .u8 0, .int .u8 0, .int .u8 0, .int .u8 0, .int .u8 0, .int .u8 0, .int .u8 0, .int .u8 0, .int .u8 0, .int .u8 0, .int .u8 0, .int .u8 0, .int .u8 0, .int .u8 0, .int .u8 0, .int .u8 0, .int .u8 0, .int .u8 0, .int .u8 0, .int .u8 0, .int .u8 0, .int .u8 0, .int .u8 0, .int .u8 0, .int .u8 0, .int .u8 0, .int .u8 0, .int .u8 0, .int .u8 0, .int .u8 0, .int .u8 0] 29)).setRow w1.heap.size cs) := hbe1.grown hg2 hbe1.size (by simp)
  have hH2 := (H0.out.below hb1 H0.out.lt).grown hg2 (by simp)
  have hr2 : ((w1.alloc (.cells #[.int .u8 0, .int .u8 0, .int .u8 0, .int .u8 0, .int .u8 0, .int .u8 0, .int .u8 0, .int .u8 0, .int .u8 0, .int .u8 0, .int .u8 0, .int .u8 0, .int .u8 0, .int .u8 0, .int .u8 0, .int .u8 0, .int .u8 0, .int .u8 0, .int .u8 0, .int .u8 0, .int .u8 0, .int .u8 0, .int .u8 0, .int .u8 0, .int .u8 0, .int .u8 0, .int .u8 0, .int .u8 0, .int .u8 0, .int .u8 0, .int .u8 0, .int .u8 0] 29)).setRow w1.heap.size cs).heap[w.heap.size]? = some (.cells #[.int .u8 0, .int .u8 0, .int .u8 0, .int .u8 0, .int .u8 0, .int .u8 0, .int .u8 0, .int .u8 0, .int .u8 0, .int .u8 0, .int .u8 0, .int .u8 0, .int .u8 0, .int .u8 0, .int .u8 0, .int .u8 0, .int .u8 0, .int .u8 0, .int .u8 0, .int .u8 0, .int .u8 0, .int .u8 0, .int .u8 0, .int .u8 0, .int .u8 0, .int .u8 0, .int .u8 0, .int .u8 0, .int .u8 0, .int .u8 0, .int .u8 0, .int .u8 0] 29 (0, 0)) := (hg2.block _ (by omega) (by simp)).trans ((hb1.block _ (by rw [HS0.out]; omega)).trans HR0.out)
  have hi2' : Bw ((w1.alloc (.cells #[.int .u8 0, .int .u8 0, .int .u8 0, .int .u8 0, .int .u8 0, .int .u8 0, .int .u8 0, .int .u8 0, .int .u8 0, .int .u8 0, .int .u8 0, .int .u8 0, .int .u8 0, .int .u8 0, .int .u8 0, .int .u8 0, .int .u8 0, .int .u8 0, .int .u8 0, .int .u8 0, .int .u8 0, .int .u8 0, .int .u8 0, .int .u8 0, .int .u8 0, .int .u8 0, .int .u8 0, .int .u8 0, .int .u8 0, .int .u8 0, .int .u8 0, .int .u8 0] 29)).setRow w1.heap.size cs) w1.heap.size 29 (sumL L) := by
    show _ = _
    rw [← HCE.out]
    exact setRow_heap (w1.alloc _) w1.heap.size _ _ _ _ hrow1.out
  obtain ⟨w2, hw2⟩ : ∃ w2, w2 = (w1.alloc (.cells #[.int .u8 0, .int .u8 0, .int .u8 0, .int .u8 0, .int .u8 0, .int .u8 0, .int .u8 0, .int .u8 0, .int .u8 0, .int .u8 0, .int .u8 0, .int .u8 0, .int .u8 0, .int .u8 0, .int .u8 0, .int .u8 0, .int .u8 0, .int .u8 0, .int .u8 0, .int .u8 0, .int .u8 0, .int .u8 0, .int .u8 0, .int .u8 0, .int .u8 0, .int .u8 0, .int .u8 0, .int .u8 0, .int .u8 0, .int .u8 0, .int .u8 0, .int .u8 0] 29)).setRow w1.heap.size cs := ⟨_, rfl⟩
  rw [← hw2] at hbe2 hH2 hr2 hi2'
  have cutO : ∀ W, (Instr.sliceAt 37 (.pointer (some ⟨g, 73, none⟩)) none none none).run Try.prog W = .ok (.slice (some ⟨g, 73, none⟩) 64 64) W := fun W => cut_arr_all W
  have cutI : ∀ W, (Instr.sliceAt 29 (.pointer (some ⟨w1.heap.size, 0, none⟩)) none none none).run Try.prog W = .ok (.slice (some ⟨w1.heap.size, 0, none⟩) 32 32) W := fun W => cut32_all W
  have bO := hH2.ex_bs HO.out
  have bI := hi2'.bs (by rw [sumL_len]; unfold maxLen; omega)
  rw [sumL_len] at bI
  have hrs := Rs.lit w2 [.slice (some ⟨g, 73, none⟩) 64 64, .slice (some ⟨w1.heap.size, 0, none⟩) 32 32] [o, sumL L] rfl (by unfold maxLen; simp) (by
    intro j h1 h2
    rcases (by simp at h1; omega : j = 0 ∨ j = 1) with rfl | rfl
    · exact bO
    · exact bI)
  have hfl : ([o, sumL L] : List (List UInt8)).flatten = o ++ sumL L := by simp
  have CT := shaSum_any (w := (w2.alloc (.cells #[.slice (some ⟨g, 73, none⟩) 64 64, .slice (some ⟨w1.heap.size, 0, none⟩) 32 32] 22)).drew) hrs (by show _ ≤ (w2.alloc _).heap.size; simp) (by rw [hfl, List.length_append, HO.out, sumL_len]; omega)
  rw [hfl] at CT
  obtain ⟨Y, hY⟩ : ∃ Y, Y = (sumL (o ++ sumL L)).map vb := ⟨_, rfl⟩
  have hYl : Y.length = 32 := by rw [hY, List.length_map, sumL_len]
  have hY1 : Hid (∀ v ∈ Y, v.oneCell' = true) := by rw [hY]; exact vb_one _
  have hba : Below w2.heap.size w2 (w2.alloc (.cells #[.slice (some ⟨g, 73, none⟩) 64 64, .slice (some ⟨w1.heap.size, 0, none⟩) 32 32] 22)) := (Below.refl _ _).alloc (Nat.le_refl _) _
  have HCT : Hid (Calls Try.prog 64 #[.slice (some ⟨w2.heap.size, 0, none⟩) 2 2] ((w2.alloc (.cells #[.slice (some ⟨g, 73, none⟩) 64 64, .slice (some ⟨w1.heap.size, 0, none⟩) 32 32] 22)).drew) fun e w' => e = .returned (.agg Y.toArray) ∧ Below w2.heap.size w2 w') := by
    rw [hY]
    exact CT.mono fun _ _ hh => ⟨hh.1, hba.drew.trans (hh.2.mono hba.size)⟩
  have HW2 := Lib.hid hw2; have HBE2 := Lib.hid hbe2; have HR2 := Lib.hid hr2; have HYY := Lib.hid hY; have HYL := Lib.hid hYl
  have hl2 : w.heap.size < w2.heap.size := (Array.getElem?_eq_some_iff.1 hr2).1
  clear hw2 hbe2 hH2 hr2 hi2' bO bI hrs hfl CT hY hba hg2 hbe1 hb1
  go_wp2_with (with_reducible refine wpList_store_row rfl 29 (.tmp 3) (.tmp 7) rfl w1.heap.size cs rfl rfl 29 _ hrow1.out hi2.out ho2.out hone2.out ?_)
  rw [← HW2.out]
  have hinf : (Try.prog.info? 29).map (·.size) = some 32 := by kernel_rfl
  go_region_with (first
    | (go_at_call 64; refine (HCT.out).mono ?_; rintro e3 w3 ⟨rfl, hb3⟩; have hr3 : w3.heap[w.heap.size]? = some (.cells #[.int .u8 0, .int .u8 0, .int .u8 0, .int .u8 0, .int .u8 0, .int .u8 0, .int .u8 0, .int .u8 0, .int .u8 0, .int .u8 0, .int .u8 0, .int .u8 0, .int .u8 0, .int .u8 0, .int .u8 0, .int .u8 0, .int .u8 0, .int .u8 0, .int .u8 0, .int .u8 0, .int .u8 0, .int .u8 0, .int .u8 0, .int .u8 0, .int .u8 0, .int .u8 0, .int .u8 0, .int .u8 0, .int .u8 0, .int .u8 0, .int .u8 0, .int .u8 0] 29 (0, 0)) := (hb3.block _ hl2).trans HR2.out; have hst := store_row (Y := Y) hr3 (by rw [HYL.out]; rfl) hY1.out)
    | fail)
  all_goals
    have hb3' := HBE2.out.trans (hb3.mono HBE2.out.size)
    have hbe3 : Below w.heap.size w (w3.setRow w.heap.size Y.toArray) := hb3'.grown (row := some w.heap.size) ⟨rfl, rfl, rfl, by simp, fun j _ hj => setRow_other w3 w.heap.size j _ (fun e => hj (by rw [e]))⟩ hb3'.size (fun j hj => by simp only [Option.some.injEq] at hj; omega)
    have HB3 := Lib.hid hbe3; have HR3 := Lib.hid hr3
    have hiY : Hid ((Try.prog.info? 29).map (·.size) = some Y.toArray.size) := by rw [List.size_toArray, HYL.out]; exact hinf
    clear hst hb3 hb3' hbe3 hr3
    go_wp2_with fail
    (try simp only [Exit.inBlock, Exit.then])
    refine bodyPost_ret (results_cell_row rfl _ _ w.heap.size 29 Y.toArray (0, 0) _ rfl (setRow_heap w3 w.heap.size _ _ _ _ HR3.out) Try.underlying29 rfl hiY.out) rfl ?_
    exact ⟨by rw [HYY.out]; rfl, HB3.out⟩

set_option maxRecDepth 100000 in
set_option maxHeartbeats 1600000 in
theorem tag_any {key : List UInt8} {ls : List (List UInt8)} {v u : Value} {w : World} {B : Nat} (hb : Bs w B v key) (hr : Rs w B u ls) (hB : B ≤ w.heap.size) (hlen : key.length ≤ 1152921504606846000) (hlen2 : ls.flatten.length ≤ 1152921504606845000) :
    Calls Try.prog 43 #[v, u] w fun e w' => e = .returned (arr32 (tagL key ls.flatten)) ∧ Below w.heap.size w w' := by
  obtain ⟨F, hF⟩ : ∃ F, F = ls.flatten := ⟨_, rfl⟩
  rw [← hF] at hlen2 ⊢
  have hb0 : Below w.heap.size w (w.alloc (.cells #[.int .u8 0, .int .u8 0, .int .u8 0, .int .u8 0, .int .u8 0, .int .u8 0, .int .u8 0, .int .u8 0, .int .u8 0, .int .u8 0, .int .u8 0, .int .u8 0, .int .u8 0, .int .u8 0, .int .u8 0, .int .u8 0, .int .u8 0, .int .u8 0, .int .u8 0, .int .u8 0, .int .u8 0, .int .u8 0, .int .u8 0, .int .u8 0, .int .u8 0, .int .u8 0, .int .u8 0, .int .u8 0, .int .u8 0, .int .u8 0, .int .u8 0, .int .u8 0] 29)) := (Below.refl _ _).alloc (Nat.le_refl _) _
  have hs0 : (w.alloc (.cells #[.int .u8 0, .int .u8 0, .int .u8 0, .int .u8 0, .int .u8 0, .int .u8 0, .int .u8 0, .int .u8 0, .int .u8 0, .int .u8 0, .int .u8 0, .int .u8 0, .int .u8 0, .int .u8 0, .int .u8 0, .int .u8 0, .int .u8 0, .int .u8 0, .int .u8 0, .int .u8 0, .int .u8 0, .int .u8 0, .int .u8 0, .int .u8 0, .int .u8 0, .int .u8 0, .int .u8 0, .int .u8 0, .int .u8 0, .int .u8 0, .int .u8 0, .int .u8 0] 29)).heap.size = w.heap.size + 1 := by simp
  have hr0 : (w.alloc (.cells #[.int .u8 0, .int .u8 0, .int .u8 0, .int .u8 0, .int .u8 0, .int .u8 0, .int .u8 0, .int .u8 0, .int .u8 0, .int .u8 0, .int .u8 0, .int .u8 0, .int .u8 0, .int .u8 0, .int .u8 0, .int .u8 0, .int .u8 0, .int .u8 0, .int .u8 0, .int .u8 0, .int .u8 0, .int .u8 0, .int .u8 0, .int .u8 0, .int .u8 0, .int .u8 0, .int .u8 0, .int .u8 0, .int .u8 0, .int .u8 0, .int .u8 0, .int .u8 0] 29)).heap[w.heap.size]? = some (.cells #[.int .u8 0, .int .u8 0, .int .u8 0, .int .u8 0, .int .u8 0, .int .u8 0, .int .u8 0, .int .u8 0, .int .u8 0, .int .u8 0, .int .u8 0, .int .u8 0, .int .u8 0, .int .u8 0, .int .u8 0, .int .u8 0, .int .u8 0, .int .u8 0, .int .u8 0, .int .u8 0, .int .u8 0, .int .u8 0, .int .u8 0, .int .u8 0, .int .u8 0, .int .u8 0, .int .u8 0, .int .u8 0, .int .u8 0, .int .u8 0, .int .u8 0, .int .u8 0] 29 (0, 0)) := heap_alloc_new w _
  have CN := newTagger_any (hb.below hb0 hB) (by rw [hs0]; omega) hlen
  obtain ⟨cs, hcs⟩ : ∃ cs : Array Value, cs = ((tagL key F).map vb).toArray := ⟨_, rfl⟩
  have hcz : cs.size = 32 := by rw [hcs]; simp [tagL_len]
  have hi2 : Hid ((Try.prog.info? 29).map (·.size) = some cs.size) := by rw [hcz]; show _ = _; kernel_rfl
  have ho2 : Hid ((#[.int .u8 0, .int .u8 0, .int .u8 0, .int .u8 0, .int .u8 0, .int .u8 0, .int .u8 0, .int .u8 0, .int .u8 0, .int .u8 0, .int .u8 0, .int .u8 0, .int .u8 0, .int .u8 0, .int .u8 0, .int .u8 0, .int .u8 0, .int .u8 0, .int .u8 0, .int .u8 0, .int .u8 0, .int .u8 0, .int .u8 0, .int .u8 0, .int .u8 0, .int .u8 0, .int .u8 0, .int .u8 0, .int .u8 0, .int .u8 0, .int .u8 0, .int .u8 0] : Array Value).size = cs.size) := by rw [hcz]; show _ = _; rfl
  have hone2 : Hid (cs.all (·.oneCell') = true) := by rw [hcs]; exact one_bytes _
  have HCN := Lib.hid CN; have HB0 := Lib.hid hb0; have HR0 := Lib.hid hr0; have HS0 := Lib.hid hs0; have HCE := Lib.hid hcs; have HF := Lib.hid hF
  have HRS := Lib.hid (hr.below hb0 hB)
  clear hb0 hs0 hr0 CN hcs hcz hb hr hF
  go_enter Try.func43, Try.ntmps43
  go_wp2_with fail
  with_reducible refine (HCN.out).mono ?_
  rintro e1 w1 ⟨g, rfl, hg, h1, hb1⟩
  rw [HS0.out] at hg
  have CW := write_any h1 ((HRS.out.below hb1 (by rw [HS0.out]; omega)).rg (by omega)) (by rw [innerL_len, ← HF.out]; omega)
  rw [← HF.out] at CW
  have HCW := Lib.hid CW
  have hl1 : w.heap.size < w1.heap.size := by have := h1.lt; omega
  have HR1 : Hid (w1.heap[w.heap.size]? = some (.cells #[.int .u8 0, .int .u8 0, .int .u8 0, .int .u8 0, .int .u8 0, .int .u8 0, .int .u8 0, .int .u8 0, .int .u8 0, .int .u8 0, .int .u8 0, .int .u8 0, .int .u8 0, .int .u8 0, .int .u8 0, .int .u8 0, .int .u8 0, .int .u8 0, .int .u8 0, .int .u8 0, .int .u8 0, .int .u8 0, .int .u8 0, .int .u8 0, .int .u8 0, .int .u8 0, .int .u8 0, .int .u8 0, .int .u8 0, .int .u8 0, .int .u8 0, .int .u8 0] 29 (0, 0))) := Lib.hid ((hb1.block _ (by rw [HS0.out]; omega)).trans HR0.out)
  have HB1 := Lib.hid (HB0.out.trans (hb1.mono HB0.out.size))
  clear CW h1 hb1
  go_wp2_with fail
  with_reducible refine (HCW.out).mono ?_
  rintro e2 w2 ⟨rfl, h2, hg2⟩
  have CT := taggerSum_any h2 (outerL_len key) (by rw [List.length_append, innerL_len]; omega)
  have HCT : Hid (Calls Try.prog 47 #[.pointer (some ⟨g, 0, none⟩)] w2 fun e w' => e = .returned (.agg cs) ∧ Below w2.heap.size w2 w') := by rw [HCE.out]; exact CT
  have HR2 : Hid (w2.heap[w.heap.size]? = some (.cells #[.int .u8 0, .int .u8 0, .int .u8 0, .int .u8 0, .int .u8 0, .int .u8 0, .int .u8 0, .int .u8 0, .int .u8 0, .int .u8 0, .int .u8 0, .int .u8 0, .int .u8 0, .int .u8 0, .int .u8 0, .int .u8 0, .int .u8 0, .int .u8 0, .int .u8 0, .int .u8 0, .int .u8 0, .int .u8 0, .int .u8 0, .int .u8 0, .int .u8 0, .int .u8 0, .int .u8 0, .int .u8 0, .int .u8 0, .int .u8 0, .int .u8 0, .int .u8 0] 29 (0, 0))) := Lib.hid ((hg2.block _ hl1 (by simp; omega)).trans HR1.out)
  have HB2 := Lib.hid (HB1.out.grown hg2 HB1.out.size (fun j hj => by simp only [Option.some.injEq] at hj; omega))
  have hl2 : w.heap.size < w2.heap.size := Nat.lt_of_lt_of_le hl1 hg2.size
  clear CT h2 hg2
  go_wp2_with fail
  with_reducible refine (HCT.out).mono ?_
  rintro e3 w3 ⟨rfl, hb3⟩
  have hr3 : Hid (w3.heap[w.heap.size]? = some (.cells #[.int .u8 0, .int .u8 0, .int .u8 0, .int .u8 0, .int .u8 0, .int .u8 0, .int .u8 0, .int .u8 0, .int .u8 0, .int .u8 0, .int .u8 0, .int .u8 0, .int .u8 0, .int .u8 0, .int .u8 0, .int .u8 0, .int .u8 0, .int .u8 0, .int .u8 0, .int .u8 0, .int .u8 0, .int .u8 0, .int .u8 0, .int .u8 0, .int .u8 0, .int .u8 0, .int .u8 0, .int .u8 0, .int .u8 0, .int .u8 0, .int .u8 0, .int .u8 0] 29 (0, 0))) := Lib.hid ((hb3.block _ hl2).trans HR2.out)
  have hb3' := HB2.out.trans (hb3.mono HB2.out.size)
  have hbe3 : Below w.heap.size w (w3.setRow w.heap.size cs) := hb3'.grown (row := some w.heap.size) ⟨rfl, rfl, rfl, by simp, fun j _ hj => setRow_other w3 w.heap.size j _ (fun e => hj (by rw [e]))⟩ hb3'.size (fun j hj => by simp only [Option.some.injEq] at hj; omega)
  have HB3 := Lib.hid hbe3
  clear hb3 hb3' hbe3
  go_wp2_with (with_reducible refine wpList_store_row rfl 29 (.tmp 4) (.tmp 14) rfl w.heap.size cs rfl rfl 29 _ hr3.out hi2.out ho2.out hone2.out ?_)
  (try simp only [Exit.inBlock, Exit.then])
  refine bodyPost_ret (results_cell_row rfl _ _ w.heap.size 29 cs (0, 0) _ rfl (setRow_heap w3 w.heap.size _ _ _ _ hr3.out) Try.underlying29 rfl hi2.out) rfl ?_
  exact ⟨by rw [HCE.out]; rfl, HB3.out⟩
end Go.Proofs.Ytifgigpflfdmfaa
