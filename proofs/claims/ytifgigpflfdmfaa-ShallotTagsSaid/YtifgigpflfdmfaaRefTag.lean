/- The reference's tag; short tags. -/
import Derived.Test.YtifgigpflfdmfaaRefMac
import Derived.Test.YtifgigpflfdmfaaLooksB
namespace Go.Proofs.Ytifgigpflfdmfaa
open Go.RowKit

theorem there_row {w : World} {g n : Nat} {t : TypeId} {cur : Array Value} (h : w.heap[g]? = some (.cells cur t (0, 0))) (hl : cur.size = n) : w.there g 0 n := by
  intro j hj
  rw [Nat.zero_add, cell_of_row w g j _ _ _ h]
  exact ⟨by simp [hl, hj], frozen_of_row w g j _ _ h⟩

set_option maxRecDepth 100000 in
set_option maxHeartbeats 1600000 in
theorem refTag_any {key b : List UInt8} {v u : Value} {w : World} {B B2 : Nat} (hb : Bs w B v key) (hB : B ≤ w.heap.size) (hu : Bs w B2 u b) (hB2 : B2 ≤ w.heap.size) (hlen : key.length ≤ 140737488355128) (hlen2 : b.length ≤ 140737488355000) :
    Calls Try.prog 53 #[v, u] w fun e w' => e = .returned (arr32 (tagL key b)) ∧ Below w.heap.size w w' := by
  have hb0 : Below w.heap.size w (w.alloc (.cells #[.int .u8 0, .int .u8 0, .int .u8 0, .int .u8 0, .int .u8 0, .int .u8 0, .int .u8 0, .int .u8 0, .int .u8 0, .int .u8 0, .int .u8 0, .int .u8 0, .int .u8 0, .int .u8 0, .int .u8 0, .int .u8 0, .int .u8 0, .int .u8 0, .int .u8 0, .int .u8 0, .int .u8 0, .int .u8 0, .int .u8 0, .int .u8 0, .int .u8 0, .int .u8 0, .int .u8 0, .int .u8 0, .int .u8 0, .int .u8 0, .int .u8 0, .int .u8 0] 29)) := (Below.refl _ _).alloc (Nat.le_refl _) _
  have hs0 : (w.alloc (.cells #[.int .u8 0, .int .u8 0, .int .u8 0, .int .u8 0, .int .u8 0, .int .u8 0, .int .u8 0, .int .u8 0, .int .u8 0, .int .u8 0, .int .u8 0, .int .u8 0, .int .u8 0, .int .u8 0, .int .u8 0, .int .u8 0, .int .u8 0, .int .u8 0, .int .u8 0, .int .u8 0, .int .u8 0, .int .u8 0, .int .u8 0, .int .u8 0, .int .u8 0, .int .u8 0, .int .u8 0, .int .u8 0, .int .u8 0, .int .u8 0, .int .u8 0, .int .u8 0] 29)).heap.size = w.heap.size + 1 := by simp
  have hr0 : (w.alloc (.cells #[.int .u8 0, .int .u8 0, .int .u8 0, .int .u8 0, .int .u8 0, .int .u8 0, .int .u8 0, .int .u8 0, .int .u8 0, .int .u8 0, .int .u8 0, .int .u8 0, .int .u8 0, .int .u8 0, .int .u8 0, .int .u8 0, .int .u8 0, .int .u8 0, .int .u8 0, .int .u8 0, .int .u8 0, .int .u8 0, .int .u8 0, .int .u8 0, .int .u8 0, .int .u8 0, .int .u8 0, .int .u8 0, .int .u8 0, .int .u8 0, .int .u8 0, .int .u8 0] 29)).heap[w.heap.size]? = some (.cells #[.int .u8 0, .int .u8 0, .int .u8 0, .int .u8 0, .int .u8 0, .int .u8 0, .int .u8 0, .int .u8 0, .int .u8 0, .int .u8 0, .int .u8 0, .int .u8 0, .int .u8 0, .int .u8 0, .int .u8 0, .int .u8 0, .int .u8 0, .int .u8 0, .int .u8 0, .int .u8 0, .int .u8 0, .int .u8 0, .int .u8 0, .int .u8 0, .int .u8 0, .int .u8 0, .int .u8 0, .int .u8 0, .int .u8 0, .int .u8 0, .int .u8 0, .int .u8 0] 29 (0, 0)) := heap_alloc_new w _
  have CI := inside_any (hb.below hb0 hB) (by rw [hs0]; omega) (hu.below hb0 hB2) (by rw [hs0]; omega) hlen hlen2
  obtain ⟨is, his⟩ : ∃ is : Array Value, is = ((insideL key b).map vb).toArray := ⟨_, rfl⟩
  have HCI : Hid (Calls Try.prog 69 #[v, u] (w.alloc (.cells #[.int .u8 0, .int .u8 0, .int .u8 0, .int .u8 0, .int .u8 0, .int .u8 0, .int .u8 0, .int .u8 0, .int .u8 0, .int .u8 0, .int .u8 0, .int .u8 0, .int .u8 0, .int .u8 0, .int .u8 0, .int .u8 0, .int .u8 0, .int .u8 0, .int .u8 0, .int .u8 0, .int .u8 0, .int .u8 0, .int .u8 0, .int .u8 0, .int .u8 0, .int .u8 0, .int .u8 0, .int .u8 0, .int .u8 0, .int .u8 0, .int .u8 0, .int .u8 0] 29)) fun e w' => e = .returned (.agg is) ∧ Below (w.heap.size + 1) (w.alloc (.cells #[.int .u8 0, .int .u8 0, .int .u8 0, .int .u8 0, .int .u8 0, .int .u8 0, .int .u8 0, .int .u8 0, .int .u8 0, .int .u8 0, .int .u8 0, .int .u8 0, .int .u8 0, .int .u8 0, .int .u8 0, .int .u8 0, .int .u8 0, .int .u8 0, .int .u8 0, .int .u8 0, .int .u8 0, .int .u8 0, .int .u8 0, .int .u8 0, .int .u8 0, .int .u8 0, .int .u8 0, .int .u8 0, .int .u8 0, .int .u8 0, .int .u8 0, .int .u8 0] 29)) w') := by
    rw [hs0] at CI
    rw [his]
    exact CI
  have hcz : is.size = 32 := by rw [his]; simp [insideL, sumL_len]
  have hi2 : Hid ((Try.prog.info? 29).map (·.size) = some is.size) := by rw [hcz]; show _ = _; kernel_rfl
  have ho2 : Hid ((#[.int .u8 0, .int .u8 0, .int .u8 0, .int .u8 0, .int .u8 0, .int .u8 0, .int .u8 0, .int .u8 0, .int .u8 0, .int .u8 0, .int .u8 0, .int .u8 0, .int .u8 0, .int .u8 0, .int .u8 0, .int .u8 0, .int .u8 0, .int .u8 0, .int .u8 0, .int .u8 0, .int .u8 0, .int .u8 0, .int .u8 0, .int .u8 0, .int .u8 0, .int .u8 0, .int .u8 0, .int .u8 0, .int .u8 0, .int .u8 0, .int .u8 0, .int .u8 0] : Array Value).size = is.size) := by rw [hcz]; show _ = _; rfl
  have hone2 : Hid (is.all (·.oneCell') = true) := by rw [his]; exact one_bytes _
  obtain ⟨Y, hY⟩ : ∃ Y, Y = (tagL key b).map vb := ⟨_, rfl⟩
  have hYl : Y.length = 32 := by rw [hY, List.length_map, tagL_len]
  have hY1 : Hid (∀ v ∈ Y, v.oneCell' = true) := by rw [hY]; exact vb_one _
  have HB0 := Lib.hid hb0; have HR0 := Lib.hid hr0; have HIE := Lib.hid his; have HKB := Lib.hid (hb.below hb0 hB); have HYL := Lib.hid hYl; have HYY := Lib.hid hY
  clear hb0 hr0 CI his hcz hb hu hs0 hY
  have hinf : (Try.prog.info? 29).map (·.size) = some 32 := by kernel_rfl
  go_enter Try.func53, Try.ntmps53
  go_wp2_with fail
  with_reducible refine (HCI.out).mono ?_
  rintro e1 w1 ⟨rfl, hb1⟩
  have hl1 : w.heap.size + 1 ≤ w1.heap.size := by have := hb1.size; simp at this; omega
  have hrow1 : Hid ((w1.alloc (.cells #[.int .u8 0, .int .u8 0, .int .u8 0, .int .u8 0, .int .u8 0, .int .u8 0, .int .u8 0, .int .u8 0, .int .u8 0, .int .u8 0, .int .u8 0, .int .u8 0, .int .u8 0, .int .u8 0, .int .u8 0, .int .u8 0, .int .u8 0, .int .u8 0, .int .u8 0, .int .u8 0, .int .u8 0, .int .u8 0, .int .u8 0, .int .u8 0, .int .u8 0, .int .u8 0, .int .u8 0, .int .u8 0, .int .u8 0, .int .u8 0, .int .u8 0, .int .u8 0] 29)).heap[w1.heap.size]? = some (.cells #[.int .u8 0, .int .u8 0, .int .u8 0, .int .u8 0, .int .u8 0, .int .u8 0, .int .u8 0, .int .u8 0, .int .u8 0, .int .u8 0, .int .u8 0, .int .u8 0, .int .u8 0, .int .u8 0, .int .u8 0, .int .u8 0, .int .u8 0, .int .u8 0, .int .u8 0, .int .u8 0, .int .u8 0, .int .u8 0, .int .u8 0, .int .u8 0, .int .u8 0, .int .u8 0, .int .u8 0, .int .u8 0, .int .u8 0, .int .u8 0, .int .u8 0, .int .u8 0] 29 (0, 0))) := heap_alloc_new w1 _
  have hg2 := grew_row w1 (.cells #[.int .u8 0, .int .u8 0, .int .u8 0, .int .u8 0, .int .u8 0, .int .u8 0, .int .u8 0, .int .u8 0, .int .u8 0, .int .u8 0, .int .u8 0, .int .u8 0, .int .u8 0, .int .u8 0, .int .u8 0, .int .u8 0, .int .u8 0, .int .u8 0, .int .u8 0, .int .u8 0, .int .u8 0, .int .u8 0, .int .u8 0, .int .u8 0, .int .u8 0, .int .u8 0, .int .u8 0, .int .u8 0, .int .u8 0, .int .u8 0, .int .u8 0, .int .u8 0] 29) is
  have hbe1 := HB0.out.trans (hb1.mono (by omega))
  have hbe2 : Below w.heap.size w ((w1.alloc (.cells #[.int .u8 0, .int .u8 0, .int .u8 0, .int .u8 0, .int .u8 0, .int .u8 0, .int .u8 0, .int .u8 0, .int .u8 0, .int .u8 0, .int .u8 0, .int .u8 0, .int .u8 0, .int .u8 0, .int .u8 0, .int .u8 0, .int .u8 0, .int .u8 0, .int .u8 0, .int .u8 0, .int .u8 0, .int .u8 0, .int .u8 0, .int .u8 0, .int .u8 0, .int .u8 0, .int .u8 0, .int .u8 0, .int .u8 0, .int .u8 0, .int .u8 0, .int .u8 0] 29)).setRow w1.heap.size is) := hbe1.grown hg2 hbe1.size (by simp)
  have hr2 : ((w1.alloc (.cells #[.int .u8 0, .int .u8 0, .int .u8 0, .int .u8 0, .int .u8 0, .int .u8 0, .int .u8 0, .int .u8 0, .int .u8 0, .int .u8 0, .int .u8 0, .int .u8 0, .int .u8 0, .int .u8 0, .int .u8 0, .int .u8 0, .int .u8 0, .int .u8 0, .int .u8 0, .int .u8 0, .int .u8 0, .int .u8 0, .int .u8 0, .int .u8 0, .int .u8 0, .int .u8 0, .int .u8 0, .int .u8 0, .int .u8 0, .int .u8 0, .int .u8 0, .int .u8 0] 29)).setRow w1.heap.size is).heap[w.heap.size]? = some (.cells #[.int .u8 0, .int .u8 0, .int .u8 0, .int .u8 0, .int .u8 0, .int .u8 0, .int .u8 0, .int .u8 0, .int .u8 0, .int .u8 0, .int .u8 0, .int .u8 0, .int .u8 0, .int .u8 0, .int .u8 0, .int .u8 0, .int .u8 0, .int .u8 0, .int .u8 0, .int .u8 0, .int .u8 0, .int .u8 0, .int .u8 0, .int .u8 0, .int .u8 0, .int .u8 0, .int .u8 0, .int .u8 0, .int .u8 0, .int .u8 0, .int .u8 0, .int .u8 0] 29 (0, 0)) := (hg2.block _ (by omega) (by simp)).trans ((hb1.block _ (by omega)).trans HR0.out)
  have hi2' : Bw ((w1.alloc (.cells #[.int .u8 0, .int .u8 0, .int .u8 0, .int .u8 0, .int .u8 0, .int .u8 0, .int .u8 0, .int .u8 0, .int .u8 0, .int .u8 0, .int .u8 0, .int .u8 0, .int .u8 0, .int .u8 0, .int .u8 0, .int .u8 0, .int .u8 0, .int .u8 0, .int .u8 0, .int .u8 0, .int .u8 0, .int .u8 0, .int .u8 0, .int .u8 0, .int .u8 0, .int .u8 0, .int .u8 0, .int .u8 0, .int .u8 0, .int .u8 0, .int .u8 0, .int .u8 0] 29)).setRow w1.heap.size is) w1.heap.size 29 (insideL key b) := by
    show _ = _
    rw [← HIE.out]
    exact setRow_heap (w1.alloc _) w1.heap.size _ _ _ _ hrow1.out
  have hkb2 : Bs ((w1.alloc (.cells #[.int .u8 0, .int .u8 0, .int .u8 0, .int .u8 0, .int .u8 0, .int .u8 0, .int .u8 0, .int .u8 0, .int .u8 0, .int .u8 0, .int .u8 0, .int .u8 0, .int .u8 0, .int .u8 0, .int .u8 0, .int .u8 0, .int .u8 0, .int .u8 0, .int .u8 0, .int .u8 0, .int .u8 0, .int .u8 0, .int .u8 0, .int .u8 0, .int .u8 0, .int .u8 0, .int .u8 0, .int .u8 0, .int .u8 0, .int .u8 0, .int .u8 0, .int .u8 0] 29)).setRow w1.heap.size is) B v key := by
    have h1 := HKB.out.below hb1 (by omega)
    have hb2 : Below w1.heap.size w1 ((w1.alloc (.cells #[.int .u8 0, .int .u8 0, .int .u8 0, .int .u8 0, .int .u8 0, .int .u8 0, .int .u8 0, .int .u8 0, .int .u8 0, .int .u8 0, .int .u8 0, .int .u8 0, .int .u8 0, .int .u8 0, .int .u8 0, .int .u8 0, .int .u8 0, .int .u8 0, .int .u8 0, .int .u8 0, .int .u8 0, .int .u8 0, .int .u8 0, .int .u8 0, .int .u8 0, .int .u8 0, .int .u8 0, .int .u8 0, .int .u8 0, .int .u8 0, .int .u8 0, .int .u8 0] 29)).setRow w1.heap.size is) := (Below.refl _ _).grown hg2 (Nat.le_refl _) (by simp)
    exact h1.below hb2 (by omega)
  obtain ⟨w2, hw2⟩ : ∃ w2, w2 = (w1.alloc (.cells #[.int .u8 0, .int .u8 0, .int .u8 0, .int .u8 0, .int .u8 0, .int .u8 0, .int .u8 0, .int .u8 0, .int .u8 0, .int .u8 0, .int .u8 0, .int .u8 0, .int .u8 0, .int .u8 0, .int .u8 0, .int .u8 0, .int .u8 0, .int .u8 0, .int .u8 0, .int .u8 0, .int .u8 0, .int .u8 0, .int .u8 0, .int .u8 0, .int .u8 0, .int .u8 0, .int .u8 0, .int .u8 0, .int .u8 0, .int .u8 0, .int .u8 0, .int .u8 0] 29)).setRow w1.heap.size is := ⟨_, rfl⟩
  rw [← hw2] at hbe2 hr2 hi2' hkb2
  have cutI : ∀ W, (Instr.sliceAt 29 (.pointer (some ⟨w1.heap.size, 0, none⟩)) none none none).run Try.prog W = .ok (.slice (some ⟨w1.heap.size, 0, none⟩) 32 32) W := fun W => cut32_all W
  have hl2 : w1.heap.size < w2.heap.size := hi2'.lt
  have CB := refblock_any (w := w2.drew) hkb2 (by show B ≤ w2.heap.size; omega) hlen 92
  have HCB : Hid (Calls Try.prog 71 #[v, .int .u8 92] w2.drew fun e w' => ∃ u, e = .returned u ∧ Own w' w2.heap.size u (outerL key) ∧ Below w2.heap.size w2 w') := CB.mono fun _ _ ⟨u, h1, h2, h3⟩ => ⟨u, h1, h2, ⟨h3.os, h3.tape, h3.output, h3.size, h3.block⟩⟩
  have HW2 := Lib.hid hw2; have HBE2 := Lib.hid hbe2; have HR2 := Lib.hid hr2; have HI2 := Lib.hid hi2'
  obtain ⟨M, hM⟩ : ∃ M, M = outerL key ++ insideL key b := ⟨_, rfl⟩
  have hMl : M.length = 96 := by rw [hM, List.length_append, outerL_len, insideL, sumL_len]
  have HM := Lib.hid hM; have HML := Lib.hid hMl
  have hTM : Hid (tagL key b = sumL M) := by show _ = _; rw [tagL, hM]
  have hil : Hid ((insideL key b).length = 32) := by show _ = _; rw [insideL, sumL_len]
  have hol : Hid ((outerL key).length = 64) := outerL_len key
  clear hw2 hbe2 hr2 hi2' hkb2 CB hM hMl hg2 hbe1 hb1
  go_wp2_with (with_reducible refine wpList_store_row rfl 29 (.tmp 5) (.tmp 8) rfl w1.heap.size is rfl rfl 29 _ hrow1.out hi2.out ho2.out hone2.out ?_)
  rw [← HW2.out]
  go_region_held3 (fun _ => True) (exact trivial) (first
    | (go_at_call 71; refine (HCB.out).mono ?_; rintro e3 w3 ⟨u3, rfl, h3, hb3⟩; have hI3 := HI2.out.below hb3 hl2; have bI := hI3.bs (by rw [hil.out]; unfold maxLen; omega); rw [hil.out] at bI; obtain ⟨A3, c3, rfl⟩ := h3.shapeN hol.out; have hl3 := hb3.size)
    | (refine step_app rfl (.tmp 10) (.tmp 11) rfl rfl h3 rfl bI (by rw [hol.out, hil.out]; omega) hl3 ?_; intro v4 w4 hv4 hg4 hown4; rw [← HM.out] at hv4; obtain ⟨A4, c4, rfl⟩ := hv4.shapeN HML.out)
    | (go_at_call 70; have CS := refSum_any hv4.bs (Nat.le_refl _) (by rw [HML.out]; omega); have CS2 : Calls Try.prog 70 #[.slice A4 96 c4] w4 fun e w' => e = .returned (.agg Y.toArray) ∧ Below w4.heap.size w4 w' := (by rw [HYY.out, hTM.out]; exact CS); refine CS2.mono ?_; rintro e5 w5 ⟨rfl, hb5⟩; have hb4 : Below w.heap.size w w4 := (HBE2.out.trans (hb3.mono HBE2.out.size)).grown hg4 (Nat.le_trans HBE2.out.size hl3) (fun j hj => Nat.le_trans HBE2.out.size (h3.lt j hj).1); have hr4 : w4.heap[w.heap.size]? = some (.cells #[.int .u8 0, .int .u8 0, .int .u8 0, .int .u8 0, .int .u8 0, .int .u8 0, .int .u8 0, .int .u8 0, .int .u8 0, .int .u8 0, .int .u8 0, .int .u8 0, .int .u8 0, .int .u8 0, .int .u8 0, .int .u8 0, .int .u8 0, .int .u8 0, .int .u8 0, .int .u8 0, .int .u8 0, .int .u8 0, .int .u8 0, .int .u8 0, .int .u8 0, .int .u8 0, .int .u8 0, .int .u8 0, .int .u8 0, .int .u8 0, .int .u8 0, .int .u8 0] 29 (0, 0)) := (hg4.block _ (by omega) (fun e => by have := (h3.lt _ e.symm).1; omega)).trans ((hb3.block _ (by omega)).trans HR2.out); have hr5 : w5.heap[w.heap.size]? = some (.cells #[.int .u8 0, .int .u8 0, .int .u8 0, .int .u8 0, .int .u8 0, .int .u8 0, .int .u8 0, .int .u8 0, .int .u8 0, .int .u8 0, .int .u8 0, .int .u8 0, .int .u8 0, .int .u8 0, .int .u8 0, .int .u8 0, .int .u8 0, .int .u8 0, .int .u8 0, .int .u8 0, .int .u8 0, .int .u8 0, .int .u8 0, .int .u8 0, .int .u8 0, .int .u8 0, .int .u8 0, .int .u8 0, .int .u8 0, .int .u8 0, .int .u8 0, .int .u8 0] 29 (0, 0)) := (hb5.block _ (Array.getElem?_eq_some_iff.1 hr4).1).trans hr4; have hth := there_row hr5 (n := 32) rfl)
    | fail)
  have hb5' := hb4.trans (hb5.mono hb4.size)
  have hgr5 := setCells_grown w.heap.size Y 0 w5
  have HB5 := Lib.hid (hb5'.grown hgr5 hb5'.size (fun j hj => by simp only [Option.some.injEq] at hj; omega))
  have HR5 : Hid ((w5.setCells w.heap.size 0 Y).heap[w.heap.size]? = some (.cells Y.toArray 29 (0, 0))) := Lib.hid (setCells_whole hr5 (by rw [HYL.out]; rfl))
  have hiY : Hid ((Try.prog.info? 29).map (·.size) = some Y.toArray.size) := by rw [List.size_toArray, HYL.out]; exact hinf
  clear hth hb5 hb5' hgr5 hr5 hr4 hb4 hg4 hv4 h3 hb3
  go_wp2_with fail
  (try simp only [Exit.inBlock, Exit.then])
  refine bodyPost_ret (results_cell_row rfl _ _ w.heap.size 29 Y.toArray (0, 0) _ rfl HR5.out Try.underlying29 rfl hiY.out) rfl ?_
  exact ⟨by rw [HYY.out]; rfl, HB5.out⟩
end Go.Proofs.Ytifgigpflfdmfaa
