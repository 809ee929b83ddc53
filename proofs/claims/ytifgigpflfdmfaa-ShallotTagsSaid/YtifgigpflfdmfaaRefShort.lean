/- the reference's Short; told. -/
import Derived.Test.YtifgigpflfdmfaaRefTag
import Derived.Test.YtifgigpflfdmfaaMacShort
import Derived.Test.YtifgigpflfdmfaaCopyB
namespace Go.Proofs.Ytifgigpflfdmfaa
open Go.RowKit

theorem cut32_16 {g : Nat} (W : World) : (Instr.sliceAt 29 (.pointer (some ⟨g, 0, none⟩)) none (some (.int .i64 16)) none).run Try.prog W = .ok (.slice (some ⟨g, 0, none⟩) 16 32) W := by
  rw [run_sliceAt_array_h _ _ _ arr32u _ _ (by omega) (by rw [len32]; omega), elem32, u8sizeOf, len32]
  simp [Result.andThen, slicedAt, Addr.add_lit]
set_option maxRecDepth 100000 in
set_option maxHeartbeats 1600000 in
theorem refShort_any {key b : List UInt8} {v u : Value} {w : World} {B B2 : Nat} (hb : Bs w B v key) (hB : B ≤ w.heap.size) (hu : Bs w B2 u b) (hB2 : B2 ≤ w.heap.size) (hlen : key.length ≤ 140737488355128) (hlen2 : b.length ≤ 140737488355000) :
    Calls Try.prog 18 #[v, u] w fun e w' => ∃ x, e = .returned x ∧ Own w' w.heap.size x (shortL key b) ∧ Below w.heap.size w w' := by
  have CT := refTag_any hb hB hu hB2 hlen hlen2
  obtain ⟨cs, hcs⟩ : ∃ cs : Array Value, cs = ((tagL key b).map vb).toArray := ⟨_, rfl⟩
  have HCT : Hid (Calls Try.prog 53 #[v, u] w fun e w' => e = .returned (.agg cs) ∧ Below w.heap.size w w') := by rw [hcs]; exact CT
  have hcz : cs.size = 32 := by rw [hcs]; simp [tagL_len]
  have hi2 : Hid ((Try.prog.info? 29).map (·.size) = some cs.size) := by rw [hcz]; show _ = _; kernel_rfl
  have ho2 : Hid ((#[.int .u8 0, .int .u8 0, .int .u8 0, .int .u8 0, .int .u8 0, .int .u8 0, .int .u8 0, .int .u8 0, .int .u8 0, .int .u8 0, .int .u8 0, .int .u8 0, .int .u8 0, .int .u8 0, .int .u8 0, .int .u8 0, .int .u8 0, .int .u8 0, .int .u8 0, .int .u8 0, .int .u8 0, .int .u8 0, .int .u8 0, .int .u8 0, .int .u8 0, .int .u8 0, .int .u8 0, .int .u8 0, .int .u8 0, .int .u8 0, .int .u8 0, .int .u8 0] : Array Value).size = cs.size) := by rw [hcz]; show _ = _; rfl
  have hone2 : Hid (cs.all (·.oneCell') = true) := by rw [hcs]; exact one_bytes _
  have HCE := Lib.hid hcs
  clear CT hcs hcz hb hu
  go_enter Try.func18, Try.ntmps18
  go_wp2_with fail
  with_reducible refine (HCT.out).mono ?_
  rintro e1 w1 ⟨rfl, hb1⟩
  have hrow1 : Hid ((w1.alloc (.cells #[.int .u8 0, .int .u8 0, .int .u8 0, .int .u8 0, .int .u8 0, .int .u8 0, .int .u8 0, .int .u8 0, .int .u8 0, .int .u8 0, .int .u8 0, .int .u8 0, .int .u8 0, .int .u8 0, .int .u8 0, .int .u8 0, .int .u8 0, .int .u8 0, .int .u8 0, .int .u8 0, .int .u8 0, .int .u8 0, .int .u8 0, .int .u8 0, .int .u8 0, .int .u8 0, .int .u8 0, .int .u8 0, .int .u8 0, .int .u8 0, .int .u8 0, .int .u8 0] 29)).heap[w1.heap.size]? = some (.cells #[.int .u8 0, .int .u8 0, .int .u8 0, .int .u8 0, .int .u8 0, .int .u8 0, .int .u8 0, .int .u8 0, .int .u8 0, .int .u8 0, .int .u8 0, .int .u8 0, .int .u8 0, .int .u8 0, .int .u8 0, .int .u8 0, .int .u8 0, .int .u8 0, .int .u8 0, .int .u8 0, .int .u8 0, .int .u8 0, .int .u8 0, .int .u8 0, .int .u8 0, .int .u8 0, .int .u8 0, .int .u8 0, .int .u8 0, .int .u8 0, .int .u8 0, .int .u8 0] 29 (0, 0))) := heap_alloc_new w1 _
  have hbe2 : Below w.heap.size w ((w1.alloc (.cells #[.int .u8 0, .int .u8 0, .int .u8 0, .int .u8 0, .int .u8 0, .int .u8 0, .int .u8 0, .int .u8 0, .int .u8 0, .int .u8 0, .int .u8 0, .int .u8 0, .int .u8 0, .int .u8 0, .int .u8 0, .int .u8 0, .int .u8 0, .int .u8 0, .int .u8 0, .int .u8 0, .int .u8 0, .int .u8 0, .int .u8 0, .int .u8 0, .int .u8 0, .int .u8 0, .int .u8 0, .int .u8 0, .int .u8 0, .int .u8 0, .int .u8 0, .int .u8 0] 29)).setRow w1.heap.size cs) := hb1.grown (grew_row w1 _ cs) hb1.size (by simp)
  have hi2' : Bw ((w1.alloc (.cells #[.int .u8 0, .int .u8 0, .int .u8 0, .int .u8 0, .int .u8 0, .int .u8 0, .int .u8 0, .int .u8 0, .int .u8 0, .int .u8 0, .int .u8 0, .int .u8 0, .int .u8 0, .int .u8 0, .int .u8 0, .int .u8 0, .int .u8 0, .int .u8 0, .int .u8 0, .int .u8 0, .int .u8 0, .int .u8 0, .int .u8 0, .int .u8 0, .int .u8 0, .int .u8 0, .int .u8 0, .int .u8 0, .int .u8 0, .int .u8 0, .int .u8 0, .int .u8 0] 29)).setRow w1.heap.size cs) w1.heap.size 29 (tagL key b) := by
    show _ = _
    rw [← HCE.out]
    exact setRow_heap (w1.alloc _) w1.heap.size _ _ _ _ hrow1.out
  obtain ⟨w2, hw2⟩ : ∃ w2, w2 = (w1.alloc (.cells #[.int .u8 0, .int .u8 0, .int .u8 0, .int .u8 0, .int .u8 0, .int .u8 0, .int .u8 0, .int .u8 0, .int .u8 0, .int .u8 0, .int .u8 0, .int .u8 0, .int .u8 0, .int .u8 0, .int .u8 0, .int .u8 0, .int .u8 0, .int .u8 0, .int .u8 0, .int .u8 0, .int .u8 0, .int .u8 0, .int .u8 0, .int .u8 0, .int .u8 0, .int .u8 0, .int .u8 0, .int .u8 0, .int .u8 0, .int .u8 0, .int .u8 0, .int .u8 0] 29)).setRow w1.heap.size cs := ⟨_, rfl⟩
  rw [← hw2] at hbe2 hi2'
  have cutI : ∀ W, (Instr.sliceAt 29 (.pointer (some ⟨w1.heap.size, 0, none⟩)) none (some (.int .i64 16)) none).run Try.prog W = .ok (.slice (some ⟨w1.heap.size, 0, none⟩) 16 32) W := fun W => cut32_16 W
  have bS : Bs w2 w2.heap.size (.slice (some ⟨w1.heap.size, 0, none⟩) 16 32) (shortL key b) := by
    refine ⟨_, 32, by rw [shortL_len], by rw [shortL_len]; omega, by unfold maxLen; omega, fun _ => ⟨_, 0, rfl, hi2'.lt, fun j hj => ?_⟩⟩
    rw [shortL_len] at hj
    have hj2 : j < (tagL key b).length := by rw [tagL_len]; omega
    rw [Nat.zero_add, (hi2'.at_ hj2).1]
    simp [shortL]
  have CC := Lib.hid (copy_any bS (Nat.le_refl _) (by rw [shortL_len]; omega))
  have HW2 := Lib.hid hw2; have HB2 := Lib.hid hbe2
  clear hw2 hbe2 hi2' bS hb1
  go_wp2_with (with_reducible refine wpList_store_row rfl 29 (.tmp 5) (.tmp 8) rfl w1.heap.size cs rfl rfl 29 _ hrow1.out hi2.out ho2.out hone2.out ?_; rw [← HW2.out])
  refine (CC.out).mono ?_
  rintro e3 w3 ⟨x, rfl, hx, hb3⟩
  obtain ⟨Ax, cx, rfl⟩ := hx.shapeN (shortL_len key b)
  have HX := Lib.hid (hx.more HB2.out.size)
  have HB3 := Lib.hid (HB2.out.trans (hb3.mono HB2.out.size))
  clear hx hb3
  go_wp2
  go_ret
  exact ⟨_, rfl, HX.out, HB3.out⟩

end Go.Proofs.Ytifgigpflfdmfaa
