/- The reference's short tag; the fixed fact of layer 3; the laws MacTags and MacChecks, walked. -/
import Derived.Test.YtlheekbbioajpaaMacShort
import Derived.Lib.SlBytesConst
namespace Go.Proofs.Ytlheekbbioajpaa
open Go.RowKit

theorem cut32_16 {g : Nat} (W : World) : (Instr.sliceAt 34 (.pointer (some ⟨g, 0, none⟩)) none (some (.int .i64 16)) none).run Try.prog W = .ok (.slice (some ⟨g, 0, none⟩) 16 32) W := by
  rw [run_sliceAt_array_h _ _ _ arr32u _ _ (by omega) (by rw [len32]; omega), elem32, u8sizeOf, len32]
  simp [Result.andThen, slicedAt, Addr.add_lit]
set_option maxRecDepth 100000 in
set_option maxHeartbeats 1600000 in
theorem refShort_any {key b : List UInt8} {v u : Value} {w : World} {B B2 : Nat} (hb : Bs w B v key) (hB : B ≤ w.heap.size) (hu : Bs w B2 u b) (hB2 : B2 ≤ w.heap.size) (hlen : key.length ≤ 140737488355128) (hlen2 : b.length ≤ 140737488355000) :
    Calls Try.prog 22 #[v, u] w fun e w' => ∃ x, e = .returned x ∧ Own w' w.heap.size x (shortL key b) ∧ Below w.heap.size w w' := by
  have CT := refTag_any hb hB hu hB2 hlen hlen2
  obtain ⟨cs, hcs⟩ : ∃ cs : Array Value, cs = ((tagL key b).map vb).toArray := ⟨_, rfl⟩
  have HCT : Hid (Calls Try.prog 15 #[v, u] w fun e w' => e = .returned (.agg cs) ∧ Below w.heap.size w w') := by rw [hcs]; exact CT
  have hcz : cs.size = 32 := by rw [hcs]; simp [tagL_len]
  have hi2 : Hid ((Try.prog.info? 34).map (·.size) = some cs.size) := by rw [hcz]; show _ = _; kernel_rfl
  have ho2 : Hid ((#[.int .u8 0, .int .u8 0, .int .u8 0, .int .u8 0, .int .u8 0, .int .u8 0, .int .u8 0, .int .u8 0, .int .u8 0, .int .u8 0, .int .u8 0, .int .u8 0, .int .u8 0, .int .u8 0, .int .u8 0, .int .u8 0, .int .u8 0, .int .u8 0, .int .u8 0, .int .u8 0, .int .u8 0, .int .u8 0, .int .u8 0, .int .u8 0, .int .u8 0, .int .u8 0, .int .u8 0, .int .u8 0, .int .u8 0, .int .u8 0, .int .u8 0, .int .u8 0] : Array Value).size = cs.size) := by rw [hcz]; show _ = _; rfl
  have hone2 : Hid (cs.all (·.oneCell') = true) := by rw [hcs]; exact one_bytes _
  have HCE := Lib.hid hcs
  clear CT hcs hcz hb hu
  go_enter Try.func22, Try.ntmps22
  go_wp2_with fail
  with_reducible refine (HCT.out).mono ?_
  rintro e1 w1 ⟨rfl, hb1⟩
  have hrow1 : Hid ((w1.alloc (.cells #[.int .u8 0, .int .u8 0, .int .u8 0, .int .u8 0, .int .u8 0, .int .u8 0, .int .u8 0, .int .u8 0, .int .u8 0, .int .u8 0, .int .u8 0, .int .u8 0, .int .u8 0, .int .u8 0, .int .u8 0, .int .u8 0, .int .u8 0, .int .u8 0, .int .u8 0, .int .u8 0, .int .u8 0, .int .u8 0, .int .u8 0, .int .u8 0, .int .u8 0, .int .u8 0, .int .u8 0, .int .u8 0, .int .u8 0, .int .u8 0, .int .u8 0, .int .u8 0] 34)).heap[w1.heap.size]? = some (.cells #[.int .u8 0, .int .u8 0, .int .u8 0, .int .u8 0, .int .u8 0, .int .u8 0, .int .u8 0, .int .u8 0, .int .u8 0, .int .u8 0, .int .u8 0, .int .u8 0, .int .u8 0, .int .u8 0, .int .u8 0, .int .u8 0, .int .u8 0, .int .u8 0, .int .u8 0, .int .u8 0, .int .u8 0, .int .u8 0, .int .u8 0, .int .u8 0, .int .u8 0, .int .u8 0, .int .u8 0, .int .u8 0, .int .u8 0, .int .u8 0, .int .u8 0, .int .u8 0] 34 (0, 0))) := heap_alloc_new w1 _
  have hbe2 : Below w.heap.size w ((w1.alloc (.cells #[.int .u8 0, .int .u8 0, .int .u8 0, .int .u8 0, .int .u8 0, .int .u8 0, .int .u8 0, .int .u8 0, .int .u8 0, .int .u8 0, .int .u8 0, .int .u8 0, .int .u8 0, .int .u8 0, .int .u8 0, .int .u8 0, .int .u8 0, .int .u8 0, .int .u8 0, .int .u8 0, .int .u8 0, .int .u8 0, .int .u8 0, .int .u8 0, .int .u8 0, .int .u8 0, .int .u8 0, .int .u8 0, .int .u8 0, .int .u8 0, .int .u8 0, .int .u8 0] 34)).setRow w1.heap.size cs) := hb1.grown (grew_row w1 _ cs) hb1.size (by simp)
  have hi2' : Bw ((w1.alloc (.cells #[.int .u8 0, .int .u8 0, .int .u8 0, .int .u8 0, .int .u8 0, .int .u8 0, .int .u8 0, .int .u8 0, .int .u8 0, .int .u8 0, .int .u8 0, .int .u8 0, .int .u8 0, .int .u8 0, .int .u8 0, .int .u8 0, .int .u8 0, .int .u8 0, .int .u8 0, .int .u8 0, .int .u8 0, .int .u8 0, .int .u8 0, .int .u8 0, .int .u8 0, .int .u8 0, .int .u8 0, .int .u8 0, .int .u8 0, .int .u8 0, .int .u8 0, .int .u8 0] 34)).setRow w1.heap.size cs) w1.heap.size 34 (tagL key b) := by
    show _ = _
    rw [← HCE.out]
    exact setRow_heap (w1.alloc _) w1.heap.size _ _ _ _ hrow1.out
  obtain ⟨w2, hw2⟩ : ∃ w2, w2 = (w1.alloc (.cells #[.int .u8 0, .int .u8 0, .int .u8 0, .int .u8 0, .int .u8 0, .int .u8 0, .int .u8 0, .int .u8 0, .int .u8 0, .int .u8 0, .int .u8 0, .int .u8 0, .int .u8 0, .int .u8 0, .int .u8 0, .int .u8 0, .int .u8 0, .int .u8 0, .int .u8 0, .int .u8 0, .int .u8 0, .int .u8 0, .int .u8 0, .int .u8 0, .int .u8 0, .int .u8 0, .int .u8 0, .int .u8 0, .int .u8 0, .int .u8 0, .int .u8 0, .int .u8 0] 34)).setRow w1.heap.size cs := ⟨_, rfl⟩
  rw [← hw2] at hbe2 hi2'
  have cutI : ∀ W, (Instr.sliceAt 34 (.pointer (some ⟨w1.heap.size, 0, none⟩)) none (some (.int .i64 16)) none).run Try.prog W = .ok (.slice (some ⟨w1.heap.size, 0, none⟩) 16 32) W := fun W => cut32_16 W
  have bS : Bs w2 w2.heap.size (.slice (some ⟨w1.heap.size, 0, none⟩) 16 32) (shortL key b) := by
    refine ⟨_, 32, by rw [shortL_len], by rw [shortL_len]; omega, by unfold maxLen; omega, fun _ => ⟨_, 0, rfl, hi2'.lt, fun j hj => ?_⟩⟩
    rw [shortL_len] at hj
    have hj2 : j < (tagL key b).length := by rw [tagL_len]; omega
    rw [Nat.zero_add, (hi2'.at_ hj2).1]
    simp [shortL]
  have CC := Lib.hid (copy_any bS (Nat.le_refl _) (by rw [shortL_len]; omega))
  have HW2 := Lib.hid hw2; have HB2 := Lib.hid hbe2
  clear hw2 hbe2 hi2' bS hb1
  go_wp2_with (with_reducible refine wpList_store_row rfl 34 (.tmp 5) (.tmp 8) rfl w1.heap.size cs rfl rfl 34 _ hrow1.out hi2.out ho2.out hone2.out ?_; rw [← HW2.out])
  refine (CC.out).mono ?_
  rintro e3 w3 ⟨x, rfl, hx, hb3⟩
  obtain ⟨Ax, cx, rfl⟩ := hx.shapeN (shortL_len key b)
  have HX := Lib.hid (hx.more HB2.out.size)
  have HB3 := Lib.hid (HB2.out.trans (hb3.mono HB2.out.size))
  clear hx hb3
  go_wp2
  go_ret
  exact ⟨_, rfl, HX.out, HB3.out⟩

set_option maxRecDepth 100000 in
theorem tag_jefe : (tagL [74, 101, 102, 101] [119, 104, 97, 116, 32, 100, 111, 32, 121, 97, 32, 119, 97, 110, 116, 32, 102, 111, 114, 32, 110, 111, 116, 104, 105, 110, 103, 63]).getD 0 0 = 0x5b ∧ (tagL [74, 101, 102, 101] [119, 104, 97, 116, 32, 100, 111, 32, 121, 97, 32, 119, 97, 110, 116, 32, 102, 111, 114, 32, 110, 111, 116, 104, 105, 110, 103, 63]).getD 1 0 = 0xdc ∧ (tagL [74, 101, 102, 101] [119, 104, 97, 116, 32, 100, 111, 32, 121, 97, 32, 119, 97, 110, 116, 32, 102, 111, 114, 32, 110, 111, 116, 104, 105, 110, 103, 63]).getD 31 0 = 0x43 := by decide +kernel
theorem Bs.litF (w : World) (l : List UInt8) (fr : Nat × Nat) (hl : l.length ≤ maxLen) : Bs (w.alloc (.cells (l.map vb).toArray 5 fr)) (w.heap.size + 1) (.slice (some ⟨w.heap.size, 0, none⟩) l.length l.length) l :=
  ⟨_, _, rfl, Nat.le_refl _, hl, fun _ => ⟨_, 0, rfl, by omega, fun j hj => by
    rw [Nat.zero_add, cell_of_row _ _ j _ 5 fr (heap_alloc_new w _)]
    simp [vb, hj]⟩⟩

set_option maxRecDepth 100000 in
set_option maxHeartbeats 1600000 in
theorem awake3_any (w : World) : Calls Try.prog 7 #[] w fun e w' => e = .returned (.bool true) ∧ Below w.heap.size w w' := by
  obtain ⟨w1, hw1⟩ : ∃ w1, w1 = w.alloc (.cells #[.int .u8 74, .int .u8 101, .int .u8 102, .int .u8 101] 5 (4, 5)) := ⟨_, rfl⟩
  obtain ⟨w2, hw2⟩ : ∃ w2, w2 = w1.alloc (.cells #[.int .u8 119, .int .u8 104, .int .u8 97, .int .u8 116, .int .u8 32, .int .u8 100, .int .u8 111, .int .u8 32, .int .u8 121, .int .u8 97, .int .u8 32] 5 (11, 12)) := ⟨_, rfl⟩
  obtain ⟨w3, hw3⟩ : ∃ w3, w3 = w2.alloc (.cells #[.int .u8 119, .int .u8 97, .int .u8 110, .int .u8 116, .int .u8 32, .int .u8 102, .int .u8 111, .int .u8 114, .int .u8 32, .int .u8 110, .int .u8 111, .int .u8 116, .int .u8 104, .int .u8 105, .int .u8 110, .int .u8 103, .int .u8 63] 5 (17, 18)) := ⟨_, rfl⟩
  have hs1 : w1.heap.size = w.heap.size + 1 := by rw [hw1]; simp
  have hs2 : w2.heap.size = w.heap.size + 2 := by rw [hw2]; simp [hs1]
  have hs3 : w3.heap.size = w.heap.size + 3 := by rw [hw3]; simp [hs2]
  have hb1 : Below w.heap.size w w1 := by rw [hw1]; exact (Below.refl _ _).alloc (Nat.le_refl _) _
  have hb12 : Below w1.heap.size w1 w2 := by rw [hw2]; exact (Below.refl _ _).alloc (Nat.le_refl _) _
  have hb23 : Below w2.heap.size w2 w3 := by rw [hw3]; exact (Below.refl _ _).alloc (Nat.le_refl _) _
  have bj : Bs w3 (w.heap.size + 1) (.slice (some ⟨w.heap.size, 0, none⟩) 4 4) [74, 101, 102, 101] := by
    have h : Bs w1 (w.heap.size + 1) (.slice (some ⟨w.heap.size, 0, none⟩) 4 4) [74, 101, 102, 101] := by rw [hw1]; exact Bs.litF w [74, 101, 102, 101] (4, 5) (by unfold maxLen; simp)
    exact (h.below hb12 (by omega)).below hb23 (by omega)
  have b1 : Bs w3 w3.heap.size (.slice (some ⟨w.heap.size + 1, 0, none⟩) 11 11) [119, 104, 97, 116, 32, 100, 111, 32, 121, 97, 32] := by
    have h : Bs w2 (w1.heap.size + 1) (.slice (some ⟨w1.heap.size, 0, none⟩) 11 11) [119, 104, 97, 116, 32, 100, 111, 32, 121, 97, 32] := by rw [hw2]; exact Bs.litF w1 [119, 104, 97, 116, 32, 100, 111, 32, 121, 97, 32] (11, 12) (by unfold maxLen; simp)
    rw [hs1] at h
    exact (h.below hb23 (by omega)).more (by omega)
  have b2 : Bs w3 w3.heap.size (.slice (some ⟨w.heap.size + 2, 0, none⟩) 17 17) [119, 97, 110, 116, 32, 102, 111, 114, 32, 110, 111, 116, 104, 105, 110, 103, 63] := by
    have h : Bs w3 (w2.heap.size + 1) (.slice (some ⟨w2.heap.size, 0, none⟩) 17 17) [119, 97, 110, 116, 32, 102, 111, 114, 32, 110, 111, 116, 104, 105, 110, 103, 63] := by rw [hw3]; exact Bs.litF w2 [119, 97, 110, 116, 32, 102, 111, 114, 32, 110, 111, 116, 104, 105, 110, 103, 63] (17, 18) (by unfold maxLen; simp)
    rw [hs2] at h
    exact h.more (by omega)
  have hr := Rs.lit w3 [.slice (some ⟨w.heap.size + 1, 0, none⟩) 11 11, .slice (some ⟨w.heap.size + 2, 0, none⟩) 17 17] [[119, 104, 97, 116, 32, 100, 111, 32, 121, 97, 32], [119, 97, 110, 116, 32, 102, 111, 114, 32, 110, 111, 116, 104, 105, 110, 103, 63]] rfl (by unfold maxLen; simp) (by
    intro j h1 h2
    rcases (by simp at h1; omega : j = 0 ∨ j = 1) with rfl | rfl
    · exact b1
    · exact b2)
  rw [hs3] at hr
  have hb34 : Below w3.heap.size w3 (w3.alloc (.cells #[.slice (some ⟨w.heap.size + 1, 0, none⟩) 11 11, .slice (some ⟨w.heap.size + 2, 0, none⟩) 17 17] 22)) := (Below.refl _ _).alloc (Nat.le_refl _) _
  have hbw : Below w.heap.size w (w3.alloc (.cells #[.slice (some ⟨w.heap.size + 1, 0, none⟩) 11 11, .slice (some ⟨w.heap.size + 2, 0, none⟩) 17 17] 22)) := ((hb1.trans (hb12.mono (by omega))).trans (hb23.mono (by omega))).trans (hb34.mono (by omega))
  have CT := tag_any (B := w.heap.size + 4) ((bj.below hb34 (by omega)).more (by omega)) hr (by simp [hs3]) (by simp) (by simp)
  obtain ⟨cs, hcs⟩ : ∃ cs, cs = ((tagL [74, 101, 102, 101] [119, 104, 97, 116, 32, 100, 111, 32, 121, 97, 32, 119, 97, 110, 116, 32, 102, 111, 114, 32, 110, 111, 116, 104, 105, 110, 103, 63]).map vb).toArray := ⟨_, rfl⟩
  have hcz : cs.size = 32 := by rw [hcs]; simp [tagL_len]
  have hi : Hid ((Try.prog.info? 34).map (·.size) = some cs.size) := by rw [hcz]; show _ = _; kernel_rfl
  have ho : Hid ((#[.int .u8 0, .int .u8 0, .int .u8 0, .int .u8 0, .int .u8 0, .int .u8 0, .int .u8 0, .int .u8 0, .int .u8 0, .int .u8 0, .int .u8 0, .int .u8 0, .int .u8 0, .int .u8 0, .int .u8 0, .int .u8 0, .int .u8 0, .int .u8 0, .int .u8 0, .int .u8 0, .int .u8 0, .int .u8 0, .int .u8 0, .int .u8 0, .int .u8 0, .int .u8 0, .int .u8 0, .int .u8 0, .int .u8 0, .int .u8 0, .int .u8 0, .int .u8 0] : Array Value).size = cs.size) := by rw [hcz]; show _ = _; rfl
  have hone : Hid (cs.all (·.oneCell') = true) := by rw [hcs]; exact one_bytes _
  have at_ : ∀ j (x : UInt8), j < 32 → (tagL [74, 101, 102, 101] [119, 104, 97, 116, 32, 100, 111, 32, 121, 97, 32, 119, 97, 110, 116, 32, 102, 111, 114, 32, 110, 111, 116, 104, 105, 110, 103, 63]).getD j 0 = x → cs[j]? = some (.int .u8 (x.toNat : Int)) := by
    intro j x hj hx
    have hl : j < (tagL [74, 101, 102, 101] [119, 104, 97, 116, 32, 100, 111, 32, 121, 97, 32, 119, 97, 110, 116, 32, 102, 111, 114, 32, 110, 111, 116, 104, 105, 110, 103, 63]).length := by rw [tagL_len]; exact hj
    rw [hcs, ← hx]
    simp [vb, hl]
  have a0 := at_ 0 _ (by omega) tag_jefe.1
  have a1 := at_ 1 _ (by omega) tag_jefe.2.1
  have a31 := at_ 31 _ (by omega) tag_jefe.2.2
  have HCS : Hid (Calls Try.prog 33 #[.slice (some ⟨w.heap.size, 0, none⟩) 4 4, .slice (some ⟨w.heap.size + 3, 0, none⟩) 2 2] (w3.alloc (.cells #[.slice (some ⟨w.heap.size + 1, 0, none⟩) 11 11, .slice (some ⟨w.heap.size + 2, 0, none⟩) 17 17] 22)) fun e w' => e = .returned (.agg cs) ∧ Below w.heap.size w w') := by
    rw [hcs]
    exact CT.mono fun _ _ hh => ⟨hh.1, hbw.trans (hh.2.mono hbw.size)⟩
  have kc := fun (w : World) (C : Array Value) (n c : Nat) => Lib.run_convert_bytes_const (P := Try.prog) w 22 5 C n c Try.underlying22 Try.underlying5
  have k1 : (convert 22 22 (.slice (some ⟨w.heap.size, 0, none⟩) 4 4)).run Try.prog (w.alloc (.cells #[.int .u8 74, .int .u8 101, .int .u8 102, .int .u8 101] 5)) = .ok (.slice (some ⟨w.heap.size, 0, none⟩) 4 4) w1 := by rw [hw1]; exact kc w _ 4 4
  have k2 : (convert 22 22 (.slice (some ⟨w.heap.size + 1, 0, none⟩) 11 11)).run Try.prog (w1.alloc (.cells #[.int .u8 119, .int .u8 104, .int .u8 97, .int .u8 116, .int .u8 32, .int .u8 100, .int .u8 111, .int .u8 32, .int .u8 121, .int .u8 97, .int .u8 32] 5)) = .ok (.slice (some ⟨w.heap.size + 1, 0, none⟩) 11 11) w2 := by
    have h := kc w1 #[.int .u8 119, .int .u8 104, .int .u8 97, .int .u8 116, .int .u8 32, .int .u8 100, .int .u8 111, .int .u8 32, .int .u8 121, .int .u8 97, .int .u8 32] 11 11
    rw [hs1] at h
    rw [hw2]
    exact h
  have k3 : (convert 22 22 (.slice (some ⟨w.heap.size + 2, 0, none⟩) 17 17)).run Try.prog (w2.alloc (.cells #[.int .u8 119, .int .u8 97, .int .u8 110, .int .u8 116, .int .u8 32, .int .u8 102, .int .u8 111, .int .u8 114, .int .u8 32, .int .u8 110, .int .u8 111, .int .u8 116, .int .u8 104, .int .u8 105, .int .u8 110, .int .u8 103, .int .u8 63] 5)) = .ok (.slice (some ⟨w.heap.size + 2, 0, none⟩) 17 17) w3 := by
    have h := kc w2 #[.int .u8 119, .int .u8 97, .int .u8 110, .int .u8 116, .int .u8 32, .int .u8 102, .int .u8 111, .int .u8 114, .int .u8 32, .int .u8 110, .int .u8 111, .int .u8 116, .int .u8 104, .int .u8 105, .int .u8 110, .int .u8 103, .int .u8 63] 17 17
    rw [hs2] at h
    rw [hw3]
    exact h
  clear kc hcs hcz CT hr bj b1 b2 at_ hb34 hb23 hb12 hb1 hw1 hw2 hw3 hbw
  go_enter Try.func7, Try.ntmps7
  go_wp2_with fail
  with_reducible refine (HCS.out).mono ?_
  rintro e4 w4 ⟨rfl, hb4⟩
  have hrow : Hid ((w4.alloc (.cells #[.int .u8 0, .int .u8 0, .int .u8 0, .int .u8 0, .int .u8 0, .int .u8 0, .int .u8 0, .int .u8 0, .int .u8 0, .int .u8 0, .int .u8 0, .int .u8 0, .int .u8 0, .int .u8 0, .int .u8 0, .int .u8 0, .int .u8 0, .int .u8 0, .int .u8 0, .int .u8 0, .int .u8 0, .int .u8 0, .int .u8 0, .int .u8 0, .int .u8 0, .int .u8 0, .int .u8 0, .int .u8 0, .int .u8 0, .int .u8 0, .int .u8 0, .int .u8 0] 34)).heap[w4.heap.size]? = some (.cells #[.int .u8 0, .int .u8 0, .int .u8 0, .int .u8 0, .int .u8 0, .int .u8 0, .int .u8 0, .int .u8 0, .int .u8 0, .int .u8 0, .int .u8 0, .int .u8 0, .int .u8 0, .int .u8 0, .int .u8 0, .int .u8 0, .int .u8 0, .int .u8 0, .int .u8 0, .int .u8 0, .int .u8 0, .int .u8 0, .int .u8 0, .int .u8 0, .int .u8 0, .int .u8 0, .int .u8 0, .int .u8 0, .int .u8 0, .int .u8 0, .int .u8 0, .int .u8 0] 34 (0, 0))) := heap_alloc_new w4 _
  have hrow2 := setRow_heap (w4.alloc (.cells #[.int .u8 0, .int .u8 0, .int .u8 0, .int .u8 0, .int .u8 0, .int .u8 0, .int .u8 0, .int .u8 0, .int .u8 0, .int .u8 0, .int .u8 0, .int .u8 0, .int .u8 0, .int .u8 0, .int .u8 0, .int .u8 0, .int .u8 0, .int .u8 0, .int .u8 0, .int .u8 0, .int .u8 0, .int .u8 0, .int .u8 0, .int .u8 0, .int .u8 0, .int .u8 0, .int .u8 0, .int .u8 0, .int .u8 0, .int .u8 0, .int .u8 0, .int .u8 0] 34)) w4.heap.size _ cs _ _ hrow.out
  have c0 : ((w4.alloc (.cells #[.int .u8 0, .int .u8 0, .int .u8 0, .int .u8 0, .int .u8 0, .int .u8 0, .int .u8 0, .int .u8 0, .int .u8 0, .int .u8 0, .int .u8 0, .int .u8 0, .int .u8 0, .int .u8 0, .int .u8 0, .int .u8 0, .int .u8 0, .int .u8 0, .int .u8 0, .int .u8 0, .int .u8 0, .int .u8 0, .int .u8 0, .int .u8 0, .int .u8 0, .int .u8 0, .int .u8 0, .int .u8 0, .int .u8 0, .int .u8 0, .int .u8 0, .int .u8 0] 34)).setRow w4.heap.size cs).cell? ⟨w4.heap.size, 0, none⟩ = some (.int .u8 91) := by rw [cell_of_row _ _ 0 _ _ _ hrow2]; exact a0
  have c1 : ((w4.alloc (.cells #[.int .u8 0, .int .u8 0, .int .u8 0, .int .u8 0, .int .u8 0, .int .u8 0, .int .u8 0, .int .u8 0, .int .u8 0, .int .u8 0, .int .u8 0, .int .u8 0, .int .u8 0, .int .u8 0, .int .u8 0, .int .u8 0, .int .u8 0, .int .u8 0, .int .u8 0, .int .u8 0, .int .u8 0, .int .u8 0, .int .u8 0, .int .u8 0, .int .u8 0, .int .u8 0, .int .u8 0, .int .u8 0, .int .u8 0, .int .u8 0, .int .u8 0, .int .u8 0] 34)).setRow w4.heap.size cs).cell? ⟨w4.heap.size, 1, none⟩ = some (.int .u8 220) := by rw [cell_of_row _ _ 1 _ _ _ hrow2]; exact a1
  have c31 : ((w4.alloc (.cells #[.int .u8 0, .int .u8 0, .int .u8 0, .int .u8 0, .int .u8 0, .int .u8 0, .int .u8 0, .int .u8 0, .int .u8 0, .int .u8 0, .int .u8 0, .int .u8 0, .int .u8 0, .int .u8 0, .int .u8 0, .int .u8 0, .int .u8 0, .int .u8 0, .int .u8 0, .int .u8 0, .int .u8 0, .int .u8 0, .int .u8 0, .int .u8 0, .int .u8 0, .int .u8 0, .int .u8 0, .int .u8 0, .int .u8 0, .int .u8 0, .int .u8 0, .int .u8 0] 34)).setRow w4.heap.size cs).cell? ⟨w4.heap.size, 31, none⟩ = some (.int .u8 67) := by rw [cell_of_row _ _ 31 _ _ _ hrow2]; exact a31
  have HBE : Hid (Below w.heap.size w ((w4.alloc (.cells #[.int .u8 0, .int .u8 0, .int .u8 0, .int .u8 0, .int .u8 0, .int .u8 0, .int .u8 0, .int .u8 0, .int .u8 0, .int .u8 0, .int .u8 0, .int .u8 0, .int .u8 0, .int .u8 0, .int .u8 0, .int .u8 0, .int .u8 0, .int .u8 0, .int .u8 0, .int .u8 0, .int .u8 0, .int .u8 0, .int .u8 0, .int .u8 0, .int .u8 0, .int .u8 0, .int .u8 0, .int .u8 0, .int .u8 0, .int .u8 0, .int .u8 0, .int .u8 0] 34)).setRow w4.heap.size cs)) := Lib.hid (hb4.grown (grew_row w4 _ cs) hb4.size (by simp))
  clear hrow2 hb4 a0 a1 a31
  go_wp2_with (with_reducible refine wpList_store_row rfl 34 (.tmp 1) (.tmp 9) rfl w4.heap.size cs rfl rfl 34 _ hrow.out hi.out ho.out hone.out ?_)
  go_ret
  exact ⟨rfl, HBE.out⟩
end Go.Proofs.Ytlheekbbioajpaa
