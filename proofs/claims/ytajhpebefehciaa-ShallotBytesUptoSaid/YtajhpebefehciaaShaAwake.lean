/- The fixed fact of layer 2, and the law ShaSums, walked. -/
import Derived.Test.YtajhpebefehciaaRefSum
import Derived.Test.YtajhpebefehciaaArr
import Derived.Test.YtajhpebefehciaaRefJoin
import Derived.Lib.SlBytesConst
namespace Go.Proofs.Ytajhpebefehciaa
open Go.RowKit

theorem Bs.litF (w : World) (l : List UInt8) (fr : Nat × Nat) (hl : l.length ≤ maxLen) : Bs (w.alloc (.cells (l.map vb).toArray 5 fr)) (w.heap.size + 1) (.slice (some ⟨w.heap.size, 0, none⟩) l.length l.length) l :=
  ⟨_, _, rfl, Nat.le_refl _, hl, fun _ => ⟨_, 0, rfl, by omega, fun j hj => by
    rw [Nat.zero_add, cell_of_row _ _ j _ 5 fr (heap_alloc_new w _)]
    simp [vb, hj]⟩⟩
set_option maxRecDepth 100000 in
theorem sum_abc : (sumL [97, 98, 99]).getD 0 0 = 0xba ∧ (sumL [97, 98, 99]).getD 1 0 = 0x78 ∧ (sumL [97, 98, 99]).getD 2 0 = 0x16 ∧ (sumL [97, 98, 99]).getD 31 0 = 0xad := by decide +kernel

set_option maxRecDepth 100000 in
set_option maxHeartbeats 1600000 in
theorem awake2_any (w : World) : Calls Try.prog 19 #[] w fun e w' => e = .returned (.bool true) ∧ Below w.heap.size w w' := by
  obtain ⟨w2, hw2⟩ : ∃ w2, w2 = (w.alloc (.cells #[.int .u8 97] 5 (1, 2))).alloc (.cells #[.int .u8 98, .int .u8 99] 5 (2, 3)) := ⟨_, rfl⟩
  have hs2 : w2.heap.size = w.heap.size + 2 := by rw [hw2]; simp
  have hb2 : Below w.heap.size w w2 := by rw [hw2]; exact ((Below.refl _ _).alloc (Nat.le_refl _) _).alloc (by simp) _
  have ba : Bs w2 w2.heap.size (.slice (some ⟨w.heap.size, 0, none⟩) 1 1) [97] := by
    rw [hw2]
    exact ((Bs.litF w [97] (1, 2) (by unfold maxLen; simp)).alloc (by simp) _).more (by simp)
  have bb : Bs w2 w2.heap.size (.slice (some ⟨w.heap.size + 1, 0, none⟩) 2 2) [98, 99] := by
    have h := Bs.litF (w.alloc (.cells #[.int .u8 97] 5 (1, 2))) [98, 99] (2, 3) (by unfold maxLen; simp)
    rw [show (w.alloc (.cells #[.int .u8 97] 5 (1, 2))).heap.size = w.heap.size + 1 by simp] at h
    rw [hw2]
    exact h.more (by simp)
  have hr := Rs.lit w2 [.slice (some ⟨w.heap.size, 0, none⟩) 1 1, .slice none 0 0, .slice (some ⟨w.heap.size + 1, 0, none⟩) 2 2] [[97], [], [98, 99]] rfl (by unfold maxLen; simp) (by
    intro j h1 h2
    rcases (by simp at h1; omega : j = 0 ∨ j = 1 ∨ j = 2) with rfl | rfl | rfl
    · exact ba
    · exact Bs.nil _ _
    · exact bb)
  rw [hs2] at hr
  have hb3 : Below w.heap.size w (w2.alloc (.cells #[.slice (some ⟨w.heap.size, 0, none⟩) 1 1, .slice none 0 0, .slice (some ⟨w.heap.size + 1, 0, none⟩) 2 2] 22)) := hb2.alloc hb2.size _
  have CS := shaSum_any hr (by simp [hs2]) (by simp)
  obtain ⟨cs, hcs⟩ : ∃ cs, cs = ((sumL [97, 98, 99]).map vb).toArray := ⟨_, rfl⟩
  have hcz : cs.size = 32 := by rw [hcs]; simp [sumL_len]
  have hi : Hid ((Try.prog.info? 40).map (·.size) = some cs.size) := by rw [hcz]; show _ = _; kernel_rfl
  have ho : Hid ((#[.int .u8 0, .int .u8 0, .int .u8 0, .int .u8 0, .int .u8 0, .int .u8 0, .int .u8 0, .int .u8 0, .int .u8 0, .int .u8 0, .int .u8 0, .int .u8 0, .int .u8 0, .int .u8 0, .int .u8 0, .int .u8 0, .int .u8 0, .int .u8 0, .int .u8 0, .int .u8 0, .int .u8 0, .int .u8 0, .int .u8 0, .int .u8 0, .int .u8 0, .int .u8 0, .int .u8 0, .int .u8 0, .int .u8 0, .int .u8 0, .int .u8 0, .int .u8 0] : Array Value).size = cs.size) := by rw [hcz]; show _ = _; rfl
  have hone : Hid (cs.all (·.oneCell') = true) := by
    rw [hcs]
    show _ = _
    rw [Array.all_eq_true_iff_forall_mem]
    intro u hu
    rw [List.mem_toArray] at hu
    exact vb_one _ u hu
  have at_ : ∀ j (x : UInt8), j < 32 → (sumL [97, 98, 99]).getD j 0 = x → cs[j]? = some (.int .u8 (x.toNat : Int)) := by
    intro j x hj hx
    have hl : j < (sumL [97, 98, 99]).length := by rw [sumL_len]; exact hj
    rw [hcs, ← hx]
    simp [vb, hl]
  have a0 := at_ 0 _ (by omega) sum_abc.1
  have a1 := at_ 1 _ (by omega) sum_abc.2.1
  have a2 := at_ 2 _ (by omega) sum_abc.2.2.1
  have a31 := at_ 31 _ (by omega) sum_abc.2.2.2
  have HCS : Hid (Calls Try.prog 29 #[.slice (some ⟨w.heap.size + 2, 0, none⟩) 3 3] (w2.alloc (.cells #[.slice (some ⟨w.heap.size, 0, none⟩) 1 1, .slice none 0 0, .slice (some ⟨w.heap.size + 1, 0, none⟩) 2 2] 22)) fun e w' => e = .returned (.agg cs) ∧ Below (w2.alloc (.cells #[.slice (some ⟨w.heap.size, 0, none⟩) 1 1, .slice none 0 0, .slice (some ⟨w.heap.size + 1, 0, none⟩) 2 2] 22)).heap.size (w2.alloc (.cells #[.slice (some ⟨w.heap.size, 0, none⟩) 1 1, .slice none 0 0, .slice (some ⟨w.heap.size + 1, 0, none⟩) 2 2] 22)) w') := by
    rw [hcs]; exact CS
  have HB3 := Lib.hid hb3
  rw [hw2] at HCS HB3
  clear hcs hcz CS hr bb ba at_ hb3 hb2 hs2 hw2
  have kc := fun (w : World) (C : Array Value) (n c : Nat) => Lib.run_convert_bytes_const (P := Try.prog) w 22 5 C n c Try.underlying22 Try.underlying5
  have kc2 : (convert 22 22 (.slice (some ⟨w.heap.size + 1, 0, none⟩) 2 2)).run Try.prog ((w.alloc (.cells #[.int .u8 97] 5 (1, 2))).alloc (.cells #[.int .u8 98, .int .u8 99] 5)) = .ok (.slice (some ⟨w.heap.size + 1, 0, none⟩) 2 2) ((w.alloc (.cells #[.int .u8 97] 5 (1, 2))).alloc (.cells #[.int .u8 98, .int .u8 99] 5 (2, 3))) := by
    have h := kc (w.alloc (.cells #[.int .u8 97] 5 (1, 2))) #[.int .u8 98, .int .u8 99] 2 2
    rw [show (w.alloc (.cells #[.int .u8 97] 5 (1, 2))).heap.size = w.heap.size + 1 by simp] at h
    exact h
  go_enter Try.func19, Try.ntmps19
  go_wp2_with fail
  refine (HCS.out).mono ?_
  rintro e1 w3 ⟨rfl, hb4⟩
  have hrow : Hid ((w3.alloc (.cells #[.int .u8 0, .int .u8 0, .int .u8 0, .int .u8 0, .int .u8 0, .int .u8 0, .int .u8 0, .int .u8 0, .int .u8 0, .int .u8 0, .int .u8 0, .int .u8 0, .int .u8 0, .int .u8 0, .int .u8 0, .int .u8 0, .int .u8 0, .int .u8 0, .int .u8 0, .int .u8 0, .int .u8 0, .int .u8 0, .int .u8 0, .int .u8 0, .int .u8 0, .int .u8 0, .int .u8 0, .int .u8 0, .int .u8 0, .int .u8 0, .int .u8 0, .int .u8 0] 40)).heap[w3.heap.size]? = some (.cells #[.int .u8 0, .int .u8 0, .int .u8 0, .int .u8 0, .int .u8 0, .int .u8 0, .int .u8 0, .int .u8 0, .int .u8 0, .int .u8 0, .int .u8 0, .int .u8 0, .int .u8 0, .int .u8 0, .int .u8 0, .int .u8 0, .int .u8 0, .int .u8 0, .int .u8 0, .int .u8 0, .int .u8 0, .int .u8 0, .int .u8 0, .int .u8 0, .int .u8 0, .int .u8 0, .int .u8 0, .int .u8 0, .int .u8 0, .int .u8 0, .int .u8 0, .int .u8 0] 40 (0, 0))) := heap_alloc_new w3 _
  have hrow2 := setRow_heap (w3.alloc (.cells #[.int .u8 0, .int .u8 0, .int .u8 0, .int .u8 0, .int .u8 0, .int .u8 0, .int .u8 0, .int .u8 0, .int .u8 0, .int .u8 0, .int .u8 0, .int .u8 0, .int .u8 0, .int .u8 0, .int .u8 0, .int .u8 0, .int .u8 0, .int .u8 0, .int .u8 0, .int .u8 0, .int .u8 0, .int .u8 0, .int .u8 0, .int .u8 0, .int .u8 0, .int .u8 0, .int .u8 0, .int .u8 0, .int .u8 0, .int .u8 0, .int .u8 0, .int .u8 0] 40)) w3.heap.size _ cs _ _ hrow.out
  have c0 : ((w3.alloc (.cells #[.int .u8 0, .int .u8 0, .int .u8 0, .int .u8 0, .int .u8 0, .int .u8 0, .int .u8 0, .int .u8 0, .int .u8 0, .int .u8 0, .int .u8 0, .int .u8 0, .int .u8 0, .int .u8 0, .int .u8 0, .int .u8 0, .int .u8 0, .int .u8 0, .int .u8 0, .int .u8 0, .int .u8 0, .int .u8 0, .int .u8 0, .int .u8 0, .int .u8 0, .int .u8 0, .int .u8 0, .int .u8 0, .int .u8 0, .int .u8 0, .int .u8 0, .int .u8 0] 40)).setRow w3.heap.size cs).cell? ⟨w3.heap.size, 0, none⟩ = some (.int .u8 186) := by rw [cell_of_row _ _ 0 _ _ _ hrow2]; exact a0
  have c1 : ((w3.alloc (.cells #[.int .u8 0, .int .u8 0, .int .u8 0, .int .u8 0, .int .u8 0, .int .u8 0, .int .u8 0, .int .u8 0, .int .u8 0, .int .u8 0, .int .u8 0, .int .u8 0, .int .u8 0, .int .u8 0, .int .u8 0, .int .u8 0, .int .u8 0, .int .u8 0, .int .u8 0, .int .u8 0, .int .u8 0, .int .u8 0, .int .u8 0, .int .u8 0, .int .u8 0, .int .u8 0, .int .u8 0, .int .u8 0, .int .u8 0, .int .u8 0, .int .u8 0, .int .u8 0] 40)).setRow w3.heap.size cs).cell? ⟨w3.heap.size, 1, none⟩ = some (.int .u8 120) := by rw [cell_of_row _ _ 1 _ _ _ hrow2]; exact a1
  have c2 : ((w3.alloc (.cells #[.int .u8 0, .int .u8 0, .int .u8 0, .int .u8 0, .int .u8 0, .int .u8 0, .int .u8 0, .int .u8 0, .int .u8 0, .int .u8 0, .int .u8 0, .int .u8 0, .int .u8 0, .int .u8 0, .int .u8 0, .int .u8 0, .int .u8 0, .int .u8 0, .int .u8 0, .int .u8 0, .int .u8 0, .int .u8 0, .int .u8 0, .int .u8 0, .int .u8 0, .int .u8 0, .int .u8 0, .int .u8 0, .int .u8 0, .int .u8 0, .int .u8 0, .int .u8 0] 40)).setRow w3.heap.size cs).cell? ⟨w3.heap.size, 2, none⟩ = some (.int .u8 22) := by rw [cell_of_row _ _ 2 _ _ _ hrow2]; exact a2
  have c31 : ((w3.alloc (.cells #[.int .u8 0, .int .u8 0, .int .u8 0, .int .u8 0, .int .u8 0, .int .u8 0, .int .u8 0, .int .u8 0, .int .u8 0, .int .u8 0, .int .u8 0, .int .u8 0, .int .u8 0, .int .u8 0, .int .u8 0, .int .u8 0, .int .u8 0, .int .u8 0, .int .u8 0, .int .u8 0, .int .u8 0, .int .u8 0, .int .u8 0, .int .u8 0, .int .u8 0, .int .u8 0, .int .u8 0, .int .u8 0, .int .u8 0, .int .u8 0, .int .u8 0, .int .u8 0] 40)).setRow w3.heap.size cs).cell? ⟨w3.heap.size, 31, none⟩ = some (.int .u8 173) := by rw [cell_of_row _ _ 31 _ _ _ hrow2]; exact a31
  have HBE : Hid (Below w.heap.size w ((w3.alloc (.cells #[.int .u8 0, .int .u8 0, .int .u8 0, .int .u8 0, .int .u8 0, .int .u8 0, .int .u8 0, .int .u8 0, .int .u8 0, .int .u8 0, .int .u8 0, .int .u8 0, .int .u8 0, .int .u8 0, .int .u8 0, .int .u8 0, .int .u8 0, .int .u8 0, .int .u8 0, .int .u8 0, .int .u8 0, .int .u8 0, .int .u8 0, .int .u8 0, .int .u8 0, .int .u8 0, .int .u8 0, .int .u8 0, .int .u8 0, .int .u8 0, .int .u8 0, .int .u8 0] 40)).setRow w3.heap.size cs)) := Lib.hid ((HB3.out.trans (hb4.mono HB3.out.size)).grown (grew_row w3 _ cs) (Nat.le_trans HB3.out.size hb4.size) (by simp))
  clear hrow2 hb4 a0 a1 a2 a31
  go_wp2_with (with_reducible refine wpList_store_row rfl 40 (.tmp 1) (.tmp 7) rfl w3.heap.size cs rfl rfl 40 _ hrow.out hi.out ho.out hone.out ?_)
  go_ret
  exact ⟨rfl, HBE.out⟩
end Go.Proofs.Ytajhpebefehciaa
