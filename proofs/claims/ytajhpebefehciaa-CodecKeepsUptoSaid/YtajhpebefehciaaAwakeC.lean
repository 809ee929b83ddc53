/- awake of the law of codec. -/
import Derived.Test.YtajhpebefehciaaCopyB
import Derived.Test.YtajhpebefehciaaPut
namespace Go.Proofs.Ytajhpebefehciaa
open Go.RowKit

theorem putL_258 : putL 2 2 258 = [1, 2] := by decide

set_option maxHeartbeats 400000 in
theorem awake_any (w : World) : Calls Try.prog 10 #[] w fun e w' => e = .returned (.bool true) ∧ Below w.heap.size w w' := by
  have hput : Calls Try.prog 53 #[.int .i64 2, .int .i64 2, .int .u64 258] w fun e w' => ∃ v, e = .returned (.tuple #[v, .int .i64 0]) ∧ Own w' w.heap.size v [1, 2] ∧ Below w.heap.size w w' := by
    have h := put_big 2 258 (by omega) (by omega) (by decide) w
    rw [putL_258] at h
    exact h
  have HP := Lib.hid hput; clear hput
  go_enter Try.func10, Try.ntmps10
  go_wp2_with fail
  refine (HP.out).mono ?_
  rintro e w1 ⟨v1, rfl, ho1, hb1⟩
  have hl2 : Below w.heap.size w (w1.alloc (.cells #[.int .u8 1, .int .u8 2] 5)) := hb1.alloc hb1.size _
  have hq2 : Bs (w1.alloc (.cells #[.int .u8 1, .int .u8 2] 5)) _ (.slice (some ⟨w1.heap.size, 0, none⟩) 2 2) [1, 2] := Bs.lit w1 [1, 2] (by unfold maxLen; simp)
  go_wp2_with fail
  refine (equal_same (ho1.bs.alloc (Nat.le_refl _) _) hq2).mono ?_
  rintro e w2 ⟨rfl, hd2⟩
  have hb2 : Below w.heap.size w w2 := hl2.trans (hd2.below _)
  clear hq2 hl2 hb1
  have r1 : Bs (w2.alloc (.cells #[.int .u8 7] 5)) (w2.heap.size + 1) (.slice (some ⟨w2.heap.size, 0, none⟩) 1 1) [7] := Bs.lit w2 [7] (by unfold maxLen; simp)
  have r2 : Bs ((w2.alloc (.cells #[.int .u8 7] 5)).alloc (.cells #[.int .u8 8, .int .u8 9] 5)) (w2.heap.size + 1 + 1) (.slice (some ⟨w2.heap.size + 1, 0, none⟩) 2 2) [8, 9] := by
    have h := Bs.lit (w2.alloc (.cells #[.int .u8 7] 5)) [8, 9] (by unfold maxLen; simp)
    simpa [vb] using h
  have r3 : Rs (((w2.alloc (.cells #[.int .u8 7] 5)).alloc (.cells #[.int .u8 8, .int .u8 9] 5)).alloc (.cells #[.slice (some ⟨w2.heap.size, 0, none⟩) 1 1, .slice none 0 0, .slice (some ⟨w2.heap.size + 1, 0, none⟩) 2 2] 22)) (w2.heap.size + 1 + 1 + 1) (.slice (some ⟨w2.heap.size + 1 + 1, 0, none⟩) 3 3) [[7], [], [8, 9]] := by
    have h := Rs.lit ((w2.alloc (.cells #[.int .u8 7] 5)).alloc (.cells #[.int .u8 8, .int .u8 9] 5)) [.slice (some ⟨w2.heap.size, 0, none⟩) 1 1, .slice none 0 0, .slice (some ⟨w2.heap.size + 1, 0, none⟩) 2 2] [[7], [], [8, 9]] rfl (by unfold maxLen; simp) (fun j h h' => by
      match j, h, h' with
      | 0, _, _ => exact (r1.alloc (by simp) _).more (by simp)
      | 1, _, _ => exact Bs.nil _ _
      | 2, _, _ => exact r2.more (by simp))
    simpa using h
  have hb3 : Below w.heap.size w (((w2.alloc (.cells #[.int .u8 7] 5)).alloc (.cells #[.int .u8 8, .int .u8 9] 5)).alloc (.cells #[.slice (some ⟨w2.heap.size, 0, none⟩) 1 1, .slice none 0 0, .slice (some ⟨w2.heap.size + 1, 0, none⟩) 2 2] 22)) :=
    ((hb2.alloc hb2.size _).alloc (by have := hb2.size; simp; omega) _).alloc (by have := hb2.size; simp; omega) _
  clear r1 r2
  go_wp2_with fail
  refine (join_any r3 (by simp) (by simp)).mono ?_
  rintro e w3 ⟨v3, rfl, ho3, hbj⟩
  have hb4 := hb3.trans (hbj.mono hb3.size)
  clear r3 hb3 hbj
  have hl5 : Below w.heap.size w (w3.alloc (.cells #[.int .u8 7, .int .u8 8, .int .u8 9] 5)) := hb4.alloc hb4.size _
  have hq5 : Bs (w3.alloc (.cells #[.int .u8 7, .int .u8 8, .int .u8 9] 5)) _ (.slice (some ⟨w3.heap.size, 0, none⟩) 3 3) [7, 8, 9] := Bs.lit w3 [7, 8, 9] (by unfold maxLen; simp)
  have ho5 := ho3.bs.alloc (Nat.le_refl _) (.cells #[.int .u8 7, .int .u8 8, .int .u8 9] 5)
  go_wp2_with fail
  refine (equal_same (a := [7, 8, 9]) ho5 hq5).mono ?_
  rintro e w6 ⟨rfl, hd6⟩
  go_wp2
  go_ret
  exact ⟨rfl, hl5.trans (hd6.below _)⟩

end Go.Proofs.Ytajhpebefehciaa
