/- The law CodecPads, walked: noughts are put behind bytes up to just the length that is asked for. -/
import Derived.Test.YtpimklpkjinhiaaPad
namespace Go.Proofs.Ytpimklpkjinhiaa
open Go.RowKit

theorem padE_7 : padE [7] 3 = 0 := by decide
theorem padR_7 : padR [7] 3 = [7, 0, 0] := by decide

set_option maxHeartbeats 800000 in
theorem pads_from {l : List UInt8} {va : Value} {w : World} (ha : Bs w w.heap.size va l) (hl : l.length ≤ 140737488351232) (n m : Int)
    (hm : (100000 < n ∧ n ≤ 16777216 ∧ m = n % 100000) ∨ (¬ 100000 < n ∧ m = n) ∨ (100000 < n ∧ 16777216 < n ∧ m = n)) :
    Calls Try.prog 10 #[va, .int .i64 n] w fun e w' => e = .returned (.bool true) ∧ Below w.heap.size w w' := by
  obtain ⟨E, hE⟩ : ∃ E, padE l m = E := ⟨_, rfl⟩
  obtain ⟨R, hR⟩ : ∃ R, padR l m = R := ⟨_, rfl⟩
  have HE := Lib.hid hE; have HR := Lib.hid hR
  have HA := Lib.hid ha
  obtain ⟨Aa, ca, rfl⟩ := ha.shape
  clear ha hE hR
  have q1 : Bs (w.alloc (.cells #[.int .u8 7] 5)) (w.heap.size + 1) (.slice (some ⟨w.heap.size, 0, none⟩) 1 1) [7] := Bs.lit w [7] (by unfold maxLen; simp)
  have c0 := pad_all (n := 3) q1 (by simp)
  rw [padE_7, padR_7] at c0
  have C0 := Lib.hid c0
  have hb0 : Below w.heap.size w (w.alloc (.cells #[.int .u8 7] 5)) := (Below.refl _ _).alloc (Nat.le_refl _) _
  clear c0 q1
  have core : ∀ w2, Below w.heap.size w w2 → ∃ K : Prop, K := fun _ _ => ⟨True, trivial⟩
  clear core
  rcases hm with ⟨g1, g2, rfl⟩ | ⟨g1, rfl⟩ | ⟨g1, g2, rfl⟩
  all_goals try have g3 : decide ((100000 : Int) < m) = false := by simp; omega
  all_goals try have g4 : decide (m ≤ (16777216 : Int)) = false := by simp; omega
  all_goals
    go_enter Try.func10, Try.ntmps10
    go_wp2_with fail
    refine (C0.out).mono ?_
    rintro e w1 ⟨u1, rfl, ho1, hbb1⟩
    have hb1 : Below w.heap.size w w1 := hb0.trans (hbb1.mono hb0.size)
    have hz1 := hb1.size
    have p1 : Bs (w1.alloc (.cells #[.int .u8 7, .int .u8 0, .int .u8 0] 5)) (w1.heap.size + 1) (.slice (some ⟨w1.heap.size, 0, none⟩) 3 3) [7, 0, 0] := Bs.lit w1 [7, 0, 0] (by unfold maxLen; simp)
    have c1 := told_any (x := 0) (y := 0) (ho1.bs.alloc (Nat.le_refl _) (.cells #[.int .u8 7, .int .u8 0, .int .u8 0] 5)) p1
    rw [show (decide (([7, 0, 0] : List UInt8) = [7, 0, 0]) && ((0 : Int) == 0)) = true by decide] at c1
    have C1 := Lib.hid c1
    have hb1' : Below w.heap.size w (w1.alloc (.cells #[.int .u8 7, .int .u8 0, .int .u8 0] 5)) := hb1.alloc hz1 _
    clear c1 p1 ho1 hbb1
    go_wp2_with fail
    refine (C1.out).mono ?_
    rintro e w2 ⟨rfl, hd2⟩
    have hb2 := hb1'.trans (hd2.below _)
    have hz2 := hb2.size
    clear hb1 hb1' hd2 hz1
    go_wp2_with fail
    refine (copy_any (HA.out.below hb2 (Nat.le_refl _)) hz2 (by omega)).mono ?_
    rintro e w3 ⟨u3, rfl, ho3, hbb3⟩
    have hb3 := hb2.trans (hbb3.mono hz2)
    have hz3 := hb3.size
    have c3 := fun k : Int => pad_all (n := k) ho3.bs (Nat.le_refl _)
    have C3 := Lib.hid c3
    clear c3 ho3 hbb3 hb2
    go_wp2_with fail
    refine (C3.out _).mono ?_
    rw [HE.out, HR.out]
    rintro e w4 ⟨u4, rfl, ho4, hbb4⟩
    have hb4 := hb3.trans (hbb4.mono hz3)
    have hz4 := hb4.size
    clear hbb4 hb3
    go_wp2_with fail
    refine (refpad_all (HA.out.below hb4 (Nat.le_refl _)) hz4).mono ?_
    rw [HE.out, HR.out]
    rintro e w5 ⟨u5, rfl, ho5, hbb5⟩
    have hb5 := hb4.trans (hbb5.mono hz4)
    have ho45 := ho4.below hbb5 (Nat.le_refl _)
    have c5 := told_any (x := E) (y := E) ho45.bs ho5.bs
    rw [show (decide (R = R) && E == E) = true by simp] at c5
    have C5 := Lib.hid c5
    clear c5 hbb5 ho5 ho4 ho45 hb4
    go_wp2_with fail
    refine (C5.out).mono ?_
    rintro e w6 ⟨rfl, hd6⟩
    go_wp2
    go_ret
    exact ⟨rfl, hb5.trans (hd6.below _)⟩

theorem pads_walk {l : List UInt8} {va : Value} {w : World} (ha : Bs w w.heap.size va l) (hl : l.length ≤ 140737488351232) (n : Int) :
    Calls Try.prog 10 #[va, .int .i64 n] w fun e w' => e = .returned (.bool true) ∧ Below w.heap.size w w' := by
  by_cases h1 : 100000 < n
  · by_cases h2 : n ≤ 16777216
    · exact pads_from ha hl n (n % 100000) (.inl ⟨h1, h2, rfl⟩)
    · exact pads_from ha hl n n (.inr (.inr ⟨h1, by omega, rfl⟩))
  · exact pads_from ha hl n n (.inr (.inl ⟨h1, rfl⟩))
end Go.Proofs.Ytpimklpkjinhiaa
