/- awake of the law of codec; the law CodecPuts. -/
import Derived.Test.YtpimklpkjinhiaaCopy
import Derived.Test.YtpimklpkjinhiaaRefPut
import Derived.Test.YtpimklpkjinhiaaGet
namespace Go.Proofs.Ytpimklpkjinhiaa
open Go.RowKit

theorem putL_258 : putL 2 2 258 = [1, 2] := by decide

set_option maxHeartbeats 400000 in
theorem awake_any (w : World) : Calls Try.prog 13 #[] w fun e w' => e = .returned (.bool true) ∧ Below w.heap.size w w' := by
  have hput : Calls Try.prog 14 #[.int .i64 2, .int .i64 2, .int .u64 258] w fun e w' => ∃ v, e = .returned (.tuple #[v, .int .i64 0]) ∧ Own w' w.heap.size v [1, 2] ∧ Below w.heap.size w w' := by
    have h := put_big 2 258 (by omega) (by omega) (by decide) w
    rw [putL_258] at h
    exact h
  have HP := Lib.hid hput; clear hput
  go_enter Try.func13, Try.ntmps13
  go_wp2_with fail
  refine (HP.out).mono ?_
  rintro e w1 ⟨v1, rfl, ho1, hb1⟩
  have hl2 : Below w.heap.size w (w1.alloc (.cells #[.int .u8 1, .int .u8 2] 5)) := hb1.alloc hb1.size _
  have hq2 : Bs (w1.alloc (.cells #[.int .u8 1, .int .u8 2] 5)) _ (.slice (some ⟨w1.heap.size, 0, none⟩) 2 2) [1, 2] := Bs.lit w1 [1, 2] (by unfold maxLen; simp)
  go_wp2_with fail
  refine (equal_same (ho1.bs.alloc (Nat.le_refl _) _) hq2).mono ?_
  rintro e w2 ⟨rfl, hd2⟩
  have hb2 : Below w.heap.size w w2 := hl2.trans (hd2.below _)
  clear hq2 hl2 hb1
  have r1 : Bs (w2.alloc (.cells #[.int .u8 7] 5)) (w2.heap.size + 1) (.slice (some ⟨w2.heap.size, 0, none⟩) 1 1) [7] := Bs.lit w2 [7] (by unfold maxLen; simp)
  have r2 : Bs ((w2.alloc (.cells #[.int .u8 7] 5)).alloc (.cells #[.int .u8 8, .int .u8 9] 5)) (w2.heap.size + 1 + 1) (.slice (some ⟨w2.heap.size + 1, 0, none⟩) 2 2) [8, 9] := by
    have h := Bs.lit (w2.alloc (.cells #[.int .u8 7] 5)) [8, 9] (by unfold maxLen; simp)
    simpa [vb] using h
  have r3 : Rs (((w2.alloc (.cells #[.int .u8 7] 5)).alloc (.cells #[.int .u8 8, .int .u8 9] 5)).alloc (.cells #[.slice (some ⟨w2.heap.size, 0, none⟩) 1 1, .slice none 0 0, .slice (some ⟨w2.heap.size + 1, 0, none⟩) 2 2] 24)) (w2.heap.size + 1 + 1 + 1) (.slice (some ⟨w2.heap.size + 1 + 1, 0, none⟩) 3 3) [[7], [], [8, 9]] := by
    have h := Rs.lit ((w2.alloc (.cells #[.int .u8 7] 5)).alloc (.cells #[.int .u8 8, .int .u8 9] 5)) [.slice (some ⟨w2.heap.size, 0, none⟩) 1 1, .slice none 0 0, .slice (some ⟨w2.heap.size + 1, 0, none⟩) 2 2] [[7], [], [8, 9]] rfl (by unfold maxLen; simp) (fun j h h' => by
      match j, h, h' with
      | 0, _, _ => exact (r1.alloc (by simp) _).more (by simp)
      | 1, _, _ => exact Bs.nil _ _
      | 2, _, _ => exact r2.more (by simp))
    simpa using h
  have hb3 : Below w.heap.size w (((w2.alloc (.cells #[.int .u8 7] 5)).alloc (.cells #[.int .u8 8, .int .u8 9] 5)).alloc (.cells #[.slice (some ⟨w2.heap.size, 0, none⟩) 1 1, .slice none 0 0, .slice (some ⟨w2.heap.size + 1, 0, none⟩) 2 2] 24)) :=
    ((hb2.alloc hb2.size _).alloc (by have := hb2.size; simp; omega) _).alloc (by have := hb2.size; simp; omega) _
  clear r1 r2
  go_wp2_with fail
  refine (join_any r3 (by simp) (by simp)).mono ?_
  rintro e w3 ⟨v3, rfl, ho3, hbj⟩
  have hb4 := hb3.trans (hbj.mono hb3.size)
  clear r3 hb3 hbj
  have hl5 : Below w.heap.size w (w3.alloc (.cells #[.int .u8 7, .int .u8 8, .int .u8 9] 5)) := hb4.alloc hb4.size _
  have hq5 : Bs (w3.alloc (.cells #[.int .u8 7, .int .u8 8, .int .u8 9] 5)) _ (.slice (some ⟨w3.heap.size, 0, none⟩) 3 3) [7, 8, 9] := Bs.lit w3 [7, 8, 9] (by unfold maxLen; simp)
  have ho5 := ho3.bs.alloc (Nat.le_refl _) (.cells #[.int .u8 7, .int .u8 8, .int .u8 9] 5)
  go_wp2_with fail
  refine (equal_same (a := [7, 8, 9]) ho5 hq5).mono ?_
  rintro e w6 ⟨rfl, hd6⟩
  go_wp2
  go_ret
  exact ⟨rfl, hl5.trans (hd6.below _)⟩

theorem getP_putL (o : Int) (K n k : Nat) (hk : k ≤ K) : getP o K (putL o K n) 0 k = n % 256 ^ k := by
  induction k with
  | zero => simp [getP, Nat.mod_one]
  | succ k ih =>
    have hj : idx o K k < K := idx_lt o K k K (by omega) (Nat.le_refl _)
    have hi : idx o K (idx o K k) = k := by unfold idx; split <;> omega
    have hb : ((putL o K n).getD (0 + idx o K k) 0).toNat = n / 256 ^ k % 256 := by
      simp [putL, hj, hi, UInt8.toNat_ofNat']
    rw [getP, ih (by omega), hb, Nat.mod_pow_succ, Nat.mul_comm]
theorem getP_put (o : Int) {K n : Nat} (h : n / 256 ^ K = 0) : getP o K (putL o K n) 0 K = n := by
  rw [getP_putL o K n K (Nat.le_refl _)]
  have := Nat.div_add_mod n (256 ^ K)
  rw [h] at this
  omega

theorem put_ok {o : Int} {K n : Nat} (hs : shapeB o K = true) (hfit : ((n : Int) / 2 ^ (8 * K) != 0) = false) (w : World) :
    Calls Try.prog 14 #[.int .i64 o, .int .i64 K, .int .u64 n] w fun e w' => ∃ v, e = .returned (.tuple #[v, .int .i64 0]) ∧ Own w' w.heap.size v (putL o K n) ∧ Below w.heap.size w w' := by
  have h := shape_iff.1 hs
  rcases h.1 with rfl | rfl
  · exact put_little K n (by omega) (by omega) hfit w
  · exact put_big K n (by omega) (by omega) hfit w
theorem refput_ok {o : Int} {K n : Nat} (hs : shapeB o K = true) (hn : n < 18446744073709551616) (hfit : ((n : Int) / 2 ^ (8 * K) != 0) = false) (w : World) :
    Calls Try.prog 15 #[.int .i64 o, .int .i64 K, .int .u64 n] w fun e w' => ∃ v, e = .returned (.tuple #[v, .int .i64 0]) ∧ Own w' w.heap.size v (putL o K n) ∧ Below w.heap.size w w' := by
  have h := shape_iff.1 hs
  rcases h.1 with rfl | rfl
  · exact refput_little_ok K n (by omega) (by omega) hn hfit w
  · exact refput_big_ok K n (by omega) (by omega) hn hfit w
theorem refput_size {o : Int} {K n : Nat} (hs : shapeB o K = true) (hn : n < 18446744073709551616) (hfit : ((n : Int) / 2 ^ (8 * K) != 0) = true) (w : World) :
    Calls Try.prog 15 #[.int .i64 o, .int .i64 K, .int .u64 n] w fun e w' => e = .returned (.tuple #[.slice none 0 0, .int .i64 2]) ∧ Below w.heap.size w w' := by
  have h := shape_iff.1 hs
  rcases h.1 with rfl | rfl
  · exact refput_little_size K n (by omega) (by omega) hn hfit w
  · exact refput_big_size K n (by omega) (by omega) hn hfit w
theorem get_ok {o : Int} {K a : Nat} {v : Value} {l : List UInt8} {w : World} {B : Nat} (hs : shapeB o K = true) (hb : Bs w B v l) (ha : a + K ≤ l.length) :
    Calls Try.prog 17 #[.int .i64 o, v, .int .i64 a, .int .i64 K] w fun e w' => e = .returned (.tuple #[.int .u64 (getP o K l a K : Nat), .int .i64 0]) ∧ w = w' := by
  have h := shape_iff.1 hs
  rcases h.1 with rfl | rfl
  · exact get_little (by omega) (by omega) hb ha
  · exact get_big (by omega) (by omega) hb ha
theorem refget_ok {o : Int} {K a : Nat} {v : Value} {l : List UInt8} {w : World} {B : Nat} (hs : shapeB o K = true) (hb : Bs w B v l) (ha : a + K ≤ l.length) :
    Calls Try.prog 19 #[.int .i64 o, v, .int .i64 a, .int .i64 K] w fun e w' => e = .returned (.tuple #[.int .u64 (getP o K l a K : Nat), .int .i64 0]) ∧ w = w' := by
  have h := shape_iff.1 hs
  rcases h.1 with rfl | rfl
  · exact refget_little (by omega) (by omega) hb ha
  · exact refget_big (by omega) (by omega) hb ha

/-- what Get answers: the number, the error -/
def getR (o k a : Int) (l : List UInt8) : Int × Int :=
  if (shapeB o k && decide (0 ≤ a)) = true then (if a + k ≤ (l.length : Int) then ((getP o k.toNat l a.toNat k.toNat : Nat), 0) else (0, 2)) else (0, 1)
theorem get_all {o k a : Int} {v : Value} {l : List UInt8} {w : World} {B : Nat} (hb : Bs w B v l) (ha2 : a ≤ 9223372036854775807) :
    Calls Try.prog 17 #[.int .i64 o, v, .int .i64 a, .int .i64 k] w fun e w' => e = .returned (.tuple #[.int .u64 (getR o k a l).1, .int .i64 (getR o k a l).2]) ∧ w = w' := by
  unfold getR
  by_cases hs : (shapeB o k && decide (0 ≤ a)) = true
  · rw [if_pos hs]
    simp only [Bool.and_eq_true, decide_eq_true_eq] at hs
    have hk := (shape_iff.1 hs.1).2
    obtain ⟨K, rfl⟩ := Int.eq_ofNat_of_zero_le (show 0 ≤ k by omega)
    obtain ⟨A, rfl⟩ := Int.eq_ofNat_of_zero_le hs.2
    by_cases hf : (A : Int) + K ≤ l.length
    · rw [if_pos hf]
      exact get_ok hs.1 hb (by omega)
    · rw [if_neg hf]
      exact get_size hs.1 hb (by omega) (by omega)
  · rw [if_neg hs]
    exact get_arg o k a v (by simpa using hs) w
theorem refget_all {o k a : Int} {v : Value} {l : List UInt8} {w : World} {B : Nat} (hb : Bs w B v l) (ha2 : a ≤ 9223372036854775807) :
    Calls Try.prog 19 #[.int .i64 o, v, .int .i64 a, .int .i64 k] w fun e w' => e = .returned (.tuple #[.int .u64 (getR o k a l).1, .int .i64 (getR o k a l).2]) ∧ w = w' := by
  unfold getR
  by_cases hs : (shapeB o k && decide (0 ≤ a)) = true
  · rw [if_pos hs]
    simp only [Bool.and_eq_true, decide_eq_true_eq] at hs
    have hk := (shape_iff.1 hs.1).2
    obtain ⟨K, rfl⟩ := Int.eq_ofNat_of_zero_le (show 0 ≤ k by omega)
    obtain ⟨A, rfl⟩ := Int.eq_ofNat_of_zero_le hs.2
    by_cases hf : (A : Int) + K ≤ l.length
    · rw [if_pos hf]
      exact refget_ok hs.1 hb (by omega)
    · rw [if_neg hf]
      exact refget_size hs.1 hb (by omega) (by omega)
  · rw [if_neg hs]
    exact refget_arg o k a v (by simpa using hs) w
end Go.Proofs.Ytpimklpkjinhiaa
