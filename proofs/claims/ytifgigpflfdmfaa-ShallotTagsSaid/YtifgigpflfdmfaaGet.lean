/- Get: the number that so many bytes are. -/
import Derived.Test.YtifgigpflfdmfaaGetC
import Derived.Test.YtifgigpflfdmfaaPut
import Derived.Laws.BitsAllLaws
namespace Go.Proofs.Ytifgigpflfdmfaa
open Go.RowKit

theorem refget_arg (o k a : Int) (v : Value) (hs : (shapeB o k && decide (0 ≤ a)) = false) (w : World) :
    Calls Try.prog 99 #[.int .i64 o, v, .int .i64 a, .int .i64 k] w fun e w' => e = .returned (.tuple #[.int .u64 0, .int .i64 1]) ∧ w = w' := by
  cases h : shapeB o k
  · clear hs
    go_enter Try.func99, Try.ntmps99
    go_wp2_with (go_at_call 101; refine (shape_any _ _ _).mono ?_; rintro e w' ⟨rfl, rfl⟩; rw [h])
    go_ret2
    exact ⟨rfl, rfl⟩
  · have ha : a < 0 := by simpa [h] using hs
    clear hs
    go_enter Try.func99, Try.ntmps99
    go_wp2_with (go_at_call 101; refine (shape_any _ _ _).mono ?_; rintro e w' ⟨rfl, rfl⟩; rw [h])
    go_ret2
    exact ⟨rfl, rfl⟩

theorem refget_size {o : Int} {K : Nat} {a : Nat} {v : Value} {l : List UInt8} {w : World} {B : Nat} (hs : shapeB o K = true) (hb : Bs w B v l) (ha : l.length < a + K) (ha2 : a ≤ 9223372036854775807) :
    Calls Try.prog 99 #[.int .i64 o, v, .int .i64 a, .int .i64 K] w fun e w' => e = .returned (.tuple #[.int .u64 0, .int .i64 2]) ∧ w = w' := by
  obtain ⟨A, c, rfl, h1, h2, _⟩ := hb
  unfold maxLen at h2
  have hk := (shape_iff.1 hs).2
  by_cases h : l.length < K
  · have g : (l.length : Int) < K := by omega
    go_enter Try.func99, Try.ntmps99
    go_wp2_with (go_at_call 101; refine (shape_any _ _ _).mono ?_; rintro e w' ⟨rfl, rfl⟩; rw [hs])
    go_ret2
    exact ⟨rfl, rfl⟩
  · have g0 : decide ((l.length : Int) < K) = false := by simp; omega
    have g : (l.length : Int) - K < a := by omega
    go_enter Try.func99, Try.ntmps99
    go_wp2_with (go_at_call 101; refine (shape_any _ _ _).mono ?_; rintro e w' ⟨rfl, rfl⟩; rw [hs])
    go_ret2
    exact ⟨rfl, rfl⟩

set_option maxHeartbeats 400000 in
theorem refget_little {K a : Nat} {v : Value} {l : List UInt8} {w : World} {B : Nat} (hK1 : 1 ≤ K) (hK : K ≤ 8) (hb : Bs w B v l) (ha : a + K ≤ l.length) :
    Calls Try.prog 99 #[.int .i64 1, v, .int .i64 a, .int .i64 K] w fun e w' => e = .returned (.tuple #[.int .u64 (getP 1 K l a K : Nat), .int .i64 0]) ∧ w = w' := by
  obtain ⟨A, c, rfl, h1, h2, h3⟩ := hb
  unfold maxLen at h2
  obtain ⟨b, off, rfl, _, hc⟩ := h3 (by omega)
  have HC := Lib.hid hc; clear hc h3
  have hs : shapeB 1 K = true := by simp [shapeB]; omega
  have g0 : decide ((l.length : Int) < K) = false := by simp; omega
  have g1 : decide ((l.length : Int) - K < a) = false := by simp; omega
  go_enter Try.func99, Try.ntmps99
  go_wp2_with (go_at_call 101; refine (shape_any _ _ _).mono ?_; rintro e w' ⟨rfl, rfl⟩; rw [hs])
  go_loop [10, 11, 12, 13] (fun m x i _ => ∃ k : Nat, k ≤ K ∧ i = .int .i64 k ∧ m = .int .u64 (getP 1 K l a k : Nat) ∧ x = .int .u64 ((256 ^ k % 18446744073709551616 : Nat) : Int)) (fun _ _ i _ => K - (intOf i).toNat)
  case atStart => exact ⟨0, Nat.zero_le _, rfl, rfl, rfl⟩
  case round =>
    obtain ⟨k, hk, rfl, rfl, rfl⟩ := hrel
    clear hs g0 g1
    by_cases hlt : k < K
    · have hcell := HC.out (a + k) (by omega)
      obtain ⟨x, hx⟩ : ∃ x : Nat, x = 256 ^ k % 18446744073709551616 := ⟨_, rfl⟩
      obtain ⟨q, hq⟩ : ∃ q : Nat, q = getP 1 K l a k := ⟨_, rfl⟩
      rw [← hx, ← hq]
      have HX := Lib.hid hx; have HQ := Lib.hid hq; clear hx hq
      go_wp2
      go_round
      case rel =>
        have hst : getP 1 K l a (k + 1) = q + (l[a + k]'(by omega)).toNat * 256 ^ k := by
          rw [getP, idx_little K k, getD_at (by omega), HQ.out]
        exact ⟨k + 1, by omega, by go_num, by rw [mul_byte (by omega) (UInt8.toNat_lt _) (by rw [HQ.out]; exact getP_lt _ _ _ _ _) HX.out, hst], by rw [next_weight _ _ HX.out]⟩
      case measure => simp [intOf]; omega
    · go_wp2
      go_ret2
      exact ⟨by rw [show k = K by omega]; rfl, rfl⟩

set_option maxHeartbeats 400000 in
theorem refget_big {K a : Nat} {v : Value} {l : List UInt8} {w : World} {B : Nat} (hK1 : 1 ≤ K) (hK : K ≤ 8) (hb : Bs w B v l) (ha : a + K ≤ l.length) :
    Calls Try.prog 99 #[.int .i64 2, v, .int .i64 a, .int .i64 K] w fun e w' => e = .returned (.tuple #[.int .u64 (getP 2 K l a K : Nat), .int .i64 0]) ∧ w = w' := by
  obtain ⟨A, c, rfl, h1, h2, h3⟩ := hb
  unfold maxLen at h2
  obtain ⟨b, off, rfl, _, hc⟩ := h3 (by omega)
  have HC := Lib.hid hc; clear hc h3
  have hs : shapeB 2 K = true := by simp [shapeB]; omega
  have g0 : decide ((l.length : Int) < K) = false := by simp; omega
  have g1 : decide ((l.length : Int) - K < a) = false := by simp; omega
  go_enter Try.func99, Try.ntmps99
  go_wp2_with (go_at_call 101; refine (shape_any _ _ _).mono ?_; rintro e w' ⟨rfl, rfl⟩; rw [hs])
  go_loop [10, 11, 12, 13] (fun m x i _ => ∃ k : Nat, k ≤ K ∧ i = .int .i64 k ∧ m = .int .u64 (getP 2 K l a k : Nat) ∧ x = .int .u64 ((256 ^ k % 18446744073709551616 : Nat) : Int)) (fun _ _ i _ => K - (intOf i).toNat)
  case atStart => exact ⟨0, Nat.zero_le _, rfl, rfl, rfl⟩
  case round =>
    obtain ⟨k, hk, rfl, rfl, rfl⟩ := hrel
    clear hs g0 g1
    by_cases hlt : k < K
    · have hcell := HC.out (a + K - 1 - k) (by omega)
      obtain ⟨x, hx⟩ : ∃ x : Nat, x = 256 ^ k % 18446744073709551616 := ⟨_, rfl⟩
      obtain ⟨q, hq⟩ : ∃ q : Nat, q = getP 2 K l a k := ⟨_, rfl⟩
      rw [← hx, ← hq]
      have HX := Lib.hid hx; have HQ := Lib.hid hq; clear hx hq
      go_wp2
      go_round
      case rel =>
        have hst : getP 2 K l a (k + 1) = q + (l[a + K - 1 - k]'(by omega)).toNat * 256 ^ k := by
          rw [getP, idx_big K k, show a + (K - 1 - k) = a + K - 1 - k by omega, getD_at (by omega), HQ.out]
        exact ⟨k + 1, by omega, by go_num, by rw [mul_byte (by omega) (UInt8.toNat_lt _) (by rw [HQ.out]; exact getP_lt _ _ _ _ _) HX.out, hst], by rw [next_weight _ _ HX.out]⟩
      case measure => simp [intOf]; omega
    · go_wp2
      go_ret2
      exact ⟨by rw [show k = K by omega]; rfl, rfl⟩
end Go.Proofs.Ytifgigpflfdmfaa
