/- Get: the number that so many bytes are. -/
import Derived.Test.YtdaccdbehjhfgaaPutD
import Derived.Laws.BitsAllLaws
namespace Go.Proofs.Ytdaccdbehjhfgaa
open Go.RowKit

/-- the number that the first k places count -/
def getP (o : Int) (K : Nat) (l : List UInt8) (a : Nat) : Nat → Nat
  | 0 => 0
  | k + 1 => getP o K l a k + (l.getD (a + idx o K k) 0).toNat * 256 ^ k
theorem getP_lt (o : Int) (K : Nat) (l : List UInt8) (a k : Nat) : getP o K l a k < 256 ^ k := by
  induction k with
  | zero => simp [getP]
  | succ k ih =>
    have h := (l.getD (a + idx o K k) 0).toNat_lt
    have h2 : (l.getD (a + idx o K k) 0).toNat * 256 ^ k ≤ 255 * 256 ^ k := Nat.mul_le_mul_right _ (by omega)
    simp only [getP, Nat.pow_succ]
    omega

theorem pow_le8 {k : Nat} (hk : k < 8) : (256 : Nat) ^ (k + 1) ≤ 18446744073709551616 := by
  have h : (256 : Nat) ^ (k + 1) ≤ 256 ^ 8 := Nat.pow_le_pow_right (by decide) (by omega)
  exact Nat.le_trans h (by decide)
theorem byte_lt {k x : Nat} (hk : k < 8) (hx : x < 256) : x * 256 ^ k < 18446744073709551616 := by
  have h := pow_le8 hk
  have h2 : x * 256 ^ k ≤ 255 * 256 ^ k := Nat.mul_le_mul_right _ (by omega)
  have h3 : 0 < 256 ^ k := Nat.pow_pos (by decide)
  rw [Nat.pow_succ] at h
  omega
theorem u64w (n : Nat) (h : n < 18446744073709551616) : IntKind.u64.wrap (n : Int) = (n : Int) := by rw [IntKind.wrap_u64]; omega
theorem or_byte {P k x : Nat} (hk : k < 8) (hx : x < 256) (hP : P < 256 ^ k) :
    bits .or .u64 (P : Int) (IntKind.u64.wrap (IntKind.u64.wrap (x : Int) * 2 ^ (8 * k))) = ((P + x * 256 ^ k : Nat) : Int) := by
  have e : (x : Int) * 2 ^ (8 * k) = ((x * 256 ^ k : Nat) : Int) := by rw [← pow8]; simp
  have hb := byte_lt hk hx
  have hp := pow_le8 hk
  rw [Nat.pow_succ] at hp
  rw [u64w x (by omega), e, u64w _ hb, u64_or_nat _ _ (by omega) hb, Nat.or_comm, nat_join (8 * k) _ _ (by rw [pow8]; exact Nat.mul_mod_left _ _) (by rw [pow8]; exact hP), Nat.add_comm]
theorem mul_byte {P k x W : Nat} (hk : k < 8) (hx : x < 256) (hP : P < 256 ^ k) (hW : W = 256 ^ k % 18446744073709551616) :
    IntKind.u64.wrap ((P : Int) + IntKind.u64.wrap ((W : Int) * IntKind.u64.wrap (x : Int))) = ((P + x * 256 ^ k : Nat) : Int) := by
  have hb := byte_lt hk hx
  have hp := pow_le8 hk
  have hs := byte_lt hk (x := 255) (by omega)
  rw [Nat.pow_succ] at hp
  have hW' : W = 256 ^ k := by rw [hW]; exact Nat.mod_eq_of_lt (by omega)
  have hsum : P + x * 256 ^ k < 18446744073709551616 := by
    have h2 : x * 256 ^ k ≤ 255 * 256 ^ k := Nat.mul_le_mul_right _ (by omega)
    omega
  have e : (W : Int) * (x : Int) = ((x * 256 ^ k : Nat) : Int) := by rw [hW', Nat.mul_comm]; simp
  rw [u64w x (by omega), e, u64w _ hb]
  have e2 : (P : Int) + ((x * 256 ^ k : Nat) : Int) = ((P + x * 256 ^ k : Nat) : Int) := by simp
  rw [e2, u64w _ hsum]
theorem next_weight (k W : Nat) (hW : W = 256 ^ k % 18446744073709551616) : IntKind.u64.wrap ((W : Int) * 256) = ((256 ^ (k + 1) % 18446744073709551616 : Nat) : Int) := by
  rw [IntKind.wrap_u64, Nat.pow_succ, Nat.mul_mod, ← hW]
  simp
theorem getD_at {l : List UInt8} {j : Nat} (h : j < l.length) : l.getD j 0 = l[j] := by simp [h]

theorem get_arg (o k a : Int) (v : Value) (hs : (shapeB o k && decide (0 ≤ a)) = false) (w : World) :
    Calls Try.prog 61 #[.int .i64 o, v, .int .i64 a, .int .i64 k] w fun e w' => e = .returned (.tuple #[.int .u64 0, .int .i64 1]) ∧ w = w' := by
  cases h : shapeB o k
  · clear hs
    go_enter Try.func61, Try.ntmps61
    go_wp2_with (go_at_call 52; refine (formed_any _ _ _).mono ?_; rintro e w' ⟨rfl, rfl⟩; rw [h])
    go_ret2
    exact ⟨rfl, rfl⟩
  · have ha : a < 0 := by simpa [h] using hs
    clear hs
    go_enter Try.func61, Try.ntmps61
    go_wp2_with (go_at_call 52; refine (formed_any _ _ _).mono ?_; rintro e w' ⟨rfl, rfl⟩; rw [h])
    go_ret2
    exact ⟨rfl, rfl⟩

theorem get_size {o : Int} {K : Nat} {a : Nat} {v : Value} {l : List UInt8} {w : World} {B : Nat} (hs : shapeB o K = true) (hb : Bs w B v l) (ha : l.length < a + K) (ha2 : a ≤ 9223372036854775807) :
    Calls Try.prog 61 #[.int .i64 o, v, .int .i64 a, .int .i64 K] w fun e w' => e = .returned (.tuple #[.int .u64 0, .int .i64 2]) ∧ w = w' := by
  obtain ⟨A, c, rfl, h1, h2, _⟩ := hb
  unfold maxLen at h2
  have hk := (shape_iff.1 hs).2
  have g : (l.length : Int) - K < a := by omega
  go_enter Try.func61, Try.ntmps61
  go_wp2_with (go_at_call 52; refine (formed_any _ _ _).mono ?_; rintro e w' ⟨rfl, rfl⟩; rw [hs])
  go_ret2
  exact ⟨rfl, rfl⟩


set_option maxHeartbeats 400000 in
theorem get_little {K a : Nat} {v : Value} {l : List UInt8} {w : World} {B : Nat} (hK1 : 1 ≤ K) (hK : K ≤ 8) (hb : Bs w B v l) (ha : a + K ≤ l.length) :
    Calls Try.prog 61 #[.int .i64 1, v, .int .i64 a, .int .i64 K] w fun e w' => e = .returned (.tuple #[.int .u64 (getP 1 K l a K : Nat), .int .i64 0]) ∧ w = w' := by
  obtain ⟨A, c, rfl, h1, h2, h3⟩ := hb
  unfold maxLen at h2
  obtain ⟨b, off, rfl, _, hc⟩ := h3 (by omega)
  have HC := Lib.hid hc; clear hc h3
  have hs : shapeB 1 K = true := by simp [shapeB]; omega
  go_enter Try.func61, Try.ntmps61
  go_wp2_with (go_at_call 52; refine (formed_any _ _ _).mono ?_; rintro e w' ⟨rfl, rfl⟩; rw [hs])
  go_loop [10, 27] (fun m i => ∃ k : Nat, k ≤ K ∧ i = .int .i64 k ∧ m = .int .u64 (getP 1 K l a k : Nat)) (fun _ i => K - (intOf i).toNat)
  case atStart => exact ⟨0, Nat.zero_le _, rfl, rfl⟩
  case round =>
    obtain ⟨k, hk, rfl, rfl⟩ := hrel
    clear hs
    by_cases hlt : k < K
    · have hcell := HC.out (a + k) (by omega)
      have hor := or_byte (P := getP 1 K l a k) (k := k) (x := (l[a + k]'(by omega)).toNat) (by omega) (UInt8.toNat_lt _) (getP_lt _ _ _ _ _)
      have HO := Lib.hid hor; clear hor
      go_wp2_with (go_at_call 53; refine (place_little _ _ _).mono ?_; rintro e w' ⟨rfl, rfl⟩)
      go_round
      case rel =>
        have hst : getP 1 K l a (k + 1) = getP 1 K l a k + (l[a + k]'(by omega)).toNat * 256 ^ k := by
          rw [getP, idx_little K k, getD_at (by omega)]
        exact ⟨k + 1, by omega, by go_num, by rw [HO.out, hst]⟩
      case measure => simp [intOf]; omega
    · go_wp2
      go_ret2
      exact ⟨by rw [show k = K by omega]; rfl, rfl⟩

set_option maxHeartbeats 400000 in
theorem get_big {K a : Nat} {v : Value} {l : List UInt8} {w : World} {B : Nat} (hK1 : 1 ≤ K) (hK : K ≤ 8) (hb : Bs w B v l) (ha : a + K ≤ l.length) :
    Calls Try.prog 61 #[.int .i64 2, v, .int .i64 a, .int .i64 K] w fun e w' => e = .returned (.tuple #[.int .u64 (getP 2 K l a K : Nat), .int .i64 0]) ∧ w = w' := by
  obtain ⟨A, c, rfl, h1, h2, h3⟩ := hb
  unfold maxLen at h2
  obtain ⟨b, off, rfl, _, hc⟩ := h3 (by omega)
  have HC := Lib.hid hc; clear hc h3
  have hs : shapeB 2 K = true := by simp [shapeB]; omega
  go_enter Try.func61, Try.ntmps61
  go_wp2_with (go_at_call 52; refine (formed_any _ _ _).mono ?_; rintro e w' ⟨rfl, rfl⟩; rw [hs])
  go_loop [10, 27] (fun m i => ∃ k : Nat, k ≤ K ∧ i = .int .i64 k ∧ m = .int .u64 (getP 2 K l a k : Nat)) (fun _ i => K - (intOf i).toNat)
  case atStart => exact ⟨0, Nat.zero_le _, rfl, rfl⟩
  case round =>
    obtain ⟨k, hk, rfl, rfl⟩ := hrel
    clear hs
    by_cases hlt : k < K
    · have hcell := HC.out (a + (K - 1 - k)) (by omega)
      have hor := or_byte (P := getP 2 K l a k) (k := k) (x := (l[a + (K - 1 - k)]'(by omega)).toNat) (by omega) (UInt8.toNat_lt _) (getP_lt _ _ _ _ _)
      have HO := Lib.hid hor; clear hor
      go_wp2_with (go_at_call 53; refine (place_big _ _ (by omega) (by omega) _).mono ?_; rintro e w' ⟨rfl, rfl⟩)
      go_round
      case rel =>
        have hst : getP 2 K l a (k + 1) = getP 2 K l a k + (l[a + (K - 1 - k)]'(by omega)).toNat * 256 ^ k := by
          rw [getP, idx_big K k, getD_at (by omega)]
        exact ⟨k + 1, by omega, by go_num, by rw [HO.out, hst]⟩
      case measure => simp [intOf]; omega
    · go_wp2
      go_ret2
      exact ⟨by rw [show k = K by omega]; rfl, rfl⟩

end Go.Proofs.Ytdaccdbehjhfgaa
