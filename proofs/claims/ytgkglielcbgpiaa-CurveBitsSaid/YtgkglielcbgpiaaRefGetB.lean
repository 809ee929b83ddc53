/- The reference's Get: the number that so many bytes are. -/
import Derived.Test.YtgkglielcbgpiaaLib
import Derived.Deep.RegionWith
import Derived.Laws.BitsAllLaws
namespace Go.Proofs.Ytgkglielcbgpiaa
open Go.RowKit

def shapeB (o k : Int) : Bool := (decide (o = 1) || decide (o = 2)) && decide (1 ≤ k) && decide (k ≤ 8)
theorem shape_iff {o k : Int} : shapeB o k = true ↔ (o = 1 ∨ o = 2) ∧ 1 ≤ k ∧ k ≤ 8 := by simp [shapeB, and_assoc]
def idx (o : Int) (K j : Nat) : Nat := if o = 2 then K - 1 - j else j
theorem idx_little (K j : Nat) : idx 1 K j = j := rfl
theorem shape_any (o k : Int) (w : World) :
    Calls Try.prog 74 #[.int .i64 o, .int .i64 k] w fun e w' => e = .returned (.bool (shapeB o k)) ∧ w = w' := by
  have two : ∀ x : Int, x = 1 ∨ x = 2 → Calls Try.prog 74 #[.int .i64 x, .int .i64 k] w fun e w' => e = .returned (.bool (shapeB x k)) ∧ w = w' := by
    intro x hx
    by_cases h3 : 1 ≤ k
    · have hb : shapeB x k = decide (k ≤ 8) := by simp [shapeB, h3, hx]
      have H := Lib.hid hb; clear hb
      rcases hx with rfl | rfl
      all_goals
        go_enter Try.func74, Try.ntmps74
        go_wp2
        go_ret
        rw [H.out]
        exact ⟨rfl, rfl⟩
    · have hb : shapeB x k = false := by simp [shapeB, h3]
      have H := Lib.hid hb; clear hb
      have h5 : decide (1 ≤ k) = false := by simpa using h3
      rcases hx with rfl | rfl
      all_goals
        go_enter Try.func74, Try.ntmps74
        go_wp2
        go_ret
        rw [H.out]
        exact ⟨rfl, rfl⟩
  by_cases h1 : o = 1
  · exact two o (.inl h1)
  by_cases h2 : o = 2
  · exact two o (.inr h2)
  have hb : shapeB o k = false := by simp [shapeB, h1, h2]
  have H := Lib.hid hb; clear hb
  have e1 : (o == 1) = false := by simpa using h1
  have e2 : (o == 2) = false := by simpa using h2
  clear h1 h2 two
  go_enter Try.func74, Try.ntmps74
  go_wp2
  go_ret
  rw [H.out]
  exact ⟨rfl, rfl⟩
def getP (o : Int) (K : Nat) (l : List UInt8) (a : Nat) : Nat → Nat
  | 0 => 0
  | k + 1 => getP o K l a k + (l.getD (a + idx o K k) 0).toNat * 256 ^ k
theorem getP_lt (o : Int) (K : Nat) (l : List UInt8) (a k : Nat) : getP o K l a k < 256 ^ k := by
  induction k with
  | zero => simp [getP]
  | succ k ih =>
    have h := (l.getD (a + idx o K k) 0).toNat_lt
    have h2 : (l.getD (a + idx o K k) 0).toNat * 256 ^ k ≤ 255 * 256 ^ k := Nat.mul_le_mul_right _ (by omega)
    simp only [getP, Nat.pow_succ]
    omega
theorem pow_le8 {k : Nat} (hk : k < 8) : (256 : Nat) ^ (k + 1) ≤ 18446744073709551616 := by
  have h : (256 : Nat) ^ (k + 1) ≤ 256 ^ 8 := Nat.pow_le_pow_right (by decide) (by omega)
  exact Nat.le_trans h (by decide)
theorem byte_lt {k x : Nat} (hk : k < 8) (hx : x < 256) : x * 256 ^ k < 18446744073709551616 := by
  have h := pow_le8 hk
  have h2 : x * 256 ^ k ≤ 255 * 256 ^ k := Nat.mul_le_mul_right _ (by omega)
  have h3 : 0 < 256 ^ k := Nat.pow_pos (by decide)
  rw [Nat.pow_succ] at h
  omega
theorem u64w (n : Nat) (h : n < 18446744073709551616) : IntKind.u64.wrap (n : Int) = (n : Int) := by rw [IntKind.wrap_u64]; omega
theorem mul_byte {P k x W : Nat} (hk : k < 8) (hx : x < 256) (hP : P < 256 ^ k) (hW : W = 256 ^ k % 18446744073709551616) :
    IntKind.u64.wrap ((P : Int) + IntKind.u64.wrap ((W : Int) * IntKind.u64.wrap (x : Int))) = ((P + x * 256 ^ k : Nat) : Int) := by
  have hb := byte_lt hk hx
  have hp := pow_le8 hk
  have hs := byte_lt hk (x := 255) (by omega)
  rw [Nat.pow_succ] at hp
  have hW' : W = 256 ^ k := by rw [hW]; exact Nat.mod_eq_of_lt (by omega)
  have hsum : P + x * 256 ^ k < 18446744073709551616 := by
    have h2 : x * 256 ^ k ≤ 255 * 256 ^ k := Nat.mul_le_mul_right _ (by omega)
    omega
  have e : (W : Int) * (x : Int) = ((x * 256 ^ k : Nat) : Int) := by rw [hW', Nat.mul_comm]; simp
  rw [u64w x (by omega), e, u64w _ hb]
  have e2 : (P : Int) + ((x * 256 ^ k : Nat) : Int) = ((P + x * 256 ^ k : Nat) : Int) := by simp
  rw [e2, u64w _ hsum]
theorem next_weight (k W : Nat) (hW : W = 256 ^ k % 18446744073709551616) : IntKind.u64.wrap ((W : Int) * 256) = ((256 ^ (k + 1) % 18446744073709551616 : Nat) : Int) := by
  rw [IntKind.wrap_u64, Nat.pow_succ, Nat.mul_mod, ← hW]
  simp
theorem getD_at {l : List UInt8} {j : Nat} (h : j < l.length) : l.getD j 0 = l[j] := by simp [h]
theorem refget_little {K a : Nat} {v : Value} {l : List UInt8} {w : World} {B : Nat} (hK1 : 1 ≤ K) (hK : K ≤ 8) (hb : Bs w B v l) (ha : a + K ≤ l.length) :
    Calls Try.prog 72 #[.int .i64 1, v, .int .i64 a, .int .i64 K] w fun e w' => e = .returned (.tuple #[.int .u64 (getP 1 K l a K : Nat), .int .i64 0]) ∧ w = w' := by
  obtain ⟨A, c, rfl, h1, h2, h3⟩ := hb
  unfold maxLen at h2
  obtain ⟨b, off, rfl, _, hc⟩ := h3 (by omega)
  have HC := Lib.hid hc; clear hc h3
  have hs : shapeB 1 K = true := by simp [shapeB]; omega
  have g0 : decide ((l.length : Int) < K) = false := by simp; omega
  have g1 : decide ((l.length : Int) - K < a) = false := by simp; omega
  go_enter Try.func72, Try.ntmps72
  go_wp2_with (go_at_call 74; refine (shape_any _ _ _).mono ?_; rintro e w' ⟨rfl, rfl⟩; rw [hs])
  go_loop [10, 11, 12, 13] (fun m x i _ => ∃ k : Nat, k ≤ K ∧ i = .int .i64 k ∧ m = .int .u64 (getP 1 K l a k : Nat) ∧ x = .int .u64 ((256 ^ k % 18446744073709551616 : Nat) : Int)) (fun _ _ i _ => K - (intOf i).toNat)
  case atStart => exact ⟨0, Nat.zero_le _, rfl, rfl, rfl⟩
  case round =>
    obtain ⟨k, hk, rfl, rfl, rfl⟩ := hrel
    clear hs g0 g1
    by_cases hlt : k < K
    · have hcell := HC.out (a + k) (by omega)
      obtain ⟨x, hx⟩ : ∃ x : Nat, x = 256 ^ k % 18446744073709551616 := ⟨_, rfl⟩
      obtain ⟨q, hq⟩ : ∃ q : Nat, q = getP 1 K l a k := ⟨_, rfl⟩
      rw [← hx, ← hq]
      have HX := Lib.hid hx; have HQ := Lib.hid hq; clear hx hq
      go_wp2
      go_round
      case rel =>
        have hst : getP 1 K l a (k + 1) = q + (l[a + k]'(by omega)).toNat * 256 ^ k := by
          rw [getP, idx_little K k, getD_at (by omega), HQ.out]
        exact ⟨k + 1, by omega, by go_num, by rw [mul_byte (by omega) (UInt8.toNat_lt _) (by rw [HQ.out]; exact getP_lt _ _ _ _ _) HX.out, hst], by rw [next_weight _ _ HX.out]⟩
      case measure => simp [intOf]; omega
    · go_wp2
      go_ret2
      exact ⟨by rw [show k = K by omega]; rfl, rfl⟩
end Go.Proofs.Ytgkglielcbgpiaa
