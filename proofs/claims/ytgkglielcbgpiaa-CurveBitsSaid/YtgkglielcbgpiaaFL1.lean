/- The laws of a field, of numbers modulo p. -/
import Derived.Test.YtgkglielcbgpiaaV1
import Derived.Test.YtgkglielcbgpiaaL1
import Derived.Test.YtgkglielcbgpiaaLuc
namespace Go.Proofs.Ytgkglielcbgpiaa
open Go.RowKit

theorem sumP2 (a b : Nat) : sumP [a, b] = (a + b) % PP := by simp [sumP, addP, Nat.add_mod]
theorem sumP3 (a b c : Nat) : sumP [a, b, c] = (a + b + c) % PP := by simp [sumP, addP, Nat.add_mod]
theorem prodP2 (a b : Nat) : prodP [a, b] = a * b % PP := by
  simp only [prodP, List.foldl_cons, List.foldl_nil, mulP]
  rw [show 1 % PP = 1 from rfl, Nat.one_mul, Nat.mod_mul_mod]
theorem prodP3 (a b c : Nat) : prodP [a, b, c] = a * b * c % PP := by
  simp [prodP, mulP, Nat.mul_mod, show 1 % PP = 1 from rfl]
theorem fl_sumc (x y : Nat) : sumP [x, y] = sumP [y, x] := by rw [sumP2, sumP2, Nat.add_comm]
theorem fl_prodc (x y : Nat) : prodP [x, y] = prodP [y, x] := by rw [prodP2, prodP2, Nat.mul_comm]
theorem fl_sum3 (x y z : Nat) : sumP [sumP [x, y], z] = sumP [x, y, z] := by rw [sumP2, sumP2, sumP3, Nat.mod_add_mod]
theorem fl_prod3 (x y z : Nat) : prodP [prodP [x, y], z] = prodP [x, y, z] := by rw [prodP2, prodP2, prodP3, Nat.mod_mul_mod]
theorem fl_dist (x y z : Nat) : prodP [x, sumP [y, z]] = sumP [prodP [x, y], prodP [x, z]] := by
  rw [prodP2, prodP2, prodP2, sumP2, sumP2, Nat.mul_mod_mod, Nat.mul_add, ← Nat.add_mod]
theorem PP_pos : 0 < PP := by decide
theorem subN_spec (V U : Nat) : (subN V U + U) % PP = V % PP := by
  unfold subN
  have h1 := Nat.mod_lt V PP_pos
  have h2 := Nat.mod_lt U PP_pos
  rw [Nat.mod_add_mod, ← Nat.add_mod_mod, show V % PP + PP - U % PP + U % PP = V % PP + PP by omega, Nat.add_mod_right, Nat.mod_mod]
theorem fl_subadd (x y : Nat) : sumP [subN x y, y] = x % PP := by rw [sumP2, subN_spec]
theorem fl_addsub (x y : Nat) : subN (sumP [x, y]) y = x % PP := by
  rw [sumP2]
  unfold subN
  rw [Nat.mod_mod]
  have h1 := Nat.mod_lt x PP_pos
  have h2 := Nat.mod_lt y PP_pos
  have h3 : (x + y) % PP = (x % PP + y % PP) % PP := Nat.add_mod x y PP
  rw [h3]
  by_cases h : x % PP + y % PP < PP
  · rw [Nat.mod_eq_of_lt h, show x % PP + y % PP + PP - y % PP = x % PP + PP by omega, Nat.add_mod_right, Nat.mod_mod]
  · have h4 : (x % PP + y % PP) % PP = x % PP + y % PP - PP := by rw [Nat.mod_eq_sub_mod (by omega), Nat.mod_eq_of_lt (by omega)]
    rw [h4, show x % PP + y % PP - PP + PP - y % PP = x % PP by omega, Nat.mod_mod]
theorem fl_sq (x : Nat) : x * x % PP = prodP [x, x] := (prodP2 x x).symm
theorem ferP : Luc.Fer PP := Luc.fer_P
theorem pow_mod0 {x k : Nat} (h : x % PP = 0) (hk : k ≠ 0) : x ^ k % PP = 0 := by
  rw [Nat.pow_mod, h, Nat.zero_pow (by omega)]
  rfl
theorem fl_inv0 {x : Nat} (h : x % PP = 0) : invP x = 0 := by
  unfold invP
  rw [numL_eInv]
  exact pow_mod0 h (by decide)
theorem fl_inv1 {x : Nat} (h : x % PP ≠ 0) : prodP [x, invP x] = 1 := by
  rw [prodP2]
  unfold invP
  rw [numL_eInv, Nat.mul_mod_mod, ← Nat.pow_succ', show (PP - 2).succ = PP - 1 from rfl]
  exact ferP.2 x h
theorem inv_nz {x : Nat} (h : x % PP ≠ 0) : invP x % PP ≠ 0 := by
  intro h0
  have h1 := fl_inv1 h
  rw [prodP2, Nat.mul_mod, h0, Nat.mul_zero, Nat.zero_mod] at h1
  exact absurd h1 (by decide)
theorem fl_invinv {x : Nat} (h : x % PP ≠ 0) : invP (invP x) = x % PP := by
  have h1 := fl_inv1 h
  have h2 := fl_inv1 (inv_nz h)
  rw [prodP2] at h1 h2
  have hlt : invP (invP x) < PP := Nat.mod_lt _ PP_pos
  calc invP (invP x) = invP (invP x) % PP := (Nat.mod_eq_of_lt hlt).symm
    _ = (1 * invP (invP x)) % PP := by rw [Nat.one_mul]
    _ = (x * invP x % PP * invP (invP x)) % PP := by rw [h1]
    _ = (x * invP x * invP (invP x)) % PP := by rw [Nat.mod_mul_mod]
    _ = (x * (invP x * invP (invP x) % PP)) % PP := by rw [Nat.mul_mod_mod, Nat.mul_assoc]
    _ = x % PP := by rw [h2, Nat.mul_one]
def eFer : List UInt8 := 236 :: (List.replicate 30 255 ++ [127])
theorem num_eFer : numL eFer = PP - 1 := by decide +kernel
theorem fl_fer {x : Nat} (h : x % PP ≠ 0) : x ^ numL eFer % PP = 1 := by rw [num_eFer]; exact ferP.2 x h
end Go.Proofs.Ytgkglielcbgpiaa
