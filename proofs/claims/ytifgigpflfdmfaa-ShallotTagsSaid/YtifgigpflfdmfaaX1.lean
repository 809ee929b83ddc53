/- Expand of mac: the bytes that HKDF's second step makes. -/
import Derived.Test.YtifgigpflfdmfaaRefTag
import Derived.Test.YtifgigpflfdmfaaMacShort
import Derived.Deep.WholeRow
namespace Go.Proofs.Ytifgigpflfdmfaa
open Go.RowKit

/-- the tag of number i -/
def tagE (key info : List UInt8) : Nat → List UInt8
  | 0 => []
  | i + 1 => tagL key (tagE key info i ++ info ++ [UInt8.ofNat (i + 1)])
/-- the first i tags, one behind the other -/
def okm (key info : List UInt8) : Nat → List UInt8
  | 0 => []
  | i + 1 => okm key info i ++ tagE key info (i + 1)
theorem tagE_len (key info : List UInt8) (i : Nat) : (tagE key info (i + 1)).length = 32 := tagL_len _ _
theorem okm_len (key info : List UInt8) : ∀ i, (okm key info i).length = 32 * i
  | 0 => rfl
  | i + 1 => by rw [okm, List.length_append, okm_len key info i, tagE_len]; omega
theorem okm_prefix (key info : List UInt8) (i : Nat) : ∀ d j, j < 32 * i → (okm key info (i + d))[j]? = (okm key info i)[j]?
  | 0, _, _ => rfl
  | d + 1, j, h => by
    rw [← Nat.add_assoc, okm, List.getElem?_append_left (by rw [okm_len]; omega)]
    exact okm_prefix key info i d j h
theorem okm_take (key info : List UInt8) {n i k : Nat} (hi : n ≤ 32 * i) (hk : n ≤ 32 * k) : (okm key info i).take n = (okm key info k).take n := by
  apply List.ext_getElem?
  intro j
  rw [List.getElem?_take, List.getElem?_take]
  by_cases hj : j < n
  · rw [if_pos hj, if_pos hj]
    rcases Nat.le_total i k with h | h
    · obtain ⟨d, rfl⟩ := Nat.exists_eq_add_of_le h
      exact (okm_prefix key info i d j (by omega)).symm
    · obtain ⟨d, rfl⟩ := Nat.exists_eq_add_of_le h
      exact okm_prefix key info k d j (by omega)
  · rw [if_neg hj, if_neg hj]
/-- what Expand makes -/
def expL (key info : List UInt8) (n : Nat) : List UInt8 := (okm key info (n + 1)).take n
theorem expL_len (key info : List UInt8) (n : Nat) : (expL key info n).length = n := by rw [expL, List.length_take, okm_len]; omega
theorem expL_at (key info : List UInt8) {n i : Nat} (h : n ≤ 32 * i) : (okm key info i).take n = expL key info n := okm_take key info h (by omega)
theorem expL_take (key info : List UInt8) {n m : Nat} (h : n ≤ m) : (expL key info m).take n = expL key info n := by
  rw [expL, List.take_take, Nat.min_eq_left h]
  exact expL_at key info (by omega)
/-- the row behind i rounds -/
def rowX (key info : List UInt8) (n i : Nat) : List UInt8 := (okm key info i ++ zs n).take n
theorem rowX_len (key info : List UInt8) (n i : Nat) : (rowX key info n i).length = n := by rw [rowX, List.length_take, List.length_append, zs_len]; omega
theorem rowX_zero (key info : List UInt8) (n : Nat) : rowX key info n 0 = zs n := by rw [rowX, okm, List.nil_append, List.take_of_length_le (by rw [zs_len]; exact Nat.le_refl _)]
theorem rowX_end (key info : List UInt8) {n i : Nat} (h : n ≤ 32 * i) : rowX key info n i = expL key info n := by
  rw [rowX, List.take_append_of_le_length (by rw [okm_len]; exact h)]
  exact expL_at key info h
theorem zs_at {n j : Nat} (h : j < n) : (zs n)[j]? = some 0 := by simp [zs, h]
/-- what goes over in a round -/
def goE (key info : List UInt8) (n i : Nat) : List UInt8 := (tagE key info (i + 1)).take (Nat.min 32 (n - 32 * i))
theorem goE_len (key info : List UInt8) (n i : Nat) : (goE key info n i).length = Nat.min 32 (n - 32 * i) := by
  rw [goE, List.length_take, tagE_len]
  exact Nat.min_eq_left (Nat.min_le_left _ _)
theorem rowX_succ (key info : List UInt8) {n i : Nat} (h : 32 * i < n) : splice ((rowX key info n i).map vb) (32 * i) ((goE key info n i).map vb) = (rowX key info n (i + 1)).map vb := by
  have hm : Nat.min 32 (n - 32 * i) = if 32 ≤ n - 32 * i then 32 else n - 32 * i := by
    split
    · exact Nat.min_eq_left (by assumption)
    · exact Nat.min_eq_right (by omega)
  have hg := goE_len key info n i
  rw [hm] at hg
  have hgat : ∀ j, j < (goE key info n i).length → (goE key info n i)[j]? = (tagE key info (i + 1))[j]? := by
    intro j hj
    rw [goE, List.getElem?_take, if_pos (by rw [← goE_len]; exact hj)]
  apply List.ext_getElem?
  intro j
  unfold splice
  by_cases h1 : j < 32 * i
  · rw [List.getElem?_append_left (by rw [List.length_take, List.length_map, rowX_len]; omega), List.getElem?_take, if_pos h1, List.getElem?_map, List.getElem?_map]
    congr 1
    rw [rowX, rowX, List.getElem?_take, if_pos (by omega), List.getElem?_take, if_pos (by omega), List.getElem?_append_left (by rw [okm_len]; omega), List.getElem?_append_left (by rw [okm_len]; omega)]
    exact (okm_prefix key info i 1 j h1).symm
  · rw [List.getElem?_append_right (by rw [List.length_take, List.length_map, rowX_len]; omega)]
    have e0 : ((List.map vb (rowX key info n i)).take (32 * i)).length = 32 * i := by rw [List.length_take, List.length_map, rowX_len]; omega
    rw [e0]
    by_cases h2 : j - 32 * i < (goE key info n i).length
    · rw [List.getElem?_append_left (by rw [List.length_map]; exact h2), List.getElem?_map, List.getElem?_map, hgat _ h2]
      congr 1
      rw [hg] at h2
      have h3 : j < 32 * (i + 1) ∧ j < n := by split at h2 <;> omega
      rw [rowX, List.getElem?_take, if_pos h3.2, List.getElem?_append_left (by rw [okm_len]; exact h3.1), okm, List.getElem?_append_right (by rw [okm_len]; omega), okm_len]
    · rw [List.getElem?_append_right (by rw [List.length_map]; omega), List.getElem?_drop, List.length_map, List.getElem?_map, List.getElem?_map]
      congr 1
      have e1 : 32 * i + (goE key info n i).length + (j - 32 * i - (goE key info n i).length) = j := by omega
      rw [e1, rowX, rowX, List.getElem?_take, List.getElem?_take]
      by_cases h4 : j < n
      · rw [if_pos h4, if_pos h4]
        rw [hg] at h2
        have h5 : 32 * (i + 1) ≤ j := by split at h2 <;> omega
        rw [List.getElem?_append_right (by rw [okm_len]; omega), List.getElem?_append_right (by rw [okm_len]; omega), okm_len, okm_len, zs_at (by omega), zs_at (by omega)]
      · rw [if_neg h4, if_neg h4]
end Go.Proofs.Ytifgigpflfdmfaa
