/- Long numbers by digits of 16 bits: values, products, which is the greater. -/
import Derived.Test.YtnkbgokimafaeaaLibZ
namespace Go.Proofs.Ytnkbgokimafaeaa

/-- the value of the first m digits -/
def vD (f : Nat → Nat) : Nat → Nat
  | 0 => 0
  | m + 1 => vD f m + f m * 65536 ^ m
theorem vD_lt {f : Nat → Nat} : ∀ {m : Nat}, (∀ k, k < m → f k < 65536) → vD f m < 65536 ^ m
  | 0, _ => by simp [vD]
  | m + 1, h => by
    have h1 := vD_lt (m := m) (fun k hk => h k (by omega))
    have h2 := h m (by omega)
    have h3 : f m * 65536 ^ m ≤ 65535 * 65536 ^ m := Nat.mul_le_mul_right _ (by omega)
    rw [vD, Nat.pow_succ]
    omega
theorem vD_ext {f g : Nat → Nat} : ∀ {m : Nat}, (∀ k, k < m → f k = g k) → vD f m = vD g m
  | 0, _ => rfl
  | m + 1, h => by rw [vD, vD, vD_ext (m := m) (fun k hk => h k (by omega)), h m (by omega)]
/-- digit i set to d -/
def updD (f : Nat → Nat) (i d : Nat) : Nat → Nat := fun k => if k = i then d else f k
theorem vD_upd {f : Nat → Nat} {i d : Nat} : ∀ {m : Nat}, i < m → vD (updD f i d) m + f i * 65536 ^ i = vD f m + d * 65536 ^ i
  | m + 1, h => by
    rw [vD, vD]
    by_cases hi : i = m
    · subst hi
      rw [vD_ext (g := f) (m := i) (fun k hk => by simp [updD]; omega)]
      simp only [updD, if_true]
      omega
    · have h1 := vD_upd (f := f) (i := i) (d := d) (m := m) (by omega)
      have e : updD f i d m = f m := by simp [updD]; omega
      rw [e]
      omega
theorem vD_more {f : Nat → Nat} {m : Nat} : ∀ {M : Nat}, m ≤ M → (∀ k, m ≤ k → k < M → f k = 0) → vD f M = vD f m
  | 0, h, _ => by
    obtain rfl : m = 0 := by omega
    rfl
  | M + 1, h, hz => by
    by_cases he : m = M + 1
    · rw [he]
    · rw [vD, hz M (by omega) (by omega), Nat.zero_mul, Nat.add_zero]
      exact vD_more (by omega) (fun k hk hk2 => hz k hk (by omega))
/-- the digits of a list -/
def FL (l : List Nat) : Nat → Nat := fun k => l.getD k 0
theorem FL_out {l : List Nat} {k : Nat} (h : l.length ≤ k) : FL l k = 0 := by simp [FL, List.getD_eq_getElem?_getD, List.getElem?_eq_none h]
theorem FL_at {l : List Nat} {k : Nat} (h : k < l.length) : FL l k = l[k] := by simp [FL, h]
theorem FL_set {l : List Nat} {i d : Nat} (h : i < l.length) : FL (l.set i d) = updD (FL l) i d := by
  funext k
  simp only [FL, updD, List.getD_eq_getElem?_getD, List.getElem?_set]
  by_cases hk : k = i
  · subst hk; simp [h]
  · rw [if_neg (fun e => hk e.symm), if_neg hk]
def okD (l : List Nat) : Prop := ∀ x ∈ l, x < 65536
theorem okD.at {l : List Nat} (h : okD l) (k : Nat) : FL l k < 65536 := by
  by_cases hk : k < l.length
  · rw [FL_at hk]; exact h _ (List.getElem_mem hk)
  · rw [FL_out (by omega)]; omega
theorem okD.set {l : List Nat} (h : okD l) {i d : Nat} (hd : d < 65536) : okD (l.set i d) := fun x hx => by
  rcases List.mem_or_eq_of_mem_set hx with h1 | rfl
  · exact h x h1
  · exact hd
/-- the value of a list -/
def vL (l : List Nat) : Nat := vD (FL l) l.length
theorem vL_more {l : List Nat} {M : Nat} (h : l.length ≤ M) : vD (FL l) M = vL l := vD_more h (fun _ hk _ => FL_out hk)
theorem vL_lt {l : List Nat} (h : okD l) : vL l < 65536 ^ l.length := vD_lt (fun k _ => h.at k)
/-- which is the greater -/
theorem vD_cmp {f g : Nat → Nat} {i : Nat} (hf : ∀ k, f k < 65536) (hg : ∀ k, g k < 65536) (hlt : f i < g i) : ∀ {M : Nat}, i < M → (∀ k, i < k → k < M → f k = g k) → vD f M < vD g M
  | M + 1, h, he => by
    rw [vD, vD]
    by_cases hi : i = M
    · subst hi
      have h1 := vD_lt (f := f) (m := i) (fun k _ => hf k)
      have h2 : (f i + 1) * 65536 ^ i ≤ g i * 65536 ^ i := Nat.mul_le_mul_right _ hlt
      rw [Nat.add_mul] at h2
      omega
    · rw [he M (by omega) (by omega)]
      have := vD_cmp hf hg hlt (M := M) (by omega) (fun k hk hk2 => he k hk (by omega))
      omega
/-- one digit of a row of the product -/
theorem times_step {O : List Nat} {i j c a b M : Nat} {f : Nat → Nat} {V : Nat} (hM : M = O.length) (hij : i + j < M) (hb : b = f j)
    (h : vD (FL O) M + c * 65536 ^ (i + j) = V + a * 65536 ^ i * vD f j) :
    vD (FL (O.set (i + j) ((c + FL O (i + j) + a * b) % 65536))) M + (c + FL O (i + j) + a * b) / 65536 * 65536 ^ (i + (j + 1)) = V + a * 65536 ^ i * vD f (j + 1) := by
  rw [FL_set (by omega)]
  have hu := vD_upd (f := FL O) (i := i + j) (d := (c + FL O (i + j) + a * b) % 65536) hij
  obtain ⟨s, hs⟩ : ∃ s, s = c + FL O (i + j) + a * b := ⟨_, rfl⟩
  rw [← hs] at hu ⊢
  obtain ⟨P, hP⟩ : ∃ P, P = 65536 ^ (i + j) := ⟨_, rfl⟩
  have e1 : 65536 ^ (i + (j + 1)) = 65536 * P := by rw [← Nat.add_assoc, Nat.pow_succ, hP, Nat.mul_comm]
  have e2 : a * 65536 ^ i * vD f (j + 1) = a * 65536 ^ i * vD f j + a * b * P := by
    rw [vD, Nat.mul_add, ← hb, hP, Nat.pow_add]
    congr 1
    rw [Nat.mul_assoc, Nat.mul_left_comm (65536 ^ i), ← Nat.mul_assoc]
  rw [e1, e2]
  rw [← hP] at hu h
  have e3 : s / 65536 * (65536 * P) + s % 65536 * P = s * P := by
    have h := Nat.div_add_mod s 65536
    rw [Nat.mul_comm] at h
    rw [← Nat.mul_assoc, ← Nat.add_mul, h]
  have e4 : s * P = c * P + FL O (i + j) * P + a * b * P := by rw [hs, Nat.add_mul, Nat.add_mul]
  omega
/-- a row whose digits are all there leaves no carry -/
theorem times_end {O : List Nat} {i j c a lb M : Nat} {f A : Nat → Nat} (hA : ∀ k, A k < 65536) (hf : ∀ k, f k < 65536) (hj : lb < j) (hz : ∀ k, lb ≤ k → f k = 0) (ha : a = A i)
    (h : vD (FL O) M + c * 65536 ^ (i + j) = vD A i * vD f lb + a * 65536 ^ i * vD f j) : c = 0 := by
  rw [vD_more (f := f) (m := lb) (M := j) (by omega) (fun k hk _ => hz k hk)] at h
  have h1 : vD A i * vD f lb + a * 65536 ^ i * vD f lb = vD A (i + 1) * vD f lb := by rw [vD, ha, Nat.add_mul]
  rw [h1] at h
  have h2 : vD A (i + 1) < 65536 ^ (i + 1) := vD_lt (fun k _ => hA k)
  have h3 : vD f lb < 65536 ^ lb := vD_lt (fun k _ => hf k)
  have h4 : vD A (i + 1) * vD f lb < 65536 ^ (i + 1) * 65536 ^ lb := Nat.mul_lt_mul'' h2 h3
  rw [← Nat.pow_add] at h4
  have h5 : 65536 ^ (i + 1 + lb) ≤ 65536 ^ (i + j) := Nat.pow_le_pow_right (by omega) (by omega)
  rcases Nat.eq_zero_or_pos c with hc | hc
  · exact hc
  · have : 1 * 65536 ^ (i + j) ≤ c * 65536 ^ (i + j) := Nat.mul_le_mul_right _ hc
    omega
theorem times_row {O : List Nat} {i j a lb M : Nat} {f A : Nat → Nat} (hj : lb ≤ j) (hz : ∀ k, lb ≤ k → f k = 0) (ha : a = A i)
    (h : vD (FL O) M + 0 * 65536 ^ (i + j) = vD A i * vD f lb + a * 65536 ^ i * vD f j) : vD (FL O) M = vD A (i + 1) * vD f lb := by
  rw [vD_more (f := f) (m := lb) (M := j) hj (fun k hk _ => hz k hk), Nat.zero_mul, Nat.add_zero] at h
  rw [h, vD, ha, Nat.add_mul]
end Go.Proofs.Ytnkbgokimafaeaa
