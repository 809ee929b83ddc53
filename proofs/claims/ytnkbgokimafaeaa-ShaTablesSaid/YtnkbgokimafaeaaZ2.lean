/- Roots and primes, by steps. -/
import Derived.Test.YtnkbgokimafaeaaZ1
namespace Go.Proofs.Ytnkbgokimafaeaa

theorem FL_snoc_lt {l : List Nat} {d k : Nat} (h : k < l.length) : FL (l ++ [d]) k = FL l k := by simp [FL, List.getD_eq_getElem?_getD, List.getElem?_append_left h]
theorem vL_snoc (l : List Nat) (d : Nat) : vL (l ++ [d]) = vL l + d * 65536 ^ l.length := by
  unfold vL
  rw [List.length_append, List.length_singleton, vD, vD_ext (g := FL l) (fun k hk => FL_snoc_lt hk)]
  congr 2
  simp [FL]
theorem okD.snoc {l : List Nat} (h : okD l) {d : Nat} (hd : d < 65536) : okD (l ++ [d]) := fun x hx => by
  rcases List.mem_append.1 hx with h1 | h1
  · exact h x h1
  · obtain rfl : x = d := by simpa using h1
    exact hd
theorem vL_nil : vL [] = 0 := rfl
theorem okD.nil : okD [] := fun x hx => absurd hx (by simp)
theorem vL_zeros (n : Nat) : vL (List.replicate n 0) = 0 := by
  unfold vL
  rw [vD_more (m := 0) (Nat.zero_le _) (fun k _ hk => by
    simp only [List.length_replicate] at hk
    simp [FL, List.getD_eq_getElem?_getD, hk])]
  rfl
theorem okD.zeros (n : Nat) : okD (List.replicate n 0) := fun x hx => by
  rw [List.mem_replicate] at hx
  omega
theorem vL_one (p n : Nat) : vL (List.replicate n 0 ++ [p]) = p * 65536 ^ n := by rw [vL_snoc, vL_zeros, List.length_replicate, Nat.zero_add]
theorem pow_bits (k : Nat) : (65536 : Nat) ^ (2 * k) = 2 ^ (32 * k) := by
  rw [show (65536 : Nat) = 2 ^ 16 by decide, ← Nat.pow_mul]
  congr 1
  omega
/-- a step of taking digits off -/
theorem digit_step {ds : List Nat} {m N : Nat} (h : vL ds + m * 65536 ^ ds.length = N) : vL (ds ++ [m % 65536]) + m / 65536 * 65536 ^ (ds ++ [m % 65536]).length = N := by
  rw [vL_snoc, List.length_append, List.length_singleton, Nat.pow_succ, ← h]
  have e : m / 65536 * (65536 ^ ds.length * 65536) + m % 65536 * 65536 ^ ds.length = m * 65536 ^ ds.length := by
    rw [Nat.mul_comm (65536 ^ ds.length), ← Nat.mul_assoc, ← Nat.add_mul]
    congr 1
    have := Nat.div_add_mod m 65536
    rw [Nat.mul_comm] at this
    exact this
  omega
theorem digit_len {ds : List Nat} {m N : Nat} (h : vL ds + m * 65536 ^ ds.length = N) (hm : 0 < m) (hN : N < 18446744073709551616) : ds.length < 4 := by
  rcases Nat.lt_or_ge ds.length 4 with h1 | h1
  · exact h1
  · have h2 : (65536 : Nat) ^ 4 ≤ 65536 ^ ds.length := Nat.pow_le_pow_right (by omega) h1
    have h3 : 1 * 65536 ^ ds.length ≤ m * 65536 ^ ds.length := Nat.mul_le_mul_right _ hm
    have h4 : (65536 : Nat) ^ 4 = 18446744073709551616 := by decide
    omega
/-- which list is the greater, from the top -/
theorem cmp_gt {v w : List Nat} (hv : okD v) (hw : okD w) {i M : Nat} (hM : v.length ≤ M) (hM2 : w.length ≤ M) (hi : i < M) (he : ∀ k, i < k → FL v k = FL w k) (h : FL w i < FL v i) : vL w < vL v := by
  rw [← vL_more hM, ← vL_more hM2]
  exact vD_cmp (fun k => hw.at k) (fun k => hv.at k) h hi (fun k hk _ => (he k hk).symm)
theorem cmp_eq {v w : List Nat} {M : Nat} (hM : v.length ≤ M) (hM2 : w.length ≤ M) (he : ∀ k, FL v k = FL w k) : vL v = vL w := by
  rw [← vL_more hM, ← vL_more hM2]
  exact vD_ext (fun k _ => he k)
/-- the root's bits from the highest on: what x becomes by the n lowest of them -/
def rootF (p k : Nat) : Nat → Nat → Nat
  | 0, x => x
  | b + 1, x => rootF p k b (if p * 2 ^ (32 * k) < (x + 2 ^ b) ^ k then x else x + 2 ^ b)
/-- whether no q from q on divides p, up to its root -/
def prF (p : Nat) : Nat → Nat → Bool → Bool
  | 0, _, b => b
  | f + 1, q, b => if q * q ≤ p then prF p f (q + 1) (if p % q = 0 then false else b) else b
theorem prF_end {p q : Nat} (h : ¬ q * q ≤ p) : ∀ (f : Nat) (b : Bool), prF p f q b = b
  | 0, _ => rfl
  | f + 1, b => by rw [prF, if_neg h]
theorem prF_step {p q f : Nat} (h : q * q ≤ p) (hf : q + f = p + 2) (b : Bool) : ∃ f', f = f' + 1 ∧ prF p f q b = prF p f' (q + 1) (if p % q = 0 then false else b) := by
  match f, hf with
  | 0, hf =>
    have : q = p + 2 := by omega
    subst this
    have h1 : (p + 2) * 1 ≤ (p + 2) * (p + 2) := Nat.mul_le_mul_left _ (by omega)
    omega
  | f' + 1, _ => exact ⟨f', rfl, by rw [prF, if_pos h]⟩
def isPr (p : Nat) : Bool := prF p p 2 true
/-- the n-th prime from p on -/
def prime? : Nat → Nat → Nat → Option Nat
  | 0, _, _ => none
  | f + 1, p, n => if isPr p then (if n = 0 then some p else prime? f (p + 1) (n - 1)) else prime? f (p + 1) n
def primesL : List Nat := [2, 3, 5, 7, 11, 13, 17, 19, 23, 29, 31, 37, 41, 43, 47, 53, 59, 61, 67, 71, 73, 79, 83, 89, 97, 101, 103, 107, 109, 113, 127, 131, 137, 139, 149, 151, 157, 163, 167, 173, 179, 181, 191, 193, 197, 199, 211, 223, 227, 229, 233, 239, 241, 251, 257, 263, 269, 271, 277, 281, 283, 293, 307, 311]
def constN : List Nat := [0x428a2f98, 0x71374491, 0xb5c0fbcf, 0xe9b5dba5, 0x3956c25b, 0x59f111f1, 0x923f82a4, 0xab1c5ed5, 0xd807aa98, 0x12835b01, 0x243185be, 0x550c7dc3, 0x72be5d74, 0x80deb1fe, 0x9bdc06a7, 0xc19bf174, 0xe49b69c1, 0xefbe4786, 0x0fc19dc6, 0x240ca1cc, 0x2de92c6f, 0x4a7484aa, 0x5cb0a9dc, 0x76f988da, 0x983e5152, 0xa831c66d, 0xb00327c8, 0xbf597fc7, 0xc6e00bf3, 0xd5a79147, 0x06ca6351, 0x14292967, 0x27b70a85, 0x2e1b2138, 0x4d2c6dfc, 0x53380d13, 0x650a7354, 0x766a0abb, 0x81c2c92e, 0x92722c85, 0xa2bfe8a1, 0xa81a664b, 0xc24b8b70, 0xc76c51a3, 0xd192e819, 0xd6990624, 0xf40e3585, 0x106aa070, 0x19a4c116, 0x1e376c08, 0x2748774c, 0x34b0bcb5, 0x391c0cb3, 0x4ed8aa4a, 0x5b9cca4f, 0x682e6ff3, 0x748f82ee, 0x78a5636f, 0x84c87814, 0x8cc70208, 0x90befffa, 0xa4506ceb, 0xbef9a3f7, 0xc67178f2]
def startN : List Nat := [0x6a09e667, 0xbb67ae85, 0x3c6ef372, 0xa54ff53a, 0x510e527f, 0x9b05688c, 0x1f83d9ab, 0x5be0cd19]
set_option maxRecDepth 100000
theorem primes_all : ∀ i, i < 64 → prime? 318 2 i = some (primesL.getD i 0) := by decide +kernel
theorem primes_le : ∀ i, i < 64 → primesL.getD i 0 ≤ 311 := by decide +kernel
theorem const_all : ∀ i, i < 64 → rootF (primesL.getD i 0) 3 37 0 % 2 ^ 32 = constN.getD i 0 := by decide +kernel
theorem start_all : ∀ i, i < 8 → rootF (primesL.getD i 0) 2 37 0 % 2 ^ 32 = startN.getD i 0 := by decide +kernel
end Go.Proofs.Ytnkbgokimafaeaa
