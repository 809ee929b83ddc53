/- A prime number by its certificate (Lucas), and that all its residues keep Fermat's law. -/
import Derived.Test.YtgkglielcbgpiaaLib
namespace Go.Proofs.Ytgkglielcbgpiaa.Luc

def Pr (q : Nat) : Prop := 2 ≤ q ∧ ∀ d, d ∣ q → d = 1 ∨ d = q
def Fer (n : Nat) : Prop := 2 ≤ n ∧ ∀ x, x % n ≠ 0 → x ^ (n - 1) % n = 1
def prodL : List Nat → Nat
  | [] => 1
  | q :: l => q * prodL l

theorem cop_of {t q : Nat} (hq : Pr q) (h : ¬ q ∣ t) : Nat.Coprime t q := by
  rcases hq.2 (Nat.gcd t q) (Nat.gcd_dvd_right t q) with h1 | h1
  · exact h1
  · exact absurd (h1 ▸ Nat.gcd_dvd_left t q) h
theorem cop_prod {t : Nat} : ∀ {l : List Nat}, (∀ q ∈ l, Pr q) → (∀ q ∈ l, ¬ q ∣ t) → Nat.Coprime t (prodL l)
  | [], _, _ => by simp [prodL]
  | q :: l, h1, h2 => by
    have e1 := cop_of (h1 q (by simp)) (h2 q (by simp))
    have e2 := cop_prod (t := t) (l := l) (fun q hq => h1 q (by simp [hq])) (fun q hq => h2 q (by simp [hq]))
    exact Nat.Coprime.mul_right e1 e2
theorem pow_add_mod (g a b n : Nat) : g ^ (a + b) % n = (g ^ a % n) * (g ^ b % n) % n := by rw [Nat.pow_add, Nat.mul_mod]
theorem pow_one_mul {g m n : Nat} (hn : 2 ≤ n) (h : g ^ m % n = 1) (k : Nat) : g ^ (m * k) % n = 1 := by
  rw [Nat.pow_mul, Nat.pow_mod, h, Nat.one_pow, Nat.mod_eq_of_lt (by omega)]
theorem pow_rest {g m n : Nat} (hn : 2 ≤ n) (h : g ^ m % n = 1) (k : Nat) : g ^ k % n = g ^ (k % m) % n := by
  have e : k = m * (k / m) + k % m := (Nat.div_add_mod k m).symm
  have h1 := pow_add_mod g (m * (k / m)) (k % m) n
  rw [← e, pow_one_mul hn h, Nat.one_mul, Nat.mod_mod] at h1
  exact h1
/-- the least positive exponent that comes to one -/
theorem least {P : Nat → Prop} : ∀ N, P N → ∃ m, P m ∧ ∀ k, k < m → ¬ P k := by
  intro N
  induction N using Nat.strongRecOn with
  | ind N ih =>
    intro h
    by_cases hs : ∃ k, k < N ∧ P k
    · obtain ⟨k, hk, hp⟩ := hs
      exact ih k hk hp
    · exact ⟨N, h, fun k hk hp => hs ⟨k, hk, hp⟩⟩
theorem order_full {n g : Nat} {qs : List Nat} (hn : 2 ≤ n) (hN : prodL qs = n - 1) (hp : ∀ q ∈ qs, Pr q) (h1 : g ^ (n - 1) % n = 1) (hq : ∀ q ∈ qs, g ^ ((n - 1) / q) % n ≠ 1) :
    ∀ k, 0 < k → k < n - 1 → g ^ k % n ≠ 1 := by
  obtain ⟨m, ⟨hm0, hm1⟩, hmin⟩ := least (P := fun k => 0 < k ∧ g ^ k % n = 1) (n - 1) ⟨by omega, h1⟩
  have hdiv : ∀ k, g ^ k % n = 1 → m ∣ k := by
    intro k hk
    rw [pow_rest hn hm1 k] at hk
    have hlt := Nat.mod_lt k hm0
    by_cases hz : k % m = 0
    · exact Nat.dvd_of_mod_eq_zero hz
    · exact absurd ⟨by omega, hk⟩ (hmin _ hlt)
  obtain ⟨t, ht⟩ := hdiv _ h1
  have hno : ∀ q ∈ qs, ¬ q ∣ t := by
    intro q hqm hd
    obtain ⟨s, rfl⟩ := hd
    have hq2 := (hp q hqm).1
    have e : (n - 1) / q = m * s := by
      rw [ht, show m * (q * s) = q * (m * s) by rw [Nat.mul_left_comm], Nat.mul_div_cancel_left _ (by omega)]
    exact hq q hqm (by rw [e]; exact pow_one_mul hn hm1 s)
  have hc := cop_prod hp hno
  rw [hN] at hc
  have ht1 : t = 1 := Nat.eq_one_of_dvd_one (by
    have : t ∣ Nat.gcd t (n - 1) := Nat.dvd_gcd (Nat.dvd_refl t) ⟨m, by rw [ht, Nat.mul_comm]⟩
    rw [hc] at this
    exact this)
  rw [ht1, Nat.mul_one] at ht
  intro k hk0 hk h
  exact hmin k (by omega) ⟨hk0, h⟩
/-- n values below n, all different: every one comes -/
theorem onto : ∀ (N : Nat) (f : Nat → Nat), (∀ i, i < N → f i < N) → (∀ i j, i < j → j < N → f i ≠ f j) → ∀ y, y < N → ∃ i, i < N ∧ f i = y := by
  intro N
  induction N with
  | zero => intro f _ _ y hy; omega
  | succ N ih =>
    intro f hf hd y hy
    -- the value at N, and the others shifted round it
    let g : Nat → Nat := fun i => if f i < f N then f i else f i - 1
    have hfN := hf N (by omega)
    have hne : ∀ i, i < N → f i ≠ f N := fun i hi => hd i N hi (by omega)
    have hg : ∀ i, i < N → g i < N := by
      intro i hi
      have h1 := hf i (by omega)
      have h2 := hne i hi
      show (if f i < f N then f i else f i - 1) < N
      split <;> omega
    have hgd : ∀ i j, i < j → j < N → g i ≠ g j := by
      intro i j hij hj
      have h1 := hd i j hij (by omega)
      have h2 := hne i (by omega)
      have h3 := hne j hj
      show (if f i < f N then f i else f i - 1) ≠ (if f j < f N then f j else f j - 1)
      split <;> split <;> omega
    by_cases hyN : y = f N
    · exact ⟨N, by omega, hyN.symm⟩
    · obtain ⟨i, hi, e⟩ := ih g hg hgd (if y < f N then y else y - 1) (by split <;> omega)
      have e' : (if f i < f N then f i else f i - 1) = (if y < f N then y else y - 1) := e
      have h2 := hne i hi
      refine ⟨i, by omega, ?_⟩
      split at e' <;> split at e' <;> omega
theorem lucas {n g : Nat} {qs : List Nat} (hn : 2 ≤ n) (hN : prodL qs = n - 1) (hp : ∀ q ∈ qs, Pr q) (h1 : g ^ (n - 1) % n = 1) (hq : ∀ q ∈ qs, g ^ ((n - 1) / q) % n ≠ 1) : Fer n := by
  have hord := order_full hn hN hp h1 hq
  refine ⟨hn, fun x hx => ?_⟩
  have hnz : ∀ i, i < n - 1 → g ^ i % n ≠ 0 := by
    intro i hi h
    have h2 := pow_add_mod g i (n - 1 - i) n
    rw [show i + (n - 1 - i) = n - 1 by omega, h1, h, Nat.zero_mul, Nat.zero_mod] at h2
    exact absurd h2 (by decide)
  have hdif : ∀ i j, i < j → j < n - 1 → g ^ i % n ≠ g ^ j % n := by
    intro i j hij hj h
    have e1 := pow_add_mod g i (n - 1 - i) n
    have e2 := pow_add_mod g j (n - 1 - i) n
    rw [← h, ← e1, show i + (n - 1 - i) = n - 1 by omega, h1, show j + (n - 1 - i) = (n - 1) + (j - i) by omega, pow_add_mod, h1, Nat.one_mul, Nat.mod_mod] at e2
    exact hord (j - i) (by omega) (by omega) e2
  obtain ⟨i, hi, e⟩ := onto (n - 1) (fun i => g ^ i % n - 1) (fun i hi => by
      have h1 := hnz i hi
      have h2 := Nat.mod_lt (g ^ i) (show n > 0 by omega)
      show g ^ i % n - 1 < n - 1
      omega) (fun i j hij hj => by
      have h1 := hnz i (by omega)
      have h2 := hnz j hj
      have h3 := hdif i j hij hj
      show g ^ i % n - 1 ≠ g ^ j % n - 1
      omega) (x % n - 1) (by have := Nat.mod_lt x (show n > 0 by omega); omega)
  have hz := hnz i hi
  have e' : g ^ i % n = x % n := by
    have e2 : g ^ i % n - 1 = x % n - 1 := e
    omega
  rw [Nat.pow_mod, ← e', ← Nat.pow_mod, ← Nat.pow_mul, Nat.mul_comm]
  exact pow_one_mul hn h1 i
theorem Fer.pr {n : Nat} (h : Fer n) : Pr n := by
  obtain ⟨hn, h⟩ := h
  refine ⟨hn, fun d hd => ?_⟩
  by_cases hz : d % n = 0
  · right
    have h1 : n ∣ d := Nat.dvd_of_mod_eq_zero hz
    exact Nat.dvd_antisymm hd h1
  · left
    have h1 := h d hz
    have h2 : d ∣ d ^ (n - 1) := by
      rw [show n - 1 = (n - 2) + 1 by omega, Nat.pow_succ]
      exact Nat.dvd_mul_left d _
    have h3 : d ∣ d ^ (n - 1) % n := (Nat.dvd_mod_iff hd).2 h2
    rw [h1] at h3
    exact Nat.eq_one_of_dvd_one h3
/-- powers reckoned by squares -/
def pm (n : Nat) : Nat → Nat → Nat → Nat
  | 0, _, _ => 1 % n
  | f + 1, b, e => if e = 0 then 1 % n else if e % 2 = 1 then pm n f (b * b % n) (e / 2) * b % n else pm n f (b * b % n) (e / 2)
theorem pm_eq (n : Nat) : ∀ f b e, e < 2 ^ f → pm n f b e = b ^ e % n
  | 0, b, e, h => by
    have : e = 0 := by simpa using h
    subst this
    simp [pm]
  | f + 1, b, e, h => by
    have he : e / 2 < 2 ^ f := by rw [Nat.pow_succ] at h; omega
    have ih := pm_eq n f (b * b % n) (e / 2) he
    have hsq : (b * b % n) ^ (e / 2) % n = b ^ (2 * (e / 2)) % n := by
      rw [← Nat.pow_mod, Nat.pow_mul, Nat.pow_two]
    rw [pm, ih, hsq]
    by_cases h0 : e = 0
    · rw [if_pos h0, h0, Nat.pow_zero]
    · rw [if_neg h0]
      by_cases h1 : e % 2 = 1
      · rw [if_pos h1]
        have e2 : e = 2 * (e / 2) + 1 := by omega
        have : b ^ e = b ^ (2 * (e / 2)) * b := (congrArg (b ^ ·) e2).trans (Nat.pow_succ ..)
        rw [this, Nat.mul_mod, Nat.mod_mod, ← Nat.mul_mod]
      · rw [if_neg h1]
        have e2 : e = 2 * (e / 2) := by omega
        rw [← e2]
def certB (n g : Nat) (qs : List Nat) : Bool := decide (2 ≤ n) && decide (n < 2 ^ 256) && (prodL qs == n - 1) && (pm n 256 g (n - 1) == 1) && qs.all fun q => decide (2 ≤ q) && pm n 256 g ((n - 1) / q) != 1
theorem of_cert {n g : Nat} {qs : List Nat} (h : certB n g qs = true) (hp : ∀ q ∈ qs, Pr q) : Fer n := by
  simp only [certB, Bool.and_eq_true, decide_eq_true_eq, beq_iff_eq, List.all_eq_true, bne_iff_ne, ne_eq] at h
  obtain ⟨⟨⟨⟨h1, h2⟩, h3⟩, h4⟩, h5⟩ := h
  rw [pm_eq _ _ _ _ (Nat.lt_of_le_of_lt (Nat.sub_le _ _) h2)] at h4
  refine lucas h1 h3 hp h4 fun q hq => ?_
  have h6 := (h5 q hq).2
  rwa [pm_eq _ _ _ _ (Nat.lt_of_le_of_lt (Nat.le_trans (Nat.div_le_self _ _) (Nat.sub_le _ _)) h2)] at h6
def smallB (q : Nat) : Bool := decide (2 ≤ q) && (List.range q).all fun d => d == 0 || d == 1 || q % d != 0
theorem of_small {q : Nat} (h : smallB q = true) : Pr q := by
  simp only [smallB, Bool.and_eq_true, decide_eq_true_eq, List.all_eq_true, Bool.or_eq_true, beq_iff_eq, bne_iff_ne, ne_eq, List.mem_range] at h
  refine ⟨h.1, fun d hd => ?_⟩
  have hle := Nat.le_of_dvd (by omega) hd
  by_cases hq : d = q
  · exact .inr hq
  · left
    rcases h.2 d (by omega) with (h1 | h1) | h1
    · subst h1
      have := Nat.eq_zero_of_zero_dvd hd
      omega
    · exact h1
    · exact absurd (Nat.mod_eq_zero_of_dvd hd) h1
theorem p2 : Pr 2 := of_small (by decide +kernel)
theorem p3 : Pr 3 := of_small (by decide +kernel)
theorem p5 : Pr 5 := of_small (by decide +kernel)
theorem p7 : Pr 7 := of_small (by decide +kernel)
theorem p13 : Pr 13 := of_small (by decide +kernel)
theorem p17 : Pr 17 := of_small (by decide +kernel)
theorem p19 : Pr 19 := of_small (by decide +kernel)
theorem p23 : Pr 23 := of_small (by decide +kernel)
theorem p31 : Pr 31 := of_small (by decide +kernel)
theorem p43 : Pr 43 := of_small (by decide +kernel)
theorem p47 : Pr 47 := of_small (by decide +kernel)
theorem p59 : Pr 59 := of_small (by decide +kernel)
theorem p83 : Pr 83 := of_small (by decide +kernel)
theorem p97 : Pr 97 := of_small (by decide +kernel)
theorem p103 : Pr 103 := of_small (by decide +kernel)
theorem p107 : Pr 107 := of_small (by decide +kernel)
theorem p127 : Pr 127 := of_small (by decide +kernel)
theorem p131 : Pr 131 := of_small (by decide +kernel)
theorem p173 : Pr 173 := of_small (by decide +kernel)
theorem p223 : Pr 223 := of_small (by decide +kernel)
theorem p353 : Pr 353 := of_small (by decide +kernel)
theorem p419 : Pr 419 := of_small (by decide +kernel)
theorem p479 : Pr 479 := of_small (by decide +kernel)
theorem p487 : Pr 487 := of_small (by decide +kernel)
theorem p991 : Pr 991 := of_small (by decide +kernel)
theorem p1723 : Pr 1723 := of_small (by decide +kernel)
theorem p2437 : Pr 2437 := of_small (by decide +kernel)
theorem p569003 : Pr 569003 := (of_cert (g := 2) (qs := [2, 7, 97, 419]) (by decide +kernel) (by intro q hq; simp only [List.mem_cons, List.not_mem_nil, or_false] at hq; rcases hq with rfl | rfl | rfl | rfl <;> first | exact p2 | exact p7 | exact p97 | exact p419)).pr
theorem p2773320623 : Pr 2773320623 := (of_cert (g := 5) (qs := [2, 2437, 569003]) (by decide +kernel) (by intro q hq; simp only [List.mem_cons, List.not_mem_nil, or_false] at hq; rcases hq with rfl | rfl | rfl <;> first | exact p2 | exact p2437 | exact p569003)).pr
theorem p72106336199 : Pr 72106336199 := (of_cert (g := 7) (qs := [2, 13, 2773320623]) (by decide +kernel) (by intro q hq; simp only [List.mem_cons, List.not_mem_nil, or_false] at hq; rcases hq with rfl | rfl | rfl <;> first | exact p2 | exact p13 | exact p2773320623)).pr
theorem p8574133 : Pr 8574133 := (of_cert (g := 2) (qs := [2, 2, 3, 7, 103, 991]) (by decide +kernel) (by intro q hq; simp only [List.mem_cons, List.not_mem_nil, or_false] at hq; rcases hq with rfl | rfl | rfl | rfl | rfl | rfl <;> first | exact p2 | exact p3 | exact p7 | exact p103 | exact p991)).pr
theorem pB : Pr 1919519569386763 := (of_cert (g := 2) (qs := [2, 3, 7, 19, 47, 47, 127, 8574133]) (by decide +kernel) (by intro q hq; simp only [List.mem_cons, List.not_mem_nil, or_false] at hq; rcases hq with rfl | rfl | rfl | rfl | rfl | rfl | rfl | rfl <;> first | exact p2 | exact p3 | exact p7 | exact p19 | exact p47 | exact p127 | exact p8574133)).pr
theorem p9463 : Pr 9463 := (of_cert (g := 3) (qs := [2, 3, 19, 83]) (by decide +kernel) (by intro q hq; simp only [List.mem_cons, List.not_mem_nil, or_false] at hq; rcases hq with rfl | rfl | rfl | rfl <;> first | exact p2 | exact p3 | exact p19 | exact p83)).pr
theorem p37853 : Pr 37853 := (of_cert (g := 2) (qs := [2, 2, 9463]) (by decide +kernel) (by intro q hq; simp only [List.mem_cons, List.not_mem_nil, or_false] at hq; rcases hq with rfl | rfl | rfl <;> first | exact p2 | exact p9463)).pr
theorem p75707 : Pr 75707 := (of_cert (g := 2) (qs := [2, 37853]) (by decide +kernel) (by intro q hq; simp only [List.mem_cons, List.not_mem_nil, or_false] at hq; rcases hq with rfl | rfl <;> first | exact p2 | exact p37853)).pr
theorem pC : Pr 75445702479781427272750846543864801 := (of_cert (g := 7) (qs := [2, 2, 2, 2, 2, 3, 3, 5, 5, 75707, 72106336199, 1919519569386763]) (by decide +kernel) (by intro q hq; simp only [List.mem_cons, List.not_mem_nil, or_false] at hq; rcases hq with rfl | rfl | rfl | rfl | rfl | rfl | rfl | rfl | rfl | rfl | rfl | rfl <;> first | exact p2 | exact p3 | exact p5 | exact p75707 | exact p72106336199 | exact pB)).pr
theorem p132049 : Pr 132049 := (of_cert (g := 26) (qs := [2, 2, 2, 2, 3, 3, 7, 131]) (by decide +kernel) (by intro q hq; simp only [List.mem_cons, List.not_mem_nil, or_false] at hq; rcases hq with rfl | rfl | rfl | rfl | rfl | rfl | rfl | rfl <;> first | exact p2 | exact p3 | exact p7 | exact p131)).pr
theorem p430751 : Pr 430751 := (of_cert (g := 17) (qs := [2, 5, 5, 5, 1723]) (by decide +kernel) (by intro q hq; simp only [List.mem_cons, List.not_mem_nil, or_false] at hq; rcases hq with rfl | rfl | rfl | rfl | rfl <;> first | exact p2 | exact p5 | exact p1723)).pr
theorem p4153 : Pr 4153 := (of_cert (g := 5) (qs := [2, 2, 2, 3, 173]) (by decide +kernel) (by intro q hq; simp only [List.mem_cons, List.not_mem_nil, or_false] at hq; rcases hq with rfl | rfl | rfl | rfl | rfl <;> first | exact p2 | exact p3 | exact p173)).pr
theorem pA : Pr 31757755568855353 := (of_cert (g := 10) (qs := [2, 2, 2, 3, 31, 107, 223, 4153, 430751]) (by decide +kernel) (by intro q hq; simp only [List.mem_cons, List.not_mem_nil, or_false] at hq; rcases hq with rfl | rfl | rfl | rfl | rfl | rfl | rfl | rfl | rfl <;> first | exact p2 | exact p3 | exact p31 | exact p107 | exact p223 | exact p4153 | exact p430751)).pr
theorem p57467 : Pr 57467 := (of_cert (g := 2) (qs := [2, 59, 487]) (by decide +kernel) (by intro q hq; simp only [List.mem_cons, List.not_mem_nil, or_false] at hq; rcases hq with rfl | rfl | rfl <;> first | exact p2 | exact p59 | exact p487)).pr
theorem p3727 : Pr 3727 := (of_cert (g := 3) (qs := [2, 3, 3, 3, 3, 23]) (by decide +kernel) (by intro q hq; simp only [List.mem_cons, List.not_mem_nil, or_false] at hq; rcases hq with rfl | rfl | rfl | rfl | rfl | rfl <;> first | exact p2 | exact p3 | exact p23)).pr
theorem p1923133 : Pr 1923133 := (of_cert (g := 2) (qs := [2, 2, 3, 43, 3727]) (by decide +kernel) (by intro q hq; simp only [List.mem_cons, List.not_mem_nil, or_false] at hq; rcases hq with rfl | rfl | rfl | rfl | rfl <;> first | exact p2 | exact p3 | exact p43 | exact p3727)).pr
theorem pD : Pr 74058212732561358302231226437062788676166966415465897661863160754340907 := (of_cert (g := 2) (qs := [2, 3, 353, 57467, 132049, 1923133, 31757755568855353, 75445702479781427272750846543864801]) (by decide +kernel) (by intro q hq; simp only [List.mem_cons, List.not_mem_nil, or_false] at hq; rcases hq with rfl | rfl | rfl | rfl | rfl | rfl | rfl | rfl <;> first | exact p2 | exact p3 | exact p353 | exact p57467 | exact p132049 | exact p1923133 | exact pA | exact pC)).pr
theorem p32573 : Pr 32573 := (of_cert (g := 2) (qs := [2, 2, 17, 479]) (by decide +kernel) (by intro q hq; simp only [List.mem_cons, List.not_mem_nil, or_false] at hq; rcases hq with rfl | rfl | rfl | rfl <;> first | exact p2 | exact p17 | exact p479)).pr
theorem p65147 : Pr 65147 := (of_cert (g := 2) (qs := [2, 32573]) (by decide +kernel) (by intro q hq; simp only [List.mem_cons, List.not_mem_nil, or_false] at hq; rcases hq with rfl | rfl <;> first | exact p2 | exact p32573)).pr
theorem fer_P : Fer 57896044618658097711785492504343953926634992332820282019728792003956564819949 := of_cert (g := 2) (qs := [2, 2, 3, 65147, 74058212732561358302231226437062788676166966415465897661863160754340907]) (by decide +kernel) (by intro q hq; simp only [List.mem_cons, List.not_mem_nil, or_false] at hq; rcases hq with rfl | rfl | rfl | rfl | rfl <;> first | exact p2 | exact p3 | exact p65147 | exact pD)
theorem pP : Pr 57896044618658097711785492504343953926634992332820282019728792003956564819949 := fer_P.pr
end Go.Proofs.Ytgkglielcbgpiaa.Luc
