/- The text of bytes is read back as the bytes. -/
import Derived.Test.YtajhpebefehciaaHexS
namespace Go.Proofs.Ytajhpebefehciaa
open Go.RowKit

theorem hexD_val {m : Nat} (h : m < 16) : ((hexD m).toNat : Int) = if m < 10 then 48 + (m : Int) else 97 + (m : Int) - 10 := by
  unfold hexD
  split <;> rw [UInt8.toNat_ofNat'] <;> omega
theorem hexD_eq {c : UInt8} {m : Nat} (h : m < 16) : (hexD m = c) ↔ (isD c = true ∧ valD c = m) := by
  have hv := hexD_val h
  constructor
  · rintro rfl
    simp only [isD, valD, Bool.or_eq_true, Bool.and_eq_true, decide_eq_true_eq]
    by_cases h10 : m < 10
    · rw [if_pos h10] at hv
      refine ⟨by omega, ?_⟩
      rw [if_pos (by omega)]; omega
    · rw [if_neg h10] at hv
      refine ⟨by omega, ?_⟩
      rw [if_neg (by omega)]; omega
  · rintro ⟨h1, h2⟩
    simp only [isD, Bool.or_eq_true, Bool.and_eq_true, decide_eq_true_eq] at h1
    apply UInt8.toNat_inj.1
    unfold valD at h2
    by_cases h3 : c.toNat ≤ 57
    · rw [if_pos h3] at h2
      rw [if_pos (by omega)] at hv
      omega
    · rw [if_neg h3] at h2
      rw [if_neg (by omega)] at hv
      omega
theorem unhex_all (l : List UInt8) (hm : l.length ≤ 140737488355328) (w : World) :
    Calls Try.prog 45 #[.string (bstr l)] w fun e w' => ∃ u, e = .returned (.tuple #[u, .int .i64 (unhexE l)]) ∧ Own w' w.heap.size u (unhexR l) ∧ Below w.heap.size w w' := by
  by_cases h : l.length % 2 = 1
  · have hE : unhexE l = 2 := by unfold unhexE; rw [if_pos h]
    have hR : unhexR l = [] := by unfold unhexR; rw [if_neg (by rw [hE]; decide)]
    rw [hE, hR]
    exact (unhex_odd (by rw [bstr_size]; omega) (by rw [bstr_size]; omega) w).mono fun e w' h => ⟨_, h.1, Own.nil _ _, by rw [h.2]; exact Below.refl _ _⟩
  · exact unhex_even (n := l.length / 2) (by omega) (by omega) w
theorem hex_digit {m : Nat} (h : m < 16) : isD (hexD m) = true ∧ valD (hexD m) = m := (hexD_eq h).1 rfl
theorem getD_flat (l : List UInt8) : ∀ i, i < l.length → (hexL l).getD (2 * i) 0 = hexD ((l.getD i 0).toNat / 16) ∧ (hexL l).getD (2 * i + 1) 0 = hexD ((l.getD i 0).toNat % 16) := by
  induction l with
  | nil => intro i h; cases h
  | cons x r ih =>
    intro i h
    have e : hexL (x :: r) = hexD (x.toNat / 16) :: hexD (x.toNat % 16) :: hexL r := by simp [hexL]
    rw [e]
    rcases i with _ | i
    · simp
    · have := ih i (by simpa using h)
      rw [show 2 * (i + 1) = 2 * i + 1 + 1 by omega]
      simpa using this
theorem unhex_hex (l : List UInt8) : unhexE (hexL l) = 0 ∧ unhexR (hexL l) = l := by
  have hyes : ∀ z ∈ hexL l, isD z = true := by
    intro z hz
    simp only [hexL, List.mem_flatMap, List.mem_cons, List.not_mem_nil, or_false] at hz
    obtain ⟨x, _, rfl | rfl⟩ := hz
    · exact (hex_digit (by have := x.toNat_lt; omega)).1
    · exact (hex_digit (by omega)).1
  have hE : unhexE (hexL l) = 0 := by
    unfold unhexE
    rw [if_neg (by rw [hexL_len]; omega), if_pos hyes]
  refine ⟨hE, ?_⟩
  unfold unhexR
  rw [if_pos hE, hexL_len, show 2 * l.length / 2 = l.length by omega]
  apply List.ext_getElem (by simp [unL])
  intro i h1 h2
  obtain ⟨e1, e2⟩ := getD_flat l i h2
  have e3 : (unL (hexL l) l.length)[i] = unD (hexL l) i := by simp [unL]
  have hx : l.getD i 0 = l[i] := by simp [h2]
  rw [e3, unD, e1, e2, (hex_digit (by have := (l.getD i 0).toNat_lt; omega)).2, (hex_digit (by omega)).2, hx]
  apply UInt8.toNat_inj.1
  rw [UInt8.toNat_ofNat']
  have := l[i].toNat_lt
  omega
end Go.Proofs.Ytajhpebefehciaa
