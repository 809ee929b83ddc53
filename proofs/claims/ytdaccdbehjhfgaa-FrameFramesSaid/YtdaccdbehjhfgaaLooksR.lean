/- Looks and Same of codec, Looks of the reference; the law CodecLooks, walked. -/
import Derived.Test.YtdaccdbehjhfgaaRefCopyB
import Derived.Laws.BitsAllLaws
namespace Go.Proofs.Ytdaccdbehjhfgaa
open Go.RowKit

/-- at how many places is looked -/
def lookN (a b : List UInt8) : Int := if a.length = b.length then a.length else 0
theorem or_xor_zero {y a b : Nat} : (y ||| (a ^^^ b) = 0) ↔ (y = 0 ∧ a = b) := by
  rw [Nat.or_eq_zero_iff]
  constructor
  · rintro ⟨h1, h2⟩
    refine ⟨h1, ?_⟩
    have h3 := congrArg (· ^^^ b) h2
    simpa [Nat.xor_assoc] using h3
  · rintro ⟨h1, rfl⟩
    simp [h1]
theorem or_xor_val {y a b : Nat} (hy : y < 256) (ha : a < 256) (hb : b < 256) : bits .or .u8 (y : Int) (bits .xor .u8 (a : Int) (b : Int)) = ((y ||| (a ^^^ b) : Nat) : Int) := by
  rw [u8_xor_nat _ _ ha hb, u8_or_nat _ _ hy (Nat.xor_lt_two_pow (n := 8) ha hb)]

set_option maxHeartbeats 400000 in
theorem looks_any {a b : List UInt8} {va vb : Value} {w : World} {B1 B2 : Nat} (ha : Bs w B1 va a) (hb : Bs w B2 vb b) :
    Calls Try.prog 56 #[va, vb] w fun e w' => e = .returned (.tuple #[.bool (decide (a = b)), .int .i64 (lookN a b)]) ∧ Drew w w' := by
  obtain ⟨A, c, rfl, hac, hcm, hA⟩ := ha
  obtain ⟨A', c', rfl, hbc, hcm', hA'⟩ := hb
  by_cases hl : a.length = b.length
  · have hl1 : a.length ≤ b.length := by omega
    have hl2 : b.length ≤ a.length := by omega
    have HL := Lib.hid hl
    have hN : lookN a b = (a.length : Int) := by unfold lookN; rw [if_pos hl]
    have HN := Lib.hid hN; clear hN hl
    unfold maxLen at hcm hcm'
    have HA := Lib.hid hA; have HA' := Lib.hid hA'; clear hA hA'
    have hne : ((a.length : Int) != (b.length : Int)) = false := by rw [bne_eq_false_iff_eq]; omega
    go_enter Try.func56, Try.ntmps56
    go_wp2
    go_loopw [6, 7, 16] (fun u n i wr => ∃ k : Nat, k ≤ a.length ∧ i = .int .i64 k ∧ n = .int .i64 k ∧ ∃ y : Nat, u = .int .u8 y ∧ y < 256 ∧ Hid (y = 0 ↔ ∀ j (h1 : j < a.length) (h2 : j < b.length), j < k → a[j] = b[j]) ∧ Hid (Drew w wr)) (fun _ _ i _ => a.length - (intOf i).toNat)
    case atStart => exact ⟨0, Nat.zero_le _, rfl, rfl, 0, rfl, by omega, ⟨fun _ j _ _ h => absurd h (by omega), fun _ => rfl⟩, Drew.refl _⟩
    case round =>
      obtain ⟨k, hk, rfl, rfl, y, rfl, hy, hiff, hdr⟩ := hrel
      by_cases hlt : k < a.length
      · obtain ⟨b1, o1, rfl, _, hc1⟩ := HA.out (by omega)
        obtain ⟨b2, o2, rfl, _, hc2⟩ := HA'.out (by omega)
        have g1 := hdr.out.cell (hc1 k hlt)
        have g2 := hdr.out.cell (hc2 k (by omega))
        have HV := Lib.hid (or_xor_val hy (UInt8.toNat_lt a[k]) (UInt8.toNat_lt (b[k]'(by omega))))
        have HY : Hid (y ||| ((a[k]).toNat ^^^ (b[k]'(by omega)).toNat) < 256) := Nat.or_lt_two_pow (n := 8) hy (Nat.xor_lt_two_pow (n := 8) (UInt8.toNat_lt _) (UInt8.toNat_lt _))
        have hstep : (y ||| ((a[k]).toNat ^^^ (b[k]'(by omega)).toNat) = 0) ↔ ∀ j (h1 : j < a.length) (h2 : j < b.length), j < k + 1 → a[j] = b[j] := by
          rw [or_xor_zero, hiff.out]
          constructor
          · rintro ⟨h1, h2⟩ j h3 h4 h5
            rcases Nat.lt_or_ge j k with h | h
            · exact h1 j h3 h4 h
            · obtain rfl : j = k := by omega
              exact UInt8.toNat_inj.1 h2
          · intro h
            exact ⟨fun j h1 h2 h3 => h j h1 h2 (by omega), by rw [h k hlt (by omega) (by omega)]⟩
        have HS := Lib.hid hstep; clear hstep hc1 hc2
        go_wp2
        go_quiet (fail)
        go_wp2
        go_roundw
        case rel => exact ⟨k + 1, by omega, by go_num, by go_num, _, by rw [HV.out], HY.out, HS, hdr.out.drewN _⟩
        case measure => simp [intOf]; omega
      · have hfin : decide (a = b) = ((y : Int) == 0) := by
          rw [Bool.eq_iff_iff]
          simp only [decide_eq_true_eq, beq_iff_eq]
          have h1 := hiff.out
          constructor
          · intro h
            have := h1.2 (fun j h2 h3 _ => by subst h; rfl)
            omega
          · intro h
            exact List.ext_getElem HL.out fun j h2 h3 => h1.1 (by omega) j h2 h3 (by omega)
        have hkl : (k : Int) = a.length := by omega
        have HF := Lib.hid hfin; have HK := Lib.hid hkl; clear hfin hkl
        go_wp2
        go_ret2
        exact ⟨by rw [HF.out, HN.out, ← HK.out]; rfl, hdr.out⟩
  · have hd : decide (a = b) = false := by simp; intro h; exact hl (by rw [h])
    have hN : lookN a b = 0 := by unfold lookN; rw [if_neg hl]
    have HD := Lib.hid hd; have HN := Lib.hid hN; clear hd hN
    have hne : ((a.length : Int) != (b.length : Int)) = true := by rw [bne_iff_ne]; omega
    clear hl
    go_enter Try.func56, Try.ntmps56
    go_wp2
    go_ret2
    exact ⟨by rw [HD.out, HN.out]; rfl, Drew.refl _⟩

theorem same_any {a b : List UInt8} {va vb : Value} {w : World} {B1 B2 : Nat} (ha : Bs w B1 va a) (hb : Bs w B2 vb b) :
    Calls Try.prog 44 #[va, vb] w fun e w' => e = .returned (.bool (decide (a = b))) ∧ Drew w w' := by
  obtain ⟨x, hx⟩ : ∃ x, decide (a = b) = x := ⟨_, rfl⟩
  have c := looks_any ha hb
  rw [hx] at c ⊢
  have C := Lib.hid c; clear c hx
  go_enter Try.func44, Try.ntmps44
  go_wp2_with fail
  refine (C.out).mono ?_
  rintro e w2 ⟨rfl, hd⟩
  go_wp2
  go_ret
  exact ⟨rfl, hd⟩

end Go.Proofs.Ytdaccdbehjhfgaa
