/- Equal of the reference: length and bytes. -/
import Derived.Test.YtdaccdbehjhfgaaLib
namespace Go.Proofs.Ytdaccdbehjhfgaa
open Go.RowKit

theorem eq_of_take {a b : List UInt8} (hl : a.length = b.length) (h : ∀ j (h1 : j < a.length) (h2 : j < b.length), a[j] = b[j]) : a = b := List.ext_getElem hl h

set_option maxHeartbeats 400000 in
theorem equal_any {a b : List UInt8} {va vb : Value} {w : World} {B1 B2 : Nat} (ha : Bs w B1 va a) (hb : Bs w B2 vb b) :
    Calls Try.prog 16 #[va, vb] w fun e w' => e = .returned (.bool (decide (a = b))) ∧ Drew w w' := by
  obtain ⟨A, c, rfl, hac, hcm, hA⟩ := ha
  obtain ⟨A', c', rfl, hbc, hcm', hA'⟩ := hb
  by_cases hl : a.length = b.length
  · have hl1 : a.length ≤ b.length := by omega
    have hl2 : b.length ≤ a.length := by omega
    have HL := Lib.hid hl; clear hl
    unfold maxLen at hcm hcm'
    have HA := Lib.hid hA; have HA' := Lib.hid hA'; clear hA hA'
    go_enter Try.func16, Try.ntmps16
    go_wp2
    go_loopw [5] (fun i wr => ∃ k : Nat, k ≤ a.length ∧ i = .int .i64 k ∧ (∀ j (h1 : j < a.length) (h2 : j < b.length), j < k → a[j] = b[j]) ∧ Drew w wr) (fun i _ => a.length - (intOf i).toNat)
    case atStart => exact ⟨0, Nat.zero_le _, rfl, fun j _ _ h => absurd h (by omega), Drew.refl _⟩
    case round =>
      obtain ⟨k, hk, rfl, hsame, m, rfl⟩ := hrel
      have HS := Lib.hid hsame; clear hsame
      by_cases hlt : k < a.length
      · obtain ⟨b1, o1, rfl, _, hc1⟩ := HA.out (by omega)
        obtain ⟨b2, o2, rfl, _, hc2⟩ := HA'.out (by omega)
        have g1 := hc1 k hlt
        have g2 := hc2 k (by omega)
        clear hc1 hc2
        go_wp2
        go_quiet (fail)
        go_wp2
        · have hne : ((a[k].toNat : Int) != (b[k].toNat : Int)) = true := by assumption
          have hd : decide (a = b) = false := by
            rw [bne_iff_ne] at hne
            simp only [decide_eq_false_iff_not]
            intro h
            subst h
            exact hne rfl
          go_ret
          exact ⟨ret_bool hd.symm, ((Drew.refl _).drewN _).drewN _⟩
        · have heq : ((a[k].toNat : Int) != (b[k].toNat : Int)) = false := by assumption
          have he : a[k] = b[k] := by
            rw [bne_eq_false_iff_eq] at heq
            exact UInt8.toNat_inj.1 (by omega)
          go_roundw
          case rel => exact ⟨k + 1, by omega, by go_num, fun j h1 h2 h3 => by
            rcases Nat.lt_or_ge j k with h | h
            · exact HS.out j h1 h2 h
            · obtain rfl : j = k := by omega
              exact he, (Drew.refl _).drewN _⟩
          case measure => simp [intOf]; omega
      · go_wp2
        go_ret
        have he : a = b := eq_of_take HL.out fun j h1 h2 => HS.out j h1 h2 (by omega)
        exact ⟨ret_bool (by simp [he]), (Drew.refl _).drewN _⟩
  · have hd : decide (a = b) = false := by simp; intro h; exact hl (by rw [h])
    have HD := Lib.hid hd; clear hd
    have hne : ((a.length : Int) != (b.length : Int)) = true := by rw [bne_iff_ne]; omega
    clear hl
    go_enter Try.func16, Try.ntmps16
    go_wp2
    go_ret
    exact ⟨ret_bool HD.out.symm, Drew.refl _⟩
theorem equal_same {a : List UInt8} {va vb : Value} {w : World} {B1 B2 : Nat} (ha : Bs w B1 va a) (hb : Bs w B2 vb a) :
    Calls Try.prog 16 #[va, vb] w fun e w' => e = .returned (.bool true) ∧ Drew w w' :=
  (equal_any ha hb).mono fun _ _ h => ⟨by rw [h.1]; simp, h.2⟩
end Go.Proofs.Ytdaccdbehjhfgaa
