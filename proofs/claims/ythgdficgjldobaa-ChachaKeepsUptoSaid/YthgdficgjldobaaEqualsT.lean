/- Equals of the reference. -/
import Derived.Test.YthgdficgjldobaaEqual
namespace Go.Proofs.Ythgdficgjldobaa
open Go.RowKit

set_option maxHeartbeats 400000 in
theorem equals_any {ls ms : List (List UInt8)} {va vb : Value} {w : World} {B1 B2 : Nat} (ha : Rs w B1 va ls) (hb : Rs w B2 vb ms) :
    Calls Try.prog 31 #[va, vb] w fun e w' => e = .returned (.bool (decide (ls = ms))) ∧ Drew w w' := by
  obtain ⟨A, c, rfl, hac, hcm, hA⟩ := ha
  obtain ⟨A', c', rfl, hbc, hcm', hA'⟩ := hb
  by_cases hl : ls.length = ms.length
  · have hl1 : ls.length ≤ ms.length := by omega
    have hl2 : ms.length ≤ ls.length := by omega
    have HL := Lib.hid hl; clear hl
    unfold maxLen at hcm hcm'
    have HA := Lib.hid hA; have HA' := Lib.hid hA'; clear hA hA'
    go_enter Try.func31, Try.ntmps31
    go_wp2
    go_loopw [5] (fun i wr => ∃ k : Nat, k ≤ ls.length ∧ i = .int .i64 k ∧ (∀ j (h1 : j < ls.length) (h2 : j < ms.length), j < k → ls[j] = ms[j]) ∧ Drew w wr) (fun i _ => ls.length - (intOf i).toNat)
    case atStart => exact ⟨0, Nat.zero_le _, rfl, fun j _ _ h => absurd h (by omega), Drew.refl _⟩
    case round =>
      obtain ⟨k, hk, rfl, hsame, hdr0⟩ := hrel
      have hdr : Drew w wr := hdr0
      clear hdr0
      have HS := Lib.hid hsame; clear hsame
      by_cases hlt : k < ls.length
      · obtain ⟨b1, o1, rfl, _, hc1⟩ := HA.out (by omega)
        obtain ⟨b2, o2, rfl, _, hc2⟩ := HA'.out (by omega)
        obtain ⟨u1, g1, d1⟩ := hc1 k hlt
        obtain ⟨u2, g2, d2⟩ := hc2 k (by omega)
        have g1' := hdr.cell g1
        have g2' := hdr.cell g2
        have D1 := Lib.hid (hdr.bs d1); have D2 := Lib.hid (hdr.bs d2); clear d1 d2 hc1 hc2 g1 g2
        obtain ⟨x, hx⟩ : ∃ x, decide (ls[k] = ms[k]'(by omega)) = x := ⟨_, rfl⟩
        have call : ∀ n, Calls Try.prog 14 #[u1, u2] (wr.drewN n) fun e w' => e = .returned (.bool x) ∧ Drew (wr.drewN n) w' := fun n => hx ▸ equal_any (D1.out.drewN n) (D2.out.drewN n)
        have HC := Lib.hid call; have HX := Lib.hid hx; clear call hx
        go_wp2
        go_quiet ((go_at_call 14; exact Drew.quiet (HC.out _)))
        cases x
        · have hd : decide (ls = ms) = false := by
            have := HX.out
            simp only [decide_eq_false_iff_not] at this ⊢
            intro h
            subst h
            exact this rfl
          have HD := Lib.hid hd; clear hd
          go_wp2
          go_ret
          exact ⟨ret_bool HD.out.symm, hdr.drewN _⟩
        · have he : ls[k] = ms[k]'(by omega) := of_decide_eq_true HX.out
          have HE := Lib.hid he; clear he
          go_wp2
          go_roundw
          case rel => exact ⟨k + 1, by omega, by go_num, fun j h1 h2 h3 => by
            rcases Nat.lt_or_ge j k with h | h
            · exact HS.out j h1 h2 h
            · obtain rfl : j = k := by omega
              exact HE.out, hdr.drewN _⟩
          case measure => simp [intOf]; omega
      · go_wp2
        go_ret
        have he : ls = ms := List.ext_getElem HL.out fun j h1 h2 => HS.out j h1 h2 (by omega)
        exact ⟨ret_bool (by simp [he]), hdr⟩
  · have hd : decide (ls = ms) = false := by simp; intro h; exact hl (by rw [h])
    have HD := Lib.hid hd; clear hd
    have hne : ((ls.length : Int) != (ms.length : Int)) = true := by rw [bne_iff_ne]; omega
    clear hl
    go_enter Try.func31, Try.ntmps31
    go_wp2
    go_ret
    exact ⟨ret_bool HD.out.symm, Drew.refl _⟩

end Go.Proofs.Ythgdficgjldobaa
