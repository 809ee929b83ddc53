/- Kept of the reference. -/
import Derived.Test.YthgdficgjldobaaG1
namespace Go.Proofs.Ythgdficgjldobaa
open Go.RowKit

set_option maxRecDepth 100000 in
set_option maxHeartbeats 800000 in
theorem kept_any {l : List UInt8} {vf v : Value} {w : World} {B1 B2 : Nat} (hf : Bs w B1 vf (fullS l)) (hb : Bs w B2 v l) (hl : l.length ≤ 140737488355000) :
    Calls Try.prog 32 #[vf, v] w fun e w' => e = .returned (.bool true) ∧ Drew w w' := by
  obtain ⟨A, c, rfl, hac, hcm, hA⟩ := hf
  obtain ⟨A', c', rfl, hbc, hcm', hA'⟩ := hb
  have HA := Lib.hid hA; have HA' := Lib.hid hA'
  have hfl := fullS_len l
  obtain ⟨F, hF⟩ : ∃ F, F = fullS l := ⟨_, rfl⟩
  have HF := Lib.hid hF
  rw [hfl, show ((l.length + 40 : Nat)) = l.length + 40 from rfl] at hac ⊢
  rw [← hF] at HA hfl
  clear hA hA' hF
  unfold maxLen at hcm hcm'
  go_enter Try.func32, Try.ntmps32
  go_wp2
  go_loopw [5] (fun i wr => ∃ k : Nat, k ≤ l.length + 40 ∧ i = .int .i64 k ∧ Drew w wr) (fun i _ => l.length + 40 - (intOf i).toNat)
  case atStart => exact ⟨0, Nat.zero_le _, rfl, Drew.refl _⟩
  case round =>
    obtain ⟨k, hk, rfl, m, rfl⟩ := hrel
    by_cases hlt : k < l.length + 40
    · obtain ⟨b1, o1, rfl, _, hc1⟩ := HA.out (by omega)
      have g1 := hc1 k (by omega)
      clear hc1
      by_cases hin : k < l.length
      · obtain ⟨b2, o2, rfl, _, hc2⟩ := HA'.out (by omega)
        have g2 := hc2 k hin
        have e : F[k]'(by omega) = l[k] := by
          have h1 : F[k]? = l[k]? := by rw [HF.out, fullS, List.getElem?_append_left hin]
          rw [List.getElem?_eq_getElem (by omega), List.getElem?_eq_getElem hin] at h1
          exact Option.some.inj h1
        rw [e] at g1
        obtain ⟨x, hx⟩ : ∃ x : Int, x = (l[k].toNat : Int) := ⟨_, rfl⟩
        rw [← hx] at g1 g2
        have hge : decide (l.length ≤ k) = false := by simp only [decide_eq_false_iff_not]; omega
        clear hc2 e hx
        go_wp2
        go_quiet (fail)
        go_wp2
        go_roundw
        case rel => exact ⟨k + 1, by omega, by go_num, (Drew.refl _).drewN _⟩
        case measure => simp [intOf]; omega
      · have e : F[k]'(by omega) = markS k := by
          have h1 := fullS_at l (j := k) (by omega) hlt
          rw [← HF.out, List.getElem?_eq_getElem (by omega)] at h1
          exact Option.some.inj h1
        rw [e] at g1
        obtain ⟨bt, hbt⟩ : ∃ bt, bt = markS k := ⟨_, rfl⟩
        have hmi : 160 + (k : Int) % 31 = (bt.toNat : Int) := by rw [hbt, markS_val]; omega
        rw [← hbt] at g1
        have hge : decide (l.length ≤ k) = true := by simp only [decide_eq_true_eq]; omega
        clear e hbt
        go_wp2
        go_quiet (fail)
        go_wp2
        go_roundw
        case rel => exact ⟨k + 1, by omega, by go_num, (Drew.refl _).drewN _⟩
        case measure => simp [intOf]; omega
    · go_wp2
      go_ret
      exact ⟨rfl, (Drew.refl _).drewN _⟩
end Go.Proofs.Ythgdficgjldobaa
