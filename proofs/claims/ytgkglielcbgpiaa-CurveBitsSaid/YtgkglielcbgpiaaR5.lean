/- The reference's high and folded. -/
import Derived.Test.YtgkglielcbgpiaaR4
namespace Go.Proofs.Ytgkglielcbgpiaa
open Go.RowKit

theorem valD_zero {f : Nat → Nat} : ∀ {n : Nat}, (∀ i, i < n → f i = 0) → valD f n = 0
  | 0, _ => rfl
  | n + 1, h => by rw [valD, valD_zero (fun i hi => h i (by omega)), h n (by omega), Nat.mul_zero]
theorem valD_pos {f : Nat → Nat} {i : Nat} : ∀ {n : Nat}, i < n → 0 < f i → 0 < valD f n
  | n + 1, hi, h => by
    rw [valD]
    by_cases e : i = n
    · subst e
      have := Nat.mul_pos (Nat.pow_pos (n := i) (by decide : 0 < 4294967296)) h
      omega
    · have := valD_pos (n := n) (by omega) h
      omega
/-- what stands from 2^256 on -/
def hiN (f : Nat → Nat) : Nat := valD (fun i => f (i + 8)) 9
theorem hi17 {f : Nat → Nat} : (Try.prog.info? 80).map (·.size) = some (rowF .u64 17 f).size := by rw [rowF_size]; show _ = _; kernel_rfl

set_option maxRecDepth 100000 in
set_option maxHeartbeats 4000000 in
theorem highE {f : Nat → Nat} {cs : Array Value} (hcs : cs = rowF .u64 17 f) (w : World) : Calls Try.prog 66 #[.agg cs] w fun e w' => e = .returned (.bool (decide (0 < hiN f))) ∧ Below w.heap.size w w' := by
  obtain ⟨rb, hrb⟩ : ∃ rb, rb = decide (0 < hiN f) := ⟨_, rfl⟩
  rw [← hrb]
  have hA : Rw (w.alloc (.cells cs 80)) w.heap.size 80 .u64 17 f := Rw.new w _ _ _ _ hcs
  have HA := Lib.hid hA; have HRB := Lib.hid hrb
  clear hA hrb hcs
  go_enter Try.func66, Try.ntmps66
  go_wp2_with fail
  go_loopw [3] (fun i wr => ∃ k : Nat, 8 ≤ k ∧ k ≤ 17 ∧ i = .int .i64 k ∧ Hid (∀ j, 8 ≤ j → j < k → f j = 0) ∧ Hid (Rw wr w.heap.size 80 .u64 17 f) ∧ Hid (Below w.heap.size w wr)) (fun i _ => 17 - (intOf i).toNat)
  case atStart => exact ⟨8, by omega, by omega, rfl, Lib.hid (fun j h1 h2 => by omega), HA, Lib.hid ((Below.refl _ _).alloc (Nat.le_refl _) _)⟩
  case round =>
    obtain ⟨k, hk0, hk, rfl, hz, ha, hbe⟩ := hrel
    clear HA
    by_cases hlt : k < 17
    · have c0 := ha.out.cell (j := k) hlt
      have k0 : (0 : Int) ≤ (k : Int) := Int.natCast_nonneg _
      have k4 : (k : Int) < 17 := by omega
      obtain ⟨x, hx⟩ : ∃ x, x = f k := ⟨_, rfl⟩
      rw [← hx] at c0
      have HX := Lib.hid hx
      clear hx
      by_cases hp : 0 < x
      · have ht : decide (0 < x) = true := decide_eq_true (by omega)
        have hr : rb = true := by
          rw [HRB.out]
          exact decide_eq_true (valD_pos (f := fun i => f (i + 8)) (i := k - 8) (by omega) (by show 0 < f (k - 8 + 8); rw [Nat.sub_add_cancel hk0, ← HX.out]; exact hp))
        have HR := Lib.hid hr
        clear hp hr
        go_wp2_with fail
        go_ret
        exact ⟨by rw [HR.out]; rfl, hbe.out⟩
      · have ht : decide (0 < x) = false := decide_eq_false (by omega)
        have hx0 : f k = 0 := by rw [← HX.out]; omega
        have HX0 := Lib.hid hx0
        clear hp hx0
        go_wp2_with fail
        go_roundw
        case rel => exact ⟨k + 1, by omega, by omega, by go_num, Lib.hid (fun j h1 h2 => by
          by_cases e : j = k
          · subst e; exact HX0.out
          · exact hz.out j h1 (by omega)), ha, hbe⟩
        case measure => simp [intOf]; omega
    · obtain rfl : k = 17 := by omega
      have hr : rb = false := by
        rw [HRB.out]
        exact decide_eq_false (by rw [hiN, valD_zero (fun i hi => hz.out (i + 8) (by omega) (by omega))]; omega)
      have HR := Lib.hid hr
      clear hr
      go_wp2_with fail
      go_ret
      exact ⟨by rw [HR.out]; rfl, hbe.out⟩
end Go.Proofs.Ytgkglielcbgpiaa
