/- sha.Pad. -/
import Derived.Test.YtajhpebefehciaaShaPadB
namespace Go.Proofs.Ytajhpebefehciaa
open Go.RowKit

theorem shapad_all (n : Int) (w : World) (hpad : ∀ N : Nat, N ≤ 16777216 → Calls Try.prog 58 #[.int .i64 N] w fun e w' => ∃ v, e = .returned v ∧ Own w' w.heap.size v (padS N) ∧ Below w.heap.size w w') :
    Calls Try.prog 30 #[.int .i64 n] w fun e w' => ∃ v, e = .returned (.tuple #[v, .int .i64 (if n < 0 ∨ 16777216 < n then 1 else 0)]) ∧ Own w' w.heap.size v (if n < 0 ∨ 16777216 < n then [] else padS n.toNat) ∧ Below w.heap.size w w' := by
  by_cases h1 : n < 0 ∨ 16777216 < n
  · rw [if_pos h1, if_pos h1]
    rcases h1 with h1 | h1
    · go_enter Try.func30, Try.ntmps30
      go_wp2
      go_ret2
      exact ⟨_, rfl, Own.nil _ _, Below.refl _ _⟩
    · have h2 : decide (n < 0) = false := by simp; omega
      go_enter Try.func30, Try.ntmps30
      go_wp2
      go_ret2
      exact ⟨_, rfl, Own.nil _ _, Below.refl _ _⟩
  · rw [if_neg h1, if_neg h1]
    obtain ⟨N, rfl⟩ := Int.eq_ofNat_of_zero_le (show 0 ≤ n by omega)
    have g1 : decide ((16777216 : Int) < (N : Int)) = false := by simp; omega
    have c8 := hpad N (by omega)
    have C8 := Lib.hid c8
    clear c8 h1 hpad
    go_enter Try.func30, Try.ntmps30
    go_wp2_with fail
    refine (C8.out).mono ?_
    rintro e w4 ⟨v4, rfl, ho4, hb4⟩
    have HO4 := Lib.hid ho4
    clear ho4
    go_wp2
    go_ret2
    exact ⟨_, rfl, HO4.out, hb4⟩

end Go.Proofs.Ytajhpebefehciaa
