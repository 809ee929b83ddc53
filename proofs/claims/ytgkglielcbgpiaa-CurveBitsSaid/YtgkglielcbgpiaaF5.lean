/- field's elements by their numbers: the contracts of its calls. -/
import Derived.Test.YtgkglielcbgpiaaF4
namespace Go.Proofs.Ytgkglielcbgpiaa
open Go.RowKit

/-- the four words of a number -/
def l0 (V : Nat) : Nat := V % 18446744073709551616
def l1 (V : Nat) : Nat := V / 18446744073709551616 % 18446744073709551616
def l2 (V : Nat) : Nat := V / 18446744073709551616 / 18446744073709551616 % 18446744073709551616
def l3 (V : Nat) : Nat := V / 18446744073709551616 / 18446744073709551616 / 18446744073709551616 % 18446744073709551616
theorem lin (V : Nat) : In4 (l0 V) (l1 V) (l2 V) (l3 V) := by
  unfold l0 l1 l2 l3
  exact ⟨Nat.mod_lt _ (by decide), Nat.mod_lt _ (by decide), Nat.mod_lt _ (by decide), Nat.mod_lt _ (by decide)⟩
theorem lv {V : Nat} (h : V < W4) : v4 (l0 V) (l1 V) (l2 V) (l3 V) = V := by
  unfold v4 l0 l1 l2 l3 W4 at *
  omega
theorem lof {a b c d : Nat} (h : In4 a b c d) : l0 (v4 a b c d) = a ∧ l1 (v4 a b c d) = b ∧ l2 (v4 a b c d) = c ∧ l3 (v4 a b c d) = d := by
  obtain ⟨ha, hb, hc, hd⟩ := h
  unfold v4 l0 l1 l2 l3
  refine ⟨?_, ?_, ?_, ?_⟩ <;> omega
theorem PP_lt : PP < W4 := by decide
theorem mod_lt4 (V : Nat) : V % PP < W4 := Nat.lt_trans (Nat.mod_lt _ (by decide)) PP_lt
theorem el_of {V : Nat} {w w' : World} {e : Ending} (h : El V w e w') : e = .returned (.agg #[.int .u64 (l0 (V) : Int), .int .u64 (l1 (V) : Int), .int .u64 (l2 (V) : Int), .int .u64 (l3 (V) : Int)]) ∧ Below w.heap.size w w' := by
  obtain ⟨a, b, c, d, rfl, hb, hin, hv⟩ := h
  obtain ⟨h0, h1, h2, h3⟩ := lof hin
  rw [hv] at h0 h1 h2 h3
  rw [h0, h1, h2, h3]
  exact ⟨rfl, hb⟩
theorem normE {V : Nat} (hV : V < W4) (w : World) : Calls Try.prog 24 #[.agg #[.int .u64 (l0 (V) : Int), .int .u64 (l1 (V) : Int), .int .u64 (l2 (V) : Int), .int .u64 (l3 (V) : Int)]] w fun e w' => e = .returned (.agg #[.int .u64 (l0 (V % PP) : Int), .int .u64 (l1 (V % PP) : Int), .int .u64 (l2 (V % PP) : Int), .int .u64 (l3 (V % PP) : Int)]) ∧ Below w.heap.size w w' := by
  have h := norm_any (lin V) w
  rw [lv hV] at h
  exact h.mono fun e w' h => el_of h
theorem plusE {V U : Nat} (hV : V < W4) (hU : U < W4) (w : World) : Calls Try.prog 52 #[.agg #[.int .u64 (l0 (V) : Int), .int .u64 (l1 (V) : Int), .int .u64 (l2 (V) : Int), .int .u64 (l3 (V) : Int)], .agg #[.int .u64 (l0 (U) : Int), .int .u64 (l1 (U) : Int), .int .u64 (l2 (U) : Int), .int .u64 (l3 (U) : Int)]] w fun e w' => e = .returned (.agg #[.int .u64 (l0 ((V + U) % W4) : Int), .int .u64 (l1 ((V + U) % W4) : Int), .int .u64 (l2 ((V + U) % W4) : Int), .int .u64 (l3 ((V + U) % W4) : Int)]) ∧ Below w.heap.size w w' := by
  have h := plus_any (lin V) (lin U) w
  rw [lv hV, lv hU] at h
  exact h.mono fun e w' h => el_of h
theorem timesE {V U : Nat} (hV : V < W4) (hU : U < W4) (w : World) : Calls Try.prog 53 #[.agg #[.int .u64 (l0 (V) : Int), .int .u64 (l1 (V) : Int), .int .u64 (l2 (V) : Int), .int .u64 (l3 (V) : Int)], .agg #[.int .u64 (l0 (U) : Int), .int .u64 (l1 (U) : Int), .int .u64 (l2 (U) : Int), .int .u64 (l3 (U) : Int)]] w fun e w' => e = .returned (.agg #[.int .u64 (l0 (tmN (V * U)) : Int), .int .u64 (l1 (tmN (V * U)) : Int), .int .u64 (l2 (tmN (V * U)) : Int), .int .u64 (l3 (tmN (V * U)) : Int)]) ∧ Below w.heap.size w w' := by
  have h := times_any (lin V) (lin U) w
  rw [lv hV, lv hU] at h
  exact h.mono fun e w' h => el_of h
/-- the difference, with what was borrowed -/
def miN (V U : Nat) : Nat := if V < U then V + W4 - U else V - U
def boN (V U : Nat) : Nat := if V < U then 1 else 0
theorem miN_lt {V U : Nat} (hV : V < W4) : miN V U < W4 := by
  unfold miN
  split <;> omega
theorem minusE {V U : Nat} (hV : V < W4) (hU : U < W4) (w : World) : Calls Try.prog 54 #[.agg #[.int .u64 (l0 (V) : Int), .int .u64 (l1 (V) : Int), .int .u64 (l2 (V) : Int), .int .u64 (l3 (V) : Int)], .agg #[.int .u64 (l0 (U) : Int), .int .u64 (l1 (U) : Int), .int .u64 (l2 (U) : Int), .int .u64 (l3 (U) : Int)]] w fun e w' => e = .returned (.tuple #[.agg #[.int .u64 (l0 (miN V U) : Int), .int .u64 (l1 (miN V U) : Int), .int .u64 (l2 (miN V U) : Int), .int .u64 (l3 (miN V U) : Int)], .int .u64 (boN V U : Int)]) ∧ Below w.heap.size w w' := by
  have h := minus_any (lin V) (lin U) w
  rw [lv hV, lv hU] at h
  refine h.mono fun e w' h => ?_
  obtain ⟨a, b, c, d, k, rfl, hb, hin, hk, hv⟩ := h
  obtain ⟨h0, h1, h2, h3⟩ := lof hin
  have hl := v4_lt hin
  have he : v4 a b c d = miN V U ∧ k = boN V U := by
    unfold miN boN
    rcases (by omega : k = 0 ∨ k = 1) with rfl | rfl
    · rw [if_neg (by omega), if_neg (by omega)]
      exact ⟨by omega, rfl⟩
    · rw [if_pos (by omega), if_pos (by omega)]
      exact ⟨by omega, rfl⟩
  rw [he.1] at h0 h1 h2 h3
  rw [h0, h1, h2, h3, he.2]
  exact ⟨rfl, hb⟩

set_option maxRecDepth 100000 in
set_option maxHeartbeats 4000000 in
theorem squareE {V : Nat} (hV : V < W4) (w : World) : Calls Try.prog 25 #[.agg #[.int .u64 (l0 (V) : Int), .int .u64 (l1 (V) : Int), .int .u64 (l2 (V) : Int), .int .u64 (l3 (V) : Int)]] w fun e w' => e = .returned (.agg #[.int .u64 (l0 ((V * V) % PP) : Int), .int .u64 (l1 ((V * V) % PP) : Int), .int .u64 (l2 ((V * V) % PP) : Int), .int .u64 (l3 ((V * V) % PP) : Int)]) ∧ Below w.heap.size w w' := by
  have C1 := Lib.hid (fun W => timesE hV hV W)
  have C2 := Lib.hid (fun W => normE (tmN_lt hV hV) W)
  rw [tmN_mod] at C2
  clear hV
  go_enter Try.func25, Try.ntmps25
  go_wp2_with fail
  with_reducible refine (C1.out _).mono ?_
  rintro e w1 ⟨rfl, hb1⟩
  have B1 := Lib.hid hb1
  obtain ⟨hc1, hf1⟩ := bcell hb1
  have zz1 := hb1.size
  try simp only [World.size_alloc] at zz1
  have z1_0 : w.heap.size + 1 < w1.heap.size := by omega
  have z1_1 : w.heap.size < w1.heap.size := by omega
  clear hb1 zz1
  go_wp2_with fail
  with_reducible refine (C2.out _).mono ?_
  rintro e w2 ⟨rfl, hb2⟩
  have B2 := Lib.hid hb2
  obtain ⟨hc2, hf2⟩ := bcell hb2
  have zz2 := hb2.size
  try simp only [World.size_alloc] at zz2
  have z2_0 : w.heap.size + 1 < w2.heap.size := by omega
  have z2_1 : w.heap.size < w2.heap.size := by omega
  clear hb2 zz2
  go_wp2_with fail
  refine bodyPost_ret (v := .agg #[.int .u64 (l0 ((V * V) % PP) : Int), .int .u64 (l1 ((V * V) % PP) : Int), .int .u64 (l2 ((V * V) % PP) : Int), .int .u64 (l3 ((V * V) % PP) : Int)]) (by simp [results, Try.results25, go_sem, *]) rfl ⟨rfl, ?_⟩
  have b1 := B1.out
  have b2 := B2.out
  simp only [World.size_alloc] at b1 b2
  exact set4_below ((((Below.refl w.heap.size w).alloc (Nat.le_refl _) _).alloc (by simp) _).trans (b1.mono (by omega)) |>.trans (b2.mono (by omega))) (g := w.heap.size + 1) (by omega) _ _ _ _
end Go.Proofs.Ytgkglielcbgpiaa
