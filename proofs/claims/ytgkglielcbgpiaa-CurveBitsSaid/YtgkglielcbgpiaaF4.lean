/- field's times: the product of four words by four, folded. -/
import Derived.Test.YtgkglielcbgpiaaF3
namespace Go.Proofs.Ytgkglielcbgpiaa
open Go.RowKit

/-- what times makes of a product -/
def foldN (T : Nat) : Nat := T % 57896044618658097711785492504343953926634992332820282019728792003956564819968 + 19 * (T / 57896044618658097711785492504343953926634992332820282019728792003956564819968)
def tmN (V : Nat) : Nat := foldN (V % W4 + 38 * (V / W4))
theorem foldN_mod (T : Nat) : foldN T % PP = T % PP := by
  have h : T = foldN T + PP * (T / 57896044618658097711785492504343953926634992332820282019728792003956564819968) := by
    unfold foldN PP
    omega
  conv => rhs; rw [h, Nat.add_mul_mod_self_left]
theorem tmN_mod (V : Nat) : tmN V % PP = V % PP := by
  unfold tmN
  rw [foldN_mod]
  have h : V = (V % W4 + 38 * (V / W4)) + PP * (2 * (V / W4)) := by
    unfold W4 PP
    omega
  conv => rhs; rw [h, Nat.add_mul_mod_self_left]
theorem tmN_lt {V U : Nat} (hV : V < W4) (hU : U < W4) : tmN (V * U) < W4 := by
  have h : V * U < W4 * W4 := Nat.mul_lt_mul'' hV hU
  have h2 : V * U / W4 < W4 := by rw [Nat.div_lt_iff_lt_mul (by decide)]; exact h
  have h3 : V * U % W4 < W4 := Nat.mod_lt _ (by decide)
  unfold tmN foldN
  generalize V * U / W4 = a at *
  generalize V * U % W4 = b at *
  unfold W4 at *
  omega

theorem row_arith {x b0 b1 b2 b3 h0 h1 h2 h3 l c0 g0 c1 g1 c2 g2 g3 : Nat} (e0 : l + 18446744073709551616 * c0 = x * b0 + h0) (e1 : g0 + 18446744073709551616 * c1 = x * b1 + h1 + c0) (e2 : g1 + 18446744073709551616 * c2 = x * b2 + h2 + c1) (e3 : g2 + 18446744073709551616 * g3 = x * b3 + h3 + c2) :
    l + 18446744073709551616 * v4 g0 g1 g2 g3 = x * v4 b0 b1 b2 b3 + v4 h0 h1 h2 h3 := by
  unfold v4
  simp only [Nat.mul_add, Nat.mul_left_comm x]
  generalize x * b0 = p0 at *
  generalize x * b1 = p1 at *
  generalize x * b2 = p2 at *
  generalize x * b3 = p3 at *
  omega

/-- what the loop has reckoned after i rounds -/
def InvT (B a0 a1 a2 a3 l0 l1 l2 l3 H : Nat) : Nat → Prop
  | 0 => H = 0
  | 1 => l0 + 18446744073709551616 * H = a0 * B
  | 2 => l0 + 18446744073709551616 * (l1 + 18446744073709551616 * H) = a0 * B + 18446744073709551616 * (a1 * B)
  | 3 => l0 + 18446744073709551616 * (l1 + 18446744073709551616 * (l2 + 18446744073709551616 * H)) = a0 * B + 18446744073709551616 * (a1 * B + 18446744073709551616 * (a2 * B))
  | _ => l0 + 18446744073709551616 * (l1 + 18446744073709551616 * (l2 + 18446744073709551616 * (l3 + 18446744073709551616 * H))) = a0 * B + 18446744073709551616 * (a1 * B + 18446744073709551616 * (a2 * B + 18446744073709551616 * (a3 * B)))
theorem inv0 {B a0 a1 a2 a3 l0 l1 l2 l3 H l H' : Nat} (h : InvT B a0 a1 a2 a3 l0 l1 l2 l3 H 0) (e : l + 18446744073709551616 * H' = a0 * B + H) : InvT B a0 a1 a2 a3 l l1 l2 l3 H' 1 := by
  simp only [InvT] at *
  omega
theorem inv1 {B a0 a1 a2 a3 l0 l1 l2 l3 H l H' : Nat} (h : InvT B a0 a1 a2 a3 l0 l1 l2 l3 H 1) (e : l + 18446744073709551616 * H' = a1 * B + H) : InvT B a0 a1 a2 a3 l0 l l2 l3 H' 2 := by
  simp only [InvT] at *
  omega
theorem inv2 {B a0 a1 a2 a3 l0 l1 l2 l3 H l H' : Nat} (h : InvT B a0 a1 a2 a3 l0 l1 l2 l3 H 2) (e : l + 18446744073709551616 * H' = a2 * B + H) : InvT B a0 a1 a2 a3 l0 l1 l l3 H' 3 := by
  simp only [InvT] at *
  omega
theorem inv3 {B a0 a1 a2 a3 l0 l1 l2 l3 H l H' : Nat} (h : InvT B a0 a1 a2 a3 l0 l1 l2 l3 H 3) (e : l + 18446744073709551616 * H' = a3 * B + H) : InvT B a0 a1 a2 a3 l0 l1 l2 l H' 4 := by
  simp only [InvT] at *
  omega
/-- the loop's slots and cells -/
structure TM (w0 : World) (a0 a1 a2 a3 b0 b1 b2 b3 i h0 h1 h2 h3 l0 l1 l2 l3 c : Nat) (wr : World) : Prop where
  hi : i ≤ 4
  lin : In4 l0 l1 l2 l3
  hin : In4 h0 h1 h2 h3
  inv : InvT (v4 b0 b1 b2 b3) a0 a1 a2 a3 l0 l1 l2 l3 (v4 h0 h1 h2 h3) i
  wr : wr = (((w0.alloc (.cells #[.int .u64 (a0 : Int), .int .u64 (a1 : Int), .int .u64 (a2 : Int), .int .u64 (a3 : Int)] 26)).alloc (.cells #[.int .u64 (b0 : Int), .int .u64 (b1 : Int), .int .u64 (b2 : Int), .int .u64 (b3 : Int)] 26)).alloc (.cells #[.int .u64 0, .int .u64 0, .int .u64 0, .int .u64 0] 26)).alloc (.cells #[.int .u64 (l0 : Int), .int .u64 (l1 : Int), .int .u64 (l2 : Int), .int .u64 (l3 : Int)] 26)

theorem timesPlus_0 (x y m : Nat) (hx : x < 18446744073709551616) (hy : y < 18446744073709551616) (hm : m < 18446744073709551616) (w : World) :
    Calls Try.prog 68 #[.int .u64 x, .int .u64 y, .int .u64 m, .int .u64 0] w (Two (x * y + m) w) := timesPlus_any x y m 0 hx hy hm (by omega) w
theorem timesPlus_38 (y m n : Nat) (hy : y < 18446744073709551616) (hm : m < 18446744073709551616) (hn : n < 18446744073709551616) (w : World) :
    Calls Try.prog 68 #[.int .u64 38, .int .u64 y, .int .u64 m, .int .u64 n] w (Two (38 * y + m + n) w) := timesPlus_any 38 y m n (by omega) hy hm hn w
theorem timesPlus_380 (y m : Nat) (hy : y < 18446744073709551616) (hm : m < 18446744073709551616) (w : World) :
    Calls Try.prog 68 #[.int .u64 38, .int .u64 y, .int .u64 m, .int .u64 0] w (Two (38 * y + m) w) := timesPlus_any 38 y m 0 (by omega) hy hm (by omega) w

theorem ti_arith1 {h0 h1 h2 h3 l0 l1 l2 l3 m0 m1 m2 m3 c0 c1 c2 c3 : Nat} (hl : In4 l0 l1 l2 l3) (hh : In4 h0 h1 h2 h3) (e0 : m0 + 18446744073709551616 * c0 = 38 * h0 + l0) (e1 : m1 + 18446744073709551616 * c1 = 38 * h1 + l1 + c0) (e2 : m2 + 18446744073709551616 * c2 = 38 * h2 + l2 + c1) (e3 : m3 + 18446744073709551616 * c3 = 38 * h3 + l3 + c2) :
    v4 m0 m1 m2 m3 + W4 * c3 = v4 l0 l1 l2 l3 + 38 * v4 h0 h1 h2 h3 ∧ c3 < 128 := by
  obtain ⟨a1, a2, a3, a4⟩ := hl
  obtain ⟨b1, b2, b3, b4⟩ := hh
  refine ⟨?_, by omega⟩
  unfold v4 W4
  omega
theorem ti_arith2 {B a0 a1 a2 a3 l0 l1 l2 l3 h0 h1 h2 h3 : Nat} (h : InvT B a0 a1 a2 a3 l0 l1 l2 l3 (v4 h0 h1 h2 h3) 4) : v4 l0 l1 l2 l3 + W4 * v4 h0 h1 h2 h3 = v4 a0 a1 a2 a3 * B := by
  simp only [InvT] at h
  unfold v4 W4 at *
  simp only [Nat.add_mul, Nat.mul_assoc]
  omega
theorem ti_arith3 {a b c d n : Nat} : v4 a b c (d % 9223372036854775808) + 19 * (2 * n + d / 9223372036854775808) + PP * (2 * n + d / 9223372036854775808) = v4 a b c d + W4 * n := by
  unfold v4 W4 PP
  omega
theorem ti_arith {B a0 a1 a2 a3 l0 l1 l2 l3 h0 h1 h2 h3 m0 m1 m2 m3 c3 r : Nat} (h : InvT B a0 a1 a2 a3 l0 l1 l2 l3 (v4 h0 h1 h2 h3) 4) (hl : In4 l0 l1 l2 l3) (hm : In4 m0 m1 m2 m3) (hq : v4 m0 m1 m2 m3 + W4 * c3 = v4 l0 l1 l2 l3 + 38 * v4 h0 h1 h2 h3)
    (hr : r = v4 m0 m1 m2 (m3 % 9223372036854775808) + 19 * (2 * c3 + m3 / 9223372036854775808)) : r = tmN (v4 a0 a1 a2 a3 * B) := by
  have e2 := ti_arith2 h
  have g1 := v4_lt hl
  have e5 : (v4 a0 a1 a2 a3 * B) % W4 = v4 l0 l1 l2 l3 := by rw [← e2, Nat.add_mul_mod_self_left, Nat.mod_eq_of_lt g1]
  have e6 : (v4 a0 a1 a2 a3 * B) / W4 = v4 h0 h1 h2 h3 := by rw [← e2, Nat.add_mul_div_left _ _ (by decide), Nat.div_eq_of_lt g1, Nat.zero_add]
  unfold tmN
  rw [e5, e6, ← hq, hr]
  clear e5 e6 e2 h g1 hq hr hl
  obtain ⟨a1, a2, a3, a4⟩ := hm
  have hk : m3 = m3 % 9223372036854775808 + 9223372036854775808 * (m3 / 9223372036854775808) := by omega
  have hlt : m3 % 9223372036854775808 < 9223372036854775808 := by omega
  generalize m3 % 9223372036854775808 = s at *
  generalize m3 / 9223372036854775808 = t at *
  subst hk
  have e7 : v4 m0 m1 m2 (s + 9223372036854775808 * t) + W4 * c3 = v4 m0 m1 m2 s + 57896044618658097711785492504343953926634992332820282019728792003956564819968 * (2 * c3 + t) := by
    unfold v4 W4
    omega
  have e8 : v4 m0 m1 m2 s < 57896044618658097711785492504343953926634992332820282019728792003956564819968 := by
    unfold v4
    omega
  unfold foldN
  rw [e7, Nat.add_mul_mod_self_left, Nat.mod_eq_of_lt e8, Nat.add_mul_div_left _ _ (by decide), Nat.div_eq_of_lt e8, Nat.zero_add]

theorem idx_0 (x0 x1 x2 x3 : Value) (w : World) : (Instr.index 26 (.agg #[x0, x1, x2, x3]) (.int .i64 0)).run Try.prog w = .ok x0 w := by kernel_rfl
theorem idx_1 (x0 x1 x2 x3 : Value) (w : World) : (Instr.index 26 (.agg #[x0, x1, x2, x3]) (.int .i64 1)).run Try.prog w = .ok x1 w := by kernel_rfl
theorem idx_2 (x0 x1 x2 x3 : Value) (w : World) : (Instr.index 26 (.agg #[x0, x1, x2, x3]) (.int .i64 2)).run Try.prog w = .ok x2 w := by kernel_rfl
theorem idx_3 (x0 x1 x2 x3 : Value) (w : World) : (Instr.index 26 (.agg #[x0, x1, x2, x3]) (.int .i64 3)).run Try.prog w = .ok x3 w := by kernel_rfl
set_option maxRecDepth 100000 in
set_option maxHeartbeats 4000000 in
theorem times_any {a0 a1 a2 a3 b0 b1 b2 b3 : Nat} (ha : In4 a0 a1 a2 a3) (hb : In4 b0 b1 b2 b3) (w : World) :
    Calls Try.prog 53 #[.agg #[.int .u64 (a0 : Int), .int .u64 (a1 : Int), .int .u64 (a2 : Int), .int .u64 (a3 : Int)], .agg #[.int .u64 (b0 : Int), .int .u64 (b1 : Int), .int .u64 (b2 : Int), .int .u64 (b3 : Int)]] w (El (tmN (v4 a0 a1 a2 a3 * v4 b0 b1 b2 b3)) w) := by
  obtain ⟨B, hB⟩ : ∃ B, B = v4 b0 b1 b2 b3 := ⟨_, rfl⟩
  rw [← hB]
  have HB := Lib.hid hB
  have HBin := Lib.hid hb
  have HA := Lib.hid ha
  clear hB ha hb
  go_enter Try.func53, Try.ntmps53
  go_wp2_with fail
  go_loopw [6, 7, 8, 9, 10, 14] (fun t6 t7 t8 t9 t10 t14 wr => ∃ i h0 h1 h2 h3 l0 l1 l2 l3 c : Nat, t6 = .int .u64 (h0 : Int) ∧ t7 = .int .u64 (h1 : Int) ∧ t8 = .int .u64 (h2 : Int) ∧ t9 = .int .u64 (h3 : Int) ∧ t10 = .int .u64 (c : Int) ∧ t14 = .int .i64 (i : Int) ∧ TM w a0 a1 a2 a3 b0 b1 b2 b3 i h0 h1 h2 h3 l0 l1 l2 l3 c wr) (fun _ _ _ _ _ t14 _ => 4 - (intOf t14).toNat)
  case atStart => exact ⟨0, 0, 0, 0, 0, 0, 0, 0, 0, 0, rfl, rfl, rfl, rfl, rfl, rfl, ⟨by omega, ⟨by omega, by omega, by omega, by omega⟩, ⟨by omega, by omega, by omega, by omega⟩, rfl, rfl⟩⟩
  case round =>
    obtain ⟨i, h0, h1, h2, h3, l0, l1, l2, l3, c, rfl, rfl, rfl, rfl, rfl, rfl, M⟩ := hrel
    obtain ⟨hi, hl, hh, inv, rfl⟩ := M
    have HL := Lib.hid hl; have HH := Lib.hid hh; have HI := Lib.hid inv
    clear hl hh inv
    rcases (by omega : i = 0 ∨ i = 1 ∨ i = 2 ∨ i = 3 ∨ i = 4) with rfl | rfl | rfl | rfl | rfl
    · rw [show (((0 : Nat)) : Int) = 0 from rfl]
      have hix := fun W => idx_0 (.int .u64 (a0 : Int)) (.int .u64 (a1 : Int)) (.int .u64 (a2 : Int)) (.int .u64 (a3 : Int)) W
      go_wp2_with fail
      with_reducible refine (timesPlus_0 _ _ _ HA.out.a HBin.out.a HH.out.a _).mono ?_
      rintro e w2 ⟨l, c0, rfl, rfl, q1, q2, q3⟩
      have E0 := Lib.hid q3
      clear q3
      go_wp2_with fail
      with_reducible refine (timesPlus_any _ _ _ _ HA.out.a HBin.out.b HH.out.b q2 _).mono ?_
      rintro e w2 ⟨g0, c1, rfl, rfl, q3, q4, q5⟩
      have E1 := Lib.hid q5
      clear q5
      go_wp2_with fail
      with_reducible refine (timesPlus_any _ _ _ _ HA.out.a HBin.out.c HH.out.c q4 _).mono ?_
      rintro e w2 ⟨g1, c2, rfl, rfl, q5, q6, q7⟩
      have E2 := Lib.hid q7
      clear q7
      go_wp2_with fail
      with_reducible refine (timesPlus_any _ _ _ _ HA.out.a HBin.out.d HH.out.d q6 _).mono ?_
      rintro e w2 ⟨g2, g3, rfl, rfl, q7, q8, q9⟩
      have E3 := Lib.hid q9
      clear q9
      go_wp2_with fail
      go_roundw
      case rel => exact ⟨1, g0, g1, g2, g3, l, l1, l2, l3, c2, rfl, rfl, rfl, rfl, rfl, rfl, ⟨by omega, ⟨q1, HL.out.b, HL.out.c, HL.out.d⟩, ⟨q3, q5, q7, q8⟩, inv0 HI.out (row_arith E0.out E1.out E2.out E3.out), rfl⟩⟩
      case measure => simp [intOf]
    · rw [show (((1 : Nat)) : Int) = 1 from rfl]
      have hix := fun W => idx_1 (.int .u64 (a0 : Int)) (.int .u64 (a1 : Int)) (.int .u64 (a2 : Int)) (.int .u64 (a3 : Int)) W
      go_wp2_with fail
      with_reducible refine (timesPlus_0 _ _ _ HA.out.b HBin.out.a HH.out.a _).mono ?_
      rintro e w2 ⟨l, c0, rfl, rfl, q1, q2, q3⟩
      have E0 := Lib.hid q3
      clear q3
      go_wp2_with fail
      with_reducible refine (timesPlus_any _ _ _ _ HA.out.b HBin.out.b HH.out.b q2 _).mono ?_
      rintro e w2 ⟨g0, c1, rfl, rfl, q3, q4, q5⟩
      have E1 := Lib.hid q5
      clear q5
      go_wp2_with fail
      with_reducible refine (timesPlus_any _ _ _ _ HA.out.b HBin.out.c HH.out.c q4 _).mono ?_
      rintro e w2 ⟨g1, c2, rfl, rfl, q5, q6, q7⟩
      have E2 := Lib.hid q7
      clear q7
      go_wp2_with fail
      with_reducible refine (timesPlus_any _ _ _ _ HA.out.b HBin.out.d HH.out.d q6 _).mono ?_
      rintro e w2 ⟨g2, g3, rfl, rfl, q7, q8, q9⟩
      have E3 := Lib.hid q9
      clear q9
      go_wp2_with fail
      go_roundw
      case rel => exact ⟨2, g0, g1, g2, g3, l0, l, l2, l3, c2, rfl, rfl, rfl, rfl, rfl, rfl, ⟨by omega, ⟨HL.out.a, q1, HL.out.c, HL.out.d⟩, ⟨q3, q5, q7, q8⟩, inv1 HI.out (row_arith E0.out E1.out E2.out E3.out), rfl⟩⟩
      case measure => simp [intOf]
    · rw [show (((2 : Nat)) : Int) = 2 from rfl]
      have hix := fun W => idx_2 (.int .u64 (a0 : Int)) (.int .u64 (a1 : Int)) (.int .u64 (a2 : Int)) (.int .u64 (a3 : Int)) W
      go_wp2_with fail
      with_reducible refine (timesPlus_0 _ _ _ HA.out.c HBin.out.a HH.out.a _).mono ?_
      rintro e w2 ⟨l, c0, rfl, rfl, q1, q2, q3⟩
      have E0 := Lib.hid q3
      clear q3
      go_wp2_with fail
      with_reducible refine (timesPlus_any _ _ _ _ HA.out.c HBin.out.b HH.out.b q2 _).mono ?_
      rintro e w2 ⟨g0, c1, rfl, rfl, q3, q4, q5⟩
      have E1 := Lib.hid q5
      clear q5
      go_wp2_with fail
      with_reducible refine (timesPlus_any _ _ _ _ HA.out.c HBin.out.c HH.out.c q4 _).mono ?_
      rintro e w2 ⟨g1, c2, rfl, rfl, q5, q6, q7⟩
      have E2 := Lib.hid q7
      clear q7
      go_wp2_with fail
      with_reducible refine (timesPlus_any _ _ _ _ HA.out.c HBin.out.d HH.out.d q6 _).mono ?_
      rintro e w2 ⟨g2, g3, rfl, rfl, q7, q8, q9⟩
      have E3 := Lib.hid q9
      clear q9
      go_wp2_with fail
      go_roundw
      case rel => exact ⟨3, g0, g1, g2, g3, l0, l1, l, l3, c2, rfl, rfl, rfl, rfl, rfl, rfl, ⟨by omega, ⟨HL.out.a, HL.out.b, q1, HL.out.d⟩, ⟨q3, q5, q7, q8⟩, inv2 HI.out (row_arith E0.out E1.out E2.out E3.out), rfl⟩⟩
      case measure => simp [intOf]
    · rw [show (((3 : Nat)) : Int) = 3 from rfl]
      have hix := fun W => idx_3 (.int .u64 (a0 : Int)) (.int .u64 (a1 : Int)) (.int .u64 (a2 : Int)) (.int .u64 (a3 : Int)) W
      go_wp2_with fail
      with_reducible refine (timesPlus_0 _ _ _ HA.out.d HBin.out.a HH.out.a _).mono ?_
      rintro e w2 ⟨l, c0, rfl, rfl, q1, q2, q3⟩
      have E0 := Lib.hid q3
      clear q3
      go_wp2_with fail
      with_reducible refine (timesPlus_any _ _ _ _ HA.out.d HBin.out.b HH.out.b q2 _).mono ?_
      rintro e w2 ⟨g0, c1, rfl, rfl, q3, q4, q5⟩
      have E1 := Lib.hid q5
      clear q5
      go_wp2_with fail
      with_reducible refine (timesPlus_any _ _ _ _ HA.out.d HBin.out.c HH.out.c q4 _).mono ?_
      rintro e w2 ⟨g1, c2, rfl, rfl, q5, q6, q7⟩
      have E2 := Lib.hid q7
      clear q7
      go_wp2_with fail
      with_reducible refine (timesPlus_any _ _ _ _ HA.out.d HBin.out.d HH.out.d q6 _).mono ?_
      rintro e w2 ⟨g2, g3, rfl, rfl, q7, q8, q9⟩
      have E3 := Lib.hid q9
      clear q9
      go_wp2_with fail
      go_roundw
      case rel => exact ⟨4, g0, g1, g2, g3, l0, l1, l2, l, c2, rfl, rfl, rfl, rfl, rfl, rfl, ⟨by omega, ⟨HL.out.a, HL.out.b, HL.out.c, q1⟩, ⟨q3, q5, q7, q8⟩, inv3 HI.out (row_arith E0.out E1.out E2.out E3.out), rfl⟩⟩
      case measure => simp [intOf]
    · rw [show (((4 : Nat)) : Int) = 4 from rfl]
      go_wp2_with fail
      with_reducible refine (timesPlus_380 _ _ HH.out.a HL.out.a _).mono ?_
      rintro e w2 ⟨m0, c0, rfl, rfl, q1, q2, q3⟩
      have E0 := Lib.hid q3
      clear q3
      go_wp2_with fail
      with_reducible refine (timesPlus_38 _ _ _ HH.out.b HL.out.b q2 _).mono ?_
      rintro e w2 ⟨m1, c1, rfl, rfl, q3, q4, q5⟩
      have E1 := Lib.hid q5
      clear q5
      go_wp2_with fail
      with_reducible refine (timesPlus_38 _ _ _ HH.out.c HL.out.c q4 _).mono ?_
      rintro e w2 ⟨m2, c2, rfl, rfl, q5, q6, q7⟩
      have E2 := Lib.hid q7
      clear q7
      go_wp2_with fail
      with_reducible refine (timesPlus_38 _ _ _ HH.out.d HL.out.d q6 _).mono ?_
      rintro e w2 ⟨m3, c3, rfl, rfl, q7, q8, q9⟩
      have E3 := Lib.hid q9
      have T1 := Lib.hid (ti_arith1 HL.out HH.out E0.out E1.out E2.out E3.out)
      clear q9
      go_wp2_with fail
      with_reducible refine (fold_any ⟨q1, q3, q5, q7⟩ T1.out.2 _).mono ?_
      rintro e w3 ⟨r0, r1, r2, r3, rfl, hb, hin, hv⟩
      have HV := Lib.hid hv
      have HBe := Lib.hid hb
      obtain ⟨hc, hf⟩ := bcell hb
      have z1 : w.heap.size + 1 + 1 < w3.heap.size := by have := hb.size; simp at this; omega
      have z2 : w.heap.size + 1 < w3.heap.size := by omega
      have z3 : w.heap.size < w3.heap.size := by omega
      clear hv hb
      go_wp2_with fail
      refine bodyPost_ret (v := .agg #[.int .u64 (r0 : Int), .int .u64 (r1 : Int), .int .u64 (r2 : Int), .int .u64 (r3 : Int)]) (by simp [results, Try.results53, go_sem, hc, hf, z1, z2, z3]) rfl ⟨r0, r1, r2, r3, rfl, ?_, hin, by rw [HB.out]; exact ti_arith HI.out HL.out ⟨q1, q3, q5, q7⟩ T1.out.1 HV.out⟩
      have hB := HBe.out
      clear hc hf
      simp only [World.size_alloc] at hB
      exact set4_below (((((Below.refl w.heap.size w).alloc (Nat.le_refl _) _).alloc (by simp) _).alloc (by simp; omega) _).alloc (by simp; omega) _ |>.trans (hB.mono (by omega))) (g := w.heap.size + 2) (by omega) _ _ _ _
end Go.Proofs.Ytgkglielcbgpiaa
