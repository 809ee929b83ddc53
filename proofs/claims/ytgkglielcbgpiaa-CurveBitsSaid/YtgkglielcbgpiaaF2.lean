/- field's limbs: sums, differences, folding, products of four words. -/
import Derived.Test.YtgkglielcbgpiaaF1
namespace Go.Proofs.Ytgkglielcbgpiaa
open Go.RowKit

abbrev LW : Nat := 18446744073709551616
/-- the number of four words -/
def v4 (a b c d : Nat) : Nat := a + 18446744073709551616 * (b + 18446744073709551616 * (c + 18446744073709551616 * d))
def W4 : Nat := 18446744073709551616 * 18446744073709551616 * 18446744073709551616 * 18446744073709551616
structure In4 (a b c d : Nat) : Prop where
  a : a < 18446744073709551616
  b : b < 18446744073709551616
  c : c < 18446744073709551616
  d : d < 18446744073709551616
theorem v4_lt {a b c d : Nat} (h : In4 a b c d) : v4 a b c d < W4 := by
  obtain ⟨ha, hb, hc, hd⟩ := h
  unfold v4 W4
  omega
/-- four words with the number V, in a new world -/
def El (V : Nat) (w : World) (e : Ending) (w' : World) : Prop :=
  ∃ a b c d : Nat, e = .returned (.agg #[.int .u64 (a : Int), .int .u64 (b : Int), .int .u64 (c : Int), .int .u64 (d : Int)]) ∧ Below w.heap.size w w' ∧ In4 a b c d ∧ v4 a b c d = V

theorem bcell {W w1 : World} (hb : Below W.heap.size W w1) : (∀ b o, b < W.heap.size → w1.cell? ⟨b, o, none⟩ = W.cell? ⟨b, o, none⟩) ∧ (∀ b o, b < W.heap.size → w1.frozen? ⟨b, o, none⟩ = W.frozen? ⟨b, o, none⟩) :=
  ⟨fun b o h => hb.cell (p := ⟨b, o, none⟩) h, fun b o h => hb.frozen (p := ⟨b, o, none⟩) h⟩

theorem pw_arith {a b c d n s0 s1 s2 k0 k1 k2 : Nat} (hV : v4 a b c d + n < W4) (h0 : s0 + 18446744073709551616 * k0 = a + n) (h1 : s1 + 18446744073709551616 * k1 = b + k0) (h2 : s2 + 18446744073709551616 * k2 = c + k1)
    (g0 : s0 < 18446744073709551616) (g1 : s1 < 18446744073709551616) (g2 : s2 < 18446744073709551616) : d + k2 < 18446744073709551616 ∧ v4 s0 s1 s2 (d + k2) = v4 a b c d + n := by
  unfold v4 W4 at *
  omega
set_option maxRecDepth 100000 in
set_option maxHeartbeats 1000000 in
theorem plusWord_any {a b c d n : Nat} (h : In4 a b c d) (hn : n < 18446744073709551616) (hV : v4 a b c d + n < W4) (w : World) :
    Calls Try.prog 56 #[.agg #[.int .u64 (a : Int), .int .u64 (b : Int), .int .u64 (c : Int), .int .u64 (d : Int)], .int .u64 (n : Int)] w (El (v4 a b c d + n) w) := by
  obtain ⟨ha, hb, hc, hd⟩ := h
  have HV := Lib.hid hV
  clear hV
  go_enter Try.func56, Try.ntmps56
  go_wp2_with fail
  obtain ⟨s0, k0, he, g0, l0, h0⟩ := add64z_ex a n _ ha hn
  have H0 := Lib.hid h0
  rw [he]; clear he h0
  go_wp2_with fail
  obtain ⟨s1, k1, he, g1, l1, h1⟩ := add64z_ex b k0 _ hb (by omega)
  have H1 := Lib.hid h1
  rw [he]; clear he h1
  go_wp2_with fail
  obtain ⟨s2, k2, he, g2, l2, h2⟩ := add64z_ex c k1 _ hc (by omega)
  have H2 := Lib.hid h2
  have b1 : d + k2 < 18446744073709551616 := by exact (pw_arith HV.out H0.out H1.out h2 g0 g1 g2).1
  rw [he]; clear he h2
  go_wp2_with fail
  refine bodyPost_ret (v := .agg #[.int .u64 (s0 : Int), .int .u64 (s1 : Int), .int .u64 (s2 : Int), .int .u64 ((d + k2 : Nat) : Int)]) (by simp [results, Try.results56, go_sem]) rfl ⟨s0, s1, s2, d + k2, rfl, ?_, ⟨g0, g1, g2, b1⟩, (pw_arith HV.out H0.out H1.out H2.out g0 g1 g2).2⟩
  exact ((Below.refl _ _).alloc (Nat.le_refl _) _).alloc (by simp) _

theorem pl_arith {a b c d x y z t s0 s1 s2 k0 k1 k2 : Nat} (h0 : s0 + 18446744073709551616 * k0 = a + x) (h1 : s1 + 18446744073709551616 * k1 = b + y + k0) (h2 : s2 + 18446744073709551616 * k2 = c + z + k1)
    (g0 : s0 < 18446744073709551616) (g1 : s1 < 18446744073709551616) (g2 : s2 < 18446744073709551616) : v4 s0 s1 s2 ((d + (t + k2)) % 18446744073709551616) = (v4 a b c d + v4 x y z t) % W4 := by
  have e : v4 a b c d + v4 x y z t = v4 s0 s1 s2 ((d + (t + k2)) % 18446744073709551616) + W4 * ((d + (t + k2)) / 18446744073709551616) := by
    unfold v4 W4
    omega
  have hl : v4 s0 s1 s2 ((d + (t + k2)) % 18446744073709551616) < W4 := by
    unfold v4 W4
    omega
  rw [e, Nat.add_mul_mod_self_left, Nat.mod_eq_of_lt hl]
theorem set4_below {B : Nat} {a w : World} (h : Below B a w) {g : Nat} (hg : B ≤ g) (u0 u1 u2 u3 : Value) : Below B a ((((w.setCell ⟨g, 0, none⟩ u0).setCell ⟨g, 1, none⟩ u1).setCell ⟨g, 2, none⟩ u2).setCell ⟨g, 3, none⟩ u3) :=
  (((h.setCell hg _).setCell hg _).setCell hg _).setCell hg _
set_option maxRecDepth 100000 in
set_option maxHeartbeats 1000000 in
/-- the sum modulo 2^256 -/
theorem plus_any {a b c d x y z t : Nat} (h : In4 a b c d) (k : In4 x y z t) (w : World) :
    Calls Try.prog 52 #[.agg #[.int .u64 (a : Int), .int .u64 (b : Int), .int .u64 (c : Int), .int .u64 (d : Int)], .agg #[.int .u64 (x : Int), .int .u64 (y : Int), .int .u64 (z : Int), .int .u64 (t : Int)]] w (El ((v4 a b c d + v4 x y z t) % W4) w) := by
  obtain ⟨ha, hb, hc, hd⟩ := h
  obtain ⟨hx, hy, hz, ht⟩ := k
  go_enter Try.func52, Try.ntmps52
  go_wp2_with fail
  obtain ⟨s0, k0, he, g0, l0, h0⟩ := add64z_ex a x _ ha hx
  have H0 := Lib.hid h0
  rw [he]; clear he h0
  go_wp2_with fail
  obtain ⟨s1, k1, he, g1, l1, h1⟩ := add64_ex b y k0 l0 _ hb hy
  have H1 := Lib.hid h1
  rw [he]; clear he h1
  go_wp2_with fail
  obtain ⟨s2, k2, he, g2, l2, h2⟩ := add64_ex c z k1 l1 _ hc hz
  have H2 := Lib.hid h2
  have HW : Hid (IntKind.u64.wrap ((d : Int) + IntKind.u64.wrap ((t : Int) + (k2 : Int))) = (((d + (t + k2)) % 18446744073709551616 : Nat) : Int)) := by
    refine Lib.hid ?_
    rw [addN, wrapM, addN, wrapM]
    congr 1
    omega
  rw [he]; clear he h2
  go_wp2_with fail
  rw [HW.out]
  refine bodyPost_ret (v := .agg #[.int .u64 (s0 : Int), .int .u64 (s1 : Int), .int .u64 (s2 : Int), .int .u64 (((d + (t + k2)) % 18446744073709551616 : Nat) : Int)]) (by simp [results, Try.results52, go_sem]) rfl ⟨s0, s1, s2, (d + (t + k2)) % 18446744073709551616, rfl, ?_, ⟨g0, g1, g2, Nat.mod_lt _ (by decide)⟩, pl_arith H0.out H1.out H2.out g0 g1 g2⟩
  exact (((Below.refl _ _).alloc (Nat.le_refl _) _).alloc (by simp) _).alloc (by simp; omega) _

/-- four words and a borrow -/
def Mi (U V : Nat) (w : World) (e : Ending) (w' : World) : Prop :=
  ∃ a b c d k : Nat, e = .returned (.tuple #[.agg #[.int .u64 (a : Int), .int .u64 (b : Int), .int .u64 (c : Int), .int .u64 (d : Int)], .int .u64 (k : Int)]) ∧ Below w.heap.size w w' ∧ In4 a b c d ∧ k ≤ 1 ∧ v4 a b c d + V = U + W4 * k
theorem mi_arith {a b c d x y z t s0 s1 s2 s3 k0 k1 k2 k3 : Nat} (h0 : s0 + x = a + 18446744073709551616 * k0) (h1 : s1 + y + k0 = b + 18446744073709551616 * k1) (h2 : s2 + z + k1 = c + 18446744073709551616 * k2) (h3 : s3 + t + k2 = d + 18446744073709551616 * k3) :
    v4 s0 s1 s2 s3 + v4 x y z t = v4 a b c d + W4 * k3 := by
  unfold v4 W4 at *
  omega
set_option maxRecDepth 100000 in
set_option maxHeartbeats 1000000 in
theorem minus_any {a b c d x y z t : Nat} (h : In4 a b c d) (k : In4 x y z t) (w : World) :
    Calls Try.prog 54 #[.agg #[.int .u64 (a : Int), .int .u64 (b : Int), .int .u64 (c : Int), .int .u64 (d : Int)], .agg #[.int .u64 (x : Int), .int .u64 (y : Int), .int .u64 (z : Int), .int .u64 (t : Int)]] w (Mi (v4 a b c d) (v4 x y z t) w) := by
  obtain ⟨ha, hb, hc, hd⟩ := h
  obtain ⟨hx, hy, hz, ht⟩ := k
  go_enter Try.func54, Try.ntmps54
  go_wp2_with fail
  obtain ⟨s0, k0, he, g0, l0, h0⟩ := sub64z_ex a x _ ha hx
  have H0 := Lib.hid h0
  rw [he]; clear he h0
  go_wp2_with fail
  obtain ⟨s1, k1, he, g1, l1, h1⟩ := sub64_ex b y k0 l0 _ hb hy
  have H1 := Lib.hid h1
  rw [he]; clear he h1
  go_wp2_with fail
  obtain ⟨s2, k2, he, g2, l2, h2⟩ := sub64_ex c z k1 l1 _ hc hz
  have H2 := Lib.hid h2
  rw [he]; clear he h2
  go_wp2_with fail
  obtain ⟨s3, k3, he, g3, l3, h3⟩ := sub64_ex d t k2 l2 _ hd ht
  have H3 := Lib.hid h3
  rw [he]; clear he h3
  go_wp2_with fail
  refine bodyPost_ret (v := .tuple #[.agg #[.int .u64 (s0 : Int), .int .u64 (s1 : Int), .int .u64 (s2 : Int), .int .u64 (s3 : Int)], .int .u64 (k3 : Int)]) (by simp [results, Try.results54, go_sem]) rfl ⟨s0, s1, s2, s3, k3, rfl, ?_, ⟨g0, g1, g2, g3⟩, l3, mi_arith H0.out H1.out H2.out H3.out⟩
  exact (((Below.refl _ _).alloc (Nat.le_refl _) _).alloc (by simp) _).alloc (by simp; omega) _

end Go.Proofs.Ytgkglielcbgpiaa
