/- field's fold and Norm. -/
import Derived.Test.YtgkglielcbgpiaaF2
namespace Go.Proofs.Ytgkglielcbgpiaa
open Go.RowKit

theorem shr63 (a : Nat) : (a : Int) / 9223372036854775808 = ((a / 9223372036854775808 : Nat) : Int) := by omega
theorem or1 (n k : Nat) (hn : n < 128) (hk : k ≤ 1) : bits .or .u64 ((n : Int) * 2) (k : Int) = ((2 * n + k : Nat) : Int) := by
  have h := bits_or_u64_nat (n * 2) k (by omega) (by omega)
  have e : n * 2 ||| k = 2 * n + k := by
    rw [Nat.mul_comm, show 2 * n = 2 ^ 1 * n from rfl, ← Nat.two_pow_add_eq_or_of_lt (by omega) n]
  rw [e] at h
  rw [← h]
  rfl
theorem fo_arith {a b c d n : Nat} (h : In4 a b c d) (hn : n < 128) : v4 a b c (d % 9223372036854775808) + 19 * (2 * n + d / 9223372036854775808) < W4 := by
  obtain ⟨ha, hb, hc, hd⟩ := h
  unfold v4 W4 at *
  omega
set_option maxRecDepth 100000 in
set_option maxHeartbeats 1000000 in
theorem fold_any {a b c d n : Nat} (h : In4 a b c d) (hn : n < 128) (w : World) :
    Calls Try.prog 55 #[.agg #[.int .u64 (a : Int), .int .u64 (b : Int), .int .u64 (c : Int), .int .u64 (d : Int)], .int .u64 (n : Int)] w (El (v4 a b c (d % 9223372036854775808) + 19 * (2 * n + d / 9223372036854775808)) w) := by
  have hd := h.d
  obtain ⟨k, hk, hk1⟩ : ∃ k : Nat, d / 9223372036854775808 = k ∧ k ≤ 1 := ⟨_, rfl, by omega⟩
  obtain ⟨m, hm, hm1⟩ : ∃ m : Nat, d % 9223372036854775808 = m ∧ m < 9223372036854775808 := ⟨_, rfl, by omega⟩
  have CP := Lib.hid (fun W => plusWord_any (n := 19 * (2 * n + d / 9223372036854775808)) ⟨h.a, h.b, h.c, by omega⟩ (by omega) (fo_arith h hn) W)
  rw [hk, hm] at CP
  rw [hk, hm]
  have hand : bits .and .u64 (d : Int) 9223372036854775807 = (m : Int) := by rw [mask63 d hd, hm]
  have HR : Hid (IntKind.u64.wrap (19 * bits .or .u64 ((n : Int) * 2) ((d : Int) / 9223372036854775808)) = ((19 * (2 * n + k) : Nat) : Int)) := by
    refine Lib.hid ?_
    rw [shr63, hk, or1 n k hn hk1, ← wrapN (19 * (2 * n + k)) (by omega)]
    congr 1
  clear hm hk hk1 hm1
  go_enter Try.func55, Try.ntmps55
  go_wp2_with fail
  rw [HR.out]
  with_reducible refine (CP.out _).mono ?_
  rintro e w2 ⟨r0, r1, r2, r3, rfl, hb, hin, hv⟩
  have HV := Lib.hid hv
  have HB := Lib.hid hb
  obtain ⟨hc, hf⟩ := bcell hb
  clear hv CP hb
  go_wp2_with fail
  refine bodyPost_ret (v := .agg #[.int .u64 (r0 : Int), .int .u64 (r1 : Int), .int .u64 (r2 : Int), .int .u64 (r3 : Int)]) (by simp [results, Try.results55, go_sem, hc, hf]) rfl ⟨r0, r1, r2, r3, rfl, ?_, hin, HV.out⟩
  exact (((((((Below.refl _ _).alloc (Nat.le_refl _) _).alloc (by simp) _).trans (HB.out.mono (by simp; omega))).setCell (by simp) _).setCell (by simp) _).setCell (by simp) _).setCell (by simp) _

/-- the prime -/
def PP : Nat := 57896044618658097711785492504343953926634992332820282019728792003956564819949
theorem no_arith1 {a b c d : Nat} (h : In4 a b c d) (hd : d < 9223372036854775807) : v4 a b c d < PP := by
  obtain ⟨ha, hb, hc, _⟩ := h
  unfold v4 PP
  omega
theorem no_arith2 {a b c d k : Nat} (h : In4 a b c d) (hk : d / 9223372036854775808 = k) : v4 a b c (d % 9223372036854775808) + 19 * k < PP + 38 ∧ v4 a b c d = v4 a b c (d % 9223372036854775808) + 19 * k + PP * k := by
  obtain ⟨ha, hb, hc, _⟩ := h
  unfold v4 PP
  omega
theorem no_arith3 {V r0 r1 r2 r3 s0 s1 s2 s3 k : Nat} (h : In4 r0 r1 r2 r3) (h' : In4 s0 s1 s2 s3) (hV : V = v4 r0 r1 r2 r3 + PP * k) (hlt : v4 r0 r1 r2 r3 < PP + 38) (hs : v4 s0 s1 s2 s3 = v4 r0 r1 r2 r3 + 19) :
    (s3 < 9223372036854775808 → v4 r0 r1 r2 r3 = V % PP) ∧ (9223372036854775808 ≤ s3 → v4 s0 s1 s2 (s3 % 9223372036854775808) = V % PP) := by
  obtain ⟨a1, a2, a3, a4⟩ := h
  obtain ⟨b1, b2, b3, b4⟩ := h'
  refine ⟨fun h => ?_, fun h => ?_⟩
  · rw [hV, Nat.add_mul_mod_self_left, Nat.mod_eq_of_lt]
    unfold v4 PP at *
    omega
  · rw [hV, Nat.add_mul_mod_self_left]
    have hm : s3 = s3 % 9223372036854775808 + 9223372036854775808 := by omega
    have : v4 r0 r1 r2 r3 = v4 s0 s1 s2 (s3 % 9223372036854775808) + PP * 1 := by
      clear hV
      generalize s3 % 9223372036854775808 = t at *
      unfold v4 PP at *
      omega
    have hl : v4 s0 s1 s2 (s3 % 9223372036854775808) < PP := by
      clear hV hs h
      have h3 : PP * 1 = PP := Nat.mul_one _
      have h4 : 38 < PP := by decide
      omega
    rw [this, Nat.add_mul_mod_self_left, Nat.mod_eq_of_lt hl]

theorem wpList_gtr {P : Program} {w : World} {ops : Array Oper} {rest : List Oper} {o : Oper} {a : Act} {Q : Exit → Act → World → Prop} (hgd : o.guard = none) (t t' : TypeId) (x y : Operand)
    (ho : o.op = .binOp .gtr t x y t') {k : IntKind} (m n : Int) (hx : a.eval x = .int k m) (hy : a.eval y = .int k n) {b : Bool} (hb : decide (m > n) = b)
    (h : wpList P ops Q rest (a.put o.dst (.bool b)) w) : wpList P ops Q (o :: rest) a w := by
  subst hb
  refine wpList_plain hgd fun K hK => ?_
  unfold Oper.wp execOp
  simp only [ho, hx, hy, eqGuard, binOp, Op.intCmp, ne_eq, not_true_eq_false, ite_false, if_false, Sem.run_bind, Sem.run_pure, Result.andThen_ok]
  exact hK _ _ h

set_option maxRecDepth 100000 in
set_option maxHeartbeats 1000000 in
theorem norm_any {a b c d : Nat} (h : In4 a b c d) (w : World) :
    Calls Try.prog 24 #[.agg #[.int .u64 (a : Int), .int .u64 (b : Int), .int .u64 (c : Int), .int .u64 (d : Int)]] w (El (v4 a b c d % PP) w) := by
  by_cases hd : d < 9223372036854775807
  · obtain ⟨V, hV⟩ : ∃ V, v4 a b c d % PP = V := ⟨_, rfl⟩
    have HV := Lib.hid ((Nat.mod_eq_of_lt (no_arith1 h hd)).symm.trans hV)
    rw [hV]; clear hV
    have ht : decide ((d : Int) < 9223372036854775807) = true := decide_eq_true (by omega)
    clear hd
    go_enter Try.func24, Try.ntmps24
    go_wp2_with fail
    refine bodyPost_ret (v := .agg #[.int .u64 (a : Int), .int .u64 (b : Int), .int .u64 (c : Int), .int .u64 (d : Int)]) (by simp [results, Try.results24, go_sem]) rfl ⟨a, b, c, d, rfl, ?_, h, HV.out⟩
    exact (((Below.refl _ _).alloc (Nat.le_refl _) _).alloc (by simp) _)
  · have CP := Lib.hid (fun W => fold_any (n := 0) h (by omega) W)
    obtain ⟨k, hk⟩ : ∃ k : Nat, d / 9223372036854775808 = k := ⟨_, rfl⟩
    have HA := Lib.hid (no_arith2 h hk)
    obtain ⟨V, hV⟩ : ∃ V, v4 a b c d % PP = V := ⟨_, rfl⟩
    obtain ⟨m, hm⟩ : ∃ m, d % 9223372036854775808 = m := ⟨_, rfl⟩
    rw [hV]
    rw [hm] at CP HA
    simp only [Nat.mul_zero, Nat.zero_add, Int.natCast_zero] at CP
    have HVV := Lib.hid hV
    have HM := Lib.hid hm
    clear hV hm
    have ht : decide ((d : Int) < 9223372036854775807) = false := decide_eq_false (by omega)
    clear hd
    rw [hk] at CP
    have HK := Lib.hid hk
    clear hk
    go_enter Try.func24, Try.ntmps24
    go_wp2_with fail
    with_reducible refine (CP.out _).mono ?_
    rintro e w2 ⟨r0, r1, r2, r3, rfl, hb, hin, hv⟩
    have HV := Lib.hid hv
    have HB := Lib.hid hb
    obtain ⟨hc, hf⟩ := bcell hb
    clear hv hb CP
    have CW := Lib.hid (fun W => plusWord_any (n := 19) hin (by omega) (by rw [HV.out]; exact Nat.lt_of_lt_of_le (Nat.add_lt_add_right HA.out.1 19) (by decide)) W)
    simp only [show ((19 : Nat) : Int) = 19 from rfl] at CW
    go_wp2_with fail
    with_reducible refine (CW.out _).mono ?_
    rintro e w3 ⟨s0, s1, s2, s3, rfl, hb2, hin2, hv2⟩
    have HV2 := Lib.hid hv2
    have HB2 := Lib.hid hb2
    obtain ⟨hc2, hf2⟩ := bcell hb2
    have HN := Lib.hid (no_arith3 (V := v4 a b c d) (k := k) hin hin2 (by rw [HV.out]; exact HA.out.2) (by rw [HV.out]; exact HA.out.1) hv2)
    clear hv2 hb2 CW
    have z1 : w.heap.size + 1 < w2.heap.size := by have := HB.out.size; simp at this; omega
    have z2 : w2.heap.size < w3.heap.size := by have := HB2.out.size; simp at this; omega
    have z3 : w.heap.size + 1 < w3.heap.size := by omega
    have z4 : w.heap.size < w2.heap.size := by omega
    have z5 : w.heap.size < w3.heap.size := by omega
    by_cases ho : s3 < 9223372036854775808
    · have ht : decide ((s3 : Int) > 9223372036854775807) = false := decide_eq_false (by omega)
      have HO := Lib.hid ho
      clear ho
      go_wp2_with fail
      refine bodyPost_ret (v := .agg #[.int .u64 (r0 : Int), .int .u64 (r1 : Int), .int .u64 (r2 : Int), .int .u64 (r3 : Int)]) (by simp [results, Try.results24, go_sem, hc, hf, hc2, hf2, z1, z2, z3, z4, z5]) rfl ⟨r0, r1, r2, r3, rfl, ?_, hin, (HN.out.1 HO.out).trans HVV.out⟩
      have hB := HB.out
      have hB2 := HB2.out
      clear hc hf hc2 hf2
      simp only [World.size_alloc] at hB hB2
      exact (set4_below (((((Below.refl w.heap.size w).alloc (Nat.le_refl _) _).alloc (by simp) _).trans (hB.mono (by omega))).alloc (by omega) _ |>.trans (hB2.mono (by omega))) (g := w.heap.size + 1) (by omega) _ _ _ _).alloc (by simp; omega) _
    · obtain ⟨t, ht⟩ : ∃ t, s3 % 9223372036854775808 = t := ⟨_, rfl⟩
      have hand : bits .and .u64 (s3 : Int) 9223372036854775807 = (t : Int) := by rw [mask63 s3 hin2.d, ht]
      have HN2 := Lib.hid (HN.out.2 (by omega))
      have hin3 : In4 s0 s1 s2 t := ⟨hin2.a, hin2.b, hin2.c, by omega⟩
      rw [ht] at HN2
      have ht2 : decide ((9223372036854775807 : Int) < (s3 : Int)) = true := decide_eq_true (by omega)
      clear ho ht HN
      go_wp2_with fail
      refine bodyPost_ret (v := .agg #[.int .u64 (s0 : Int), .int .u64 (s1 : Int), .int .u64 (s2 : Int), .int .u64 (t : Int)]) (by simp [results, Try.results24, go_sem, hc, hf, hc2, hf2, z1, z2, z3, z4, z5]) rfl ⟨s0, s1, s2, t, rfl, ?_, hin3, HN2.out.trans HVV.out⟩
      have hB := HB.out
      have hB2 := HB2.out
      clear hc hf hc2 hf2
      simp only [World.size_alloc] at hB hB2
      exact (set4_below (((((Below.refl w.heap.size w).alloc (Nat.le_refl _) _).alloc (by simp) _).trans (hB.mono (by omega))).alloc (by omega) _ |>.trans (hB2.mono (by omega))) (g := w.heap.size + 1) (by omega) _ _ _ _).alloc (by simp; omega) _
end Go.Proofs.Ytgkglielcbgpiaa
