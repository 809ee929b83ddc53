/- The reference's Read. -/
import Derived.Test.YtgkglielcbgpiaaL00
import Derived.Test.YtgkglielcbgpiaaRefGetB
namespace Go.Proofs.Ytgkglielcbgpiaa
open Go.RowKit

theorem numL_byte : ∀ (l : List UInt8) (a : Nat), numL l / 256 ^ a % 256 = (l.getD a 0).toNat
  | [], a => by simp [numL]
  | x :: l, 0 => by
    have := x.toNat_lt
    rw [Nat.pow_zero, Nat.div_one, numL, Nat.add_mul_mod_self_left, Nat.mod_eq_of_lt this]
    rfl
  | x :: l, a + 1 => by
    have h0 : x.toNat / 256 = 0 := Nat.div_eq_of_lt x.toNat_lt
    rw [numL, Nat.pow_succ, Nat.mul_comm (256 ^ a), ← Nat.div_div_eq_div_mul, Nat.add_mul_div_left _ _ (by decide), h0, Nat.zero_add]
    exact numL_byte l a
theorem getP_num (l : List UInt8) (a : Nat) : ∀ k, numL l / 256 ^ a % 256 ^ k = getP 1 4 l a k
  | 0 => by rw [Nat.pow_zero, Nat.mod_one]; rfl
  | k + 1 => by
    rw [getP, idx_little 4 k, Nat.pow_succ, Nat.mod_mul, getP_num l a k, Nat.div_div_eq_div_mul, ← Nat.pow_add, numL_byte, Nat.mul_comm]
theorem getP_dig (l : List UInt8) (i : Nat) : getP 1 4 l (4 * i) 4 = dig (numL l) i := by
  rw [← getP_num, dig]
  have e : (4294967296 : Nat) = 256 ^ 4 := rfl
  rw [e, ← Nat.pow_mul]
theorem numL_lt32 {l : List UInt8} (h : l.length = 32) : numL l < W4 := by
  have h2 := numL_lt l
  rw [h] at h2
  exact h2
/-- without the highest bit -/
def cutN (M : Nat) : Nat := M % 57896044618658097711785492504343953926634992332820282019728792003956564819968
theorem cutN_lt (M : Nat) : cutN M < W4 := by
  unfold cutN W4
  omega
theorem cut_dig (M i : Nat) (hi : i < 8) : upd (dig M) 7 (dig M 7 % 2147483648) i = dig (cutN M) i := by
  have e : (57896044618658097711785492504343953926634992332820282019728792003956564819968 : Nat) = 2 ^ 255 := by decide
  have e2 : (4294967296 : Nat) = 2 ^ 32 := rfl
  have e3 : (2147483648 : Nat) = 2 ^ 31 := rfl
  unfold upd cutN dig
  rw [e, e2, e3]
  by_cases h : i = 7
  · subst h
    have e4 : (2 : Nat) ^ 255 = (2 ^ 32) ^ 7 * 2 ^ 31 := by rw [← Nat.pow_mul, ← Nat.pow_add]
    have hlt : M / (2 ^ 32) ^ 7 % 2 ^ 31 < 2 ^ 32 := Nat.lt_trans (Nat.mod_lt _ (by decide)) (by decide)
    rw [if_pos rfl, e4, Nat.mod_mul_right_div_self, Nat.mod_mod_of_dvd _ (Nat.pow_dvd_pow 2 (by omega)), Nat.mod_eq_of_lt hlt]
  · rw [if_neg h]
    have e4 : (2 : Nat) ^ 255 = (2 ^ 32) ^ i * 2 ^ (255 - 32 * i) := by
      rw [← Nat.pow_mul, ← Nat.pow_add]
      congr 1
      omega
    rw [e4, Nat.mod_mul_right_div_self, Nat.mod_mod_of_dvd _ (Nat.pow_dvd_pow 2 (by omega))]

set_option maxRecDepth 100000 in
set_option maxHeartbeats 4000000 in
theorem rread_no {l : List UInt8} {v : Value} {w : World} (hb : Bs w w.heap.size v l) (hl : l.length ≠ 32) : Calls Try.prog 61 #[v] w fun e w' => e = .returned (.tuple #[.agg #[.int .u32 (dig (0) 0 : Int), .int .u32 (dig (0) 1 : Int), .int .u32 (dig (0) 2 : Int), .int .u32 (dig (0) 3 : Int), .int .u32 (dig (0) 4 : Int), .int .u32 (dig (0) 5 : Int), .int .u32 (dig (0) 6 : Int), .int .u32 (dig (0) 7 : Int)], .int .i64 2]) ∧ Below w.heap.size w w' := by
  obtain ⟨A, c, rfl, h1, h2, h3⟩ := hb
  unfold maxLen at h2
  have ht : ((l.length : Int) != 32) = true := by simp; omega
  clear h3 hl
  go_enter Try.func61, Try.ntmps61
  go_wp2_with fail
  refine bodyPost_ret (v := .tuple #[.agg #[.int .u32 (dig (0) 0 : Int), .int .u32 (dig (0) 1 : Int), .int .u32 (dig (0) 2 : Int), .int .u32 (dig (0) 3 : Int), .int .u32 (dig (0) 4 : Int), .int .u32 (dig (0) 5 : Int), .int .u32 (dig (0) 6 : Int), .int .u32 (dig (0) 7 : Int)], .int .i64 2]) (by simp [results, Try.results61, go_sem, dig]) rfl ⟨rfl, ?_⟩
  exact (Below.refl _ _).alloc (Nat.le_refl _) _

set_option maxRecDepth 100000 in
set_option maxHeartbeats 4000000 in
theorem rread_ok {l : List UInt8} {v : Value} {w : World} (hb : Bs w w.heap.size v l) (hl : l.length = 32) : Calls Try.prog 61 #[v] w fun e w' => e = .returned (.tuple #[.agg #[.int .u32 (dig (cutN (numL l) % PP) 0 : Int), .int .u32 (dig (cutN (numL l) % PP) 1 : Int), .int .u32 (dig (cutN (numL l) % PP) 2 : Int), .int .u32 (dig (cutN (numL l) % PP) 3 : Int), .int .u32 (dig (cutN (numL l) % PP) 4 : Int), .int .u32 (dig (cutN (numL l) % PP) 5 : Int), .int .u32 (dig (cutN (numL l) % PP) 6 : Int), .int .u32 (dig (cutN (numL l) % PP) 7 : Int)], .int .i64 0]) ∧ Below w.heap.size w w' := by
  have hbs := hb
  obtain ⟨A, c, rfl, h1, h2, h3⟩ := hb
  have HBS := Lib.hid hbs
  have CN := Lib.hid (fun W => rnormE (cutN_lt (numL l)) W)
  obtain ⟨N, hN⟩ : ∃ N, N = cutN (numL l) % PP := ⟨_, rfl⟩
  rw [← hN] at CN ⊢
  rw [hl] at h1 ⊢
  have HL := Lib.hid hl
  clear h3 hbs hl hN
  go_enter Try.func61, Try.ntmps61
  go_wp2_with fail
  have hZ : E8z ((w.alloc (.cells #[.int .u32 0, .int .u32 0, .int .u32 0, .int .u32 0, .int .u32 0, .int .u32 0, .int .u32 0, .int .u32 0] 34)).alloc (.cells #[.int .u32 0, .int .u32 0, .int .u32 0, .int .u32 0, .int .u32 0, .int .u32 0, .int .u32 0, .int .u32 0] 34)) w.heap.size := (E8z.new w).below ((Below.refl _ _).alloc (Nat.le_refl _) _) (by simp)
  have hR : Rw ((w.alloc (.cells #[.int .u32 0, .int .u32 0, .int .u32 0, .int .u32 0, .int .u32 0, .int .u32 0, .int .u32 0, .int .u32 0] 34)).alloc (.cells #[.int .u32 0, .int .u32 0, .int .u32 0, .int .u32 0, .int .u32 0, .int .u32 0, .int .u32 0, .int .u32 0] 34)) (w.heap.size + 1) 34 .u32 8 (preD (numL l) 0) := by
    have h := Rw.new (w.alloc (.cells #[.int .u32 0, .int .u32 0, .int .u32 0, .int .u32 0, .int .u32 0, .int .u32 0, .int .u32 0, .int .u32 0] 34)) 34 .u32 8 (preD (numL l) 0) (cs := #[.int .u32 0, .int .u32 0, .int .u32 0, .int .u32 0, .int .u32 0, .int .u32 0, .int .u32 0, .int .u32 0]) rfl
    simpa using h
  have hBe : Below w.heap.size w ((w.alloc (.cells #[.int .u32 0, .int .u32 0, .int .u32 0, .int .u32 0, .int .u32 0, .int .u32 0, .int .u32 0, .int .u32 0] 34)).alloc (.cells #[.int .u32 0, .int .u32 0, .int .u32 0, .int .u32 0, .int .u32 0, .int .u32 0, .int .u32 0, .int .u32 0] 34)) := ((Below.refl _ _).alloc (Nat.le_refl _) _).alloc (by simp) _
  have HZ := Lib.hid hZ; have HR := Lib.hid hR; have HBe := Lib.hid hBe
  clear hZ hR hBe
  go_loopw [5] (fun i wr => ∃ k : Nat, k ≤ 8 ∧ i = .int .i64 k ∧ Hid (Below w.heap.size w wr) ∧ Hid (E8z wr w.heap.size) ∧ Hid (Rw wr (w.heap.size + 1) 34 .u32 8 (preD (numL l) k))) (fun i _ => 8 - (intOf i).toNat)
  case atStart => exact ⟨0, by omega, rfl, HBe, HZ, HR⟩
  case round =>
    clear HBe HZ HR
    obtain ⟨k, hk, rfl, hbe, hz, hr⟩ := hrel
    have k0 : (0 : Int) ≤ (k : Int) := Int.natCast_nonneg _
    by_cases h8 : k < 8
    · have k8 : (k : Int) < 8 := by omega
      have q0 := hr.out.cell (j := k) h8
      have qf := hr.out.frozen (j := k)
      have CG := Lib.hid (refget_little (K := 4) (a := 4 * k) (w := wr) (by omega) (by omega) (HBS.out.below hbe.out (Nat.le_refl _)) (by rw [HL.out]; omega))
      rw [getP_dig] at CG
      have e4 : ((4 * k : Nat) : Int) = 4 * (k : Int) := by omega
      rw [e4, HL.out, show ((4 : Nat) : Int) = 4 from rfl] at CG
      have HST := Lib.hid ((hr.out.set k (dig (numL l) k)).ext fun i _ => upd_pre (numL l) k i)
      have b0 := dig_lt (numL l) k
      obtain ⟨x, hx⟩ : ∃ x, x = dig (numL l) k := ⟨_, rfl⟩
      rw [← hx] at CG HST b0
      clear hx e4
      go_wp2_with fail
      with_reducible refine (CG.out).mono ?_
      rintro e w2 ⟨rfl, rfl⟩
      go_wp2_with fail
      go_roundw
      case rel => exact ⟨k + 1, by omega, by go_num, Lib.hid (hbe.out.setCell (by show _ ≤ _; simp only; omega) _), Lib.hid (hz.out.one (by omega)), HST⟩
      case measure => simp [intOf]; omega
    · obtain rfl : k = 8 := by omega
      have hr2 : Rw wr (w.heap.size + 1) 34 .u32 8 (dig (numL l)) := hr.out.ext fun i hi => if_pos hi
      have q7 := hr2.cell (j := 7) (by omega)
      have qf := hr2.frozen (j := 7)
      have hcd : ∀ i, i < 7 → dig (numL l) i = dig (cutN (numL l)) i := fun i hi => by
        have := cut_dig (numL l) i (by omega)
        unfold upd at this
        rw [if_neg (by omega)] at this
        exact this
      have hc7 : dig (numL l) 7 % 2147483648 = dig (cutN (numL l)) 7 := by
        have := cut_dig (numL l) 7 (by omega)
        unfold upd at this
        rw [if_pos rfl] at this
        exact this
      have hm : ((dig (numL l) 7 : Int) % 2147483648) = (dig (cutN (numL l)) 7 : Int) := by
        rw [← hc7]
        omega
      have HM := Lib.hid hm
      have b7 := dig_lt (numL l) 7
      have c0 := hr2.cell (j := 0) (by omega)
      have c1 := hr2.cell (j := 1) (by omega)
      have c2 := hr2.cell (j := 2) (by omega)
      have c3 := hr2.cell (j := 3) (by omega)
      have c4 := hr2.cell (j := 4) (by omega)
      have c5 := hr2.cell (j := 5) (by omega)
      have c6 := hr2.cell (j := 6) (by omega)
      rw [hcd 0 (by omega)] at c0
      rw [hcd 1 (by omega)] at c1
      rw [hcd 2 (by omega)] at c2
      rw [hcd 3 (by omega)] at c3
      rw [hcd 4 (by omega)] at c4
      rw [hcd 5 (by omega)] at c5
      rw [hcd 6 (by omega)] at c6
      obtain ⟨x7, hx7⟩ : ∃ x, x = dig (numL l) 7 := ⟨_, rfl⟩
      rw [← hx7] at q7 HM b7
      obtain ⟨M, hM⟩ : ∃ M, M = cutN (numL l) := ⟨_, rfl⟩
      rw [← hM] at c0 c1 c2 c3 c4 c5 c6 HM CN
      have x1 : w.heap.size + 1 < wr.heap.size := hr2.lt
      have x0 : w.heap.size < wr.heap.size := by omega
      have HR2 := Lib.hid hr2
      clear hr2 hm hx7 hM hcd hc7
      rw [show ((8 : Nat) : Int) = 8 from rfl]
      go_wp2_with fail
      rw [HM.out]
      have hz2 := hz.out.one (g := w.heap.size + 1) (k := 7) (v := .int .u32 (dig M 7 : Int)) (by omega)
      have hb2 : Below w.heap.size w (wr.setCell ⟨w.heap.size + 1, 7, none⟩ (.int .u32 (dig M 7 : Int))) := hbe.out.setCell (by show _ ≤ _; simp only; omega) _
      obtain ⟨W2, hW2⟩ : ∃ W2, W2 = wr.setCell ⟨w.heap.size + 1, 7, none⟩ (.int .u32 (dig M 7 : Int)) := ⟨_, rfl⟩
      have hs2 : wr.heap.size = W2.heap.size := by rw [hW2]; simp
      rw [← hW2] at hz2 hb2 ⊢
      rw [hs2] at x1 x0
      have HZ2 := Lib.hid hz2; have HB2 := Lib.hid hb2
      clear hz2 hb2 hW2 hs2 c0 c1 c2 c3 c4 c5 c6 q7 qf
      with_reducible refine (CN.out _).mono ?_
      rintro e w3 ⟨rfl, hb3⟩
      have B3 := Lib.hid hb3
      obtain ⟨hc3, hf3⟩ := bcell hb3
      have zz3 := hb3.size
      try simp only [World.size_alloc] at zz3
      have z3_0 : w.heap.size + 1 < w3.heap.size := by omega
      have z3_1 : w.heap.size < w3.heap.size := by omega
      clear hb3 zz3
      clear hc3 hf3
      obtain ⟨d0, d1, d2, d3, d4, d5, d6, d7, k0, k1, k2, k3, k4, k5, k6, k7⟩ := HZ2.out.below B3.out x0
      go_wp2_with fail
      refine bodyPost_ret (v := .tuple #[.agg #[.int .u32 (dig (N) 0 : Int), .int .u32 (dig (N) 1 : Int), .int .u32 (dig (N) 2 : Int), .int .u32 (dig (N) 3 : Int), .int .u32 (dig (N) 4 : Int), .int .u32 (dig (N) 5 : Int), .int .u32 (dig (N) 6 : Int), .int .u32 (dig (N) 7 : Int)], .int .i64 0]) (by simp [results, Try.results61, go_sem, *]) rfl ⟨rfl, ?_⟩
      exact set8_below (HB2.out.trans (B3.out.mono (by omega))) (g := w.heap.size) (by omega) N
end Go.Proofs.Ytgkglielcbgpiaa
