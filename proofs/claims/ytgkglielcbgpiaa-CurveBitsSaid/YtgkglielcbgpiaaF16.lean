/- field's Read. -/
import Derived.Test.YtgkglielcbgpiaaR13
namespace Go.Proofs.Ytgkglielcbgpiaa
open Go.RowKit

set_option maxRecDepth 100000 in
set_option maxHeartbeats 4000000 in
theorem fread_no {l : List UInt8} {v : Value} {w : World} (hb : Bs w w.heap.size v l) (hl : l.length ≠ 32) : Calls Try.prog 59 #[v] w fun e w' => e = .returned (.tuple #[.agg #[.int .u64 (l0 (0) : Int), .int .u64 (l1 (0) : Int), .int .u64 (l2 (0) : Int), .int .u64 (l3 (0) : Int)], .int .i64 2]) ∧ Below w.heap.size w w' := by
  obtain ⟨A, c, rfl, h1, h2, h3⟩ := hb
  unfold maxLen at h2
  have ht : ((l.length : Int) != 32) = true := by simp; omega
  clear h3 hl
  go_enter Try.func59, Try.ntmps59
  go_wp2_with fail
  refine bodyPost_ret (v := .tuple #[.agg #[.int .u64 (l0 (0) : Int), .int .u64 (l1 (0) : Int), .int .u64 (l2 (0) : Int), .int .u64 (l3 (0) : Int)], .int .i64 2]) (by simp [results, Try.results59, go_sem, l0, l1, l2, l3]) rfl ⟨rfl, ?_⟩
  exact (Below.refl _ _).alloc (Nat.le_refl _) _

theorem p256 (k : Nat) : 256 ^ k = 18446744073709551616 ^ (k / 8) * 2 ^ (8 * (k % 8)) := by
  have e : (18446744073709551616 : Nat) = 2 ^ 64 := rfl
  have e2 : (256 : Nat) = 2 ^ 8 := rfl
  rw [e, e2, ← Nat.pow_mul, ← Nat.pow_mul, ← Nat.pow_add]
  congr 1; omega
theorem limb_orN {M k b : Nat} (hM : M < 256 ^ k) (hb : b < 256) :
    limb M (k / 8) ||| b * 2 ^ (8 * (k % 8)) = limb (M + b * 256 ^ k) (k / 8) ∧ b * 2 ^ (8 * (k % 8)) < 18446744073709551616 := by
  rw [p256] at hM ⊢
  have hr : 8 * (k % 8) ≤ 56 := by omega
  obtain ⟨r, hre⟩ : ∃ r, r = 8 * (k % 8) := ⟨_, rfl⟩
  rw [← hre] at hM hr ⊢
  unfold limb
  obtain ⟨P, hP⟩ : ∃ P, P = 18446744073709551616 ^ (k / 8) := ⟨_, rfl⟩
  have hP0 : 0 < P := by rw [hP]; exact Nat.pow_pos (by decide)
  rw [← hP] at hM ⊢
  have hm : M / P < 2 ^ r := Nat.div_lt_of_lt_mul hM
  have h56 : 2 ^ r ≤ 2 ^ 56 := Nat.pow_le_pow_right (by decide) hr
  have hpos : 0 < 2 ^ r := Nat.pow_pos (by decide)
  have hbr : b * 2 ^ r + 2 ^ r ≤ 18446744073709551616 := by
    have : (b + 1) * 2 ^ r ≤ 256 * 2 ^ 56 := Nat.mul_le_mul (by omega) h56
    rw [Nat.add_mul, Nat.one_mul] at this
    exact this
  have e : M + b * (P * 2 ^ r) = M + P * (b * 2 ^ r) := by rw [Nat.mul_left_comm]
  refine ⟨?_, by omega⟩
  rw [e, Nat.add_mul_div_left _ _ hP0, Nat.mod_eq_of_lt (show M / P < 18446744073709551616 by omega), Nat.mod_eq_of_lt (show M / P + b * 2 ^ r < 18446744073709551616 by omega), Nat.or_comm, Nat.mul_comm b,
    ← Nat.two_pow_add_eq_or_of_lt hm b, Nat.add_comm]
theorem limb_same {M k b j : Nat} (hM : M < 256 ^ k) (hb : b < 256) (hj : j ≠ k / 8) : limb (M + b * 256 ^ k) j = limb M j := by
  unfold limb
  have hr : 8 * (k % 8) ≤ 56 := by omega
  rcases Nat.lt_or_gt_of_ne hj with h | h
  · have e : 18446744073709551616 ^ (k / 8) = 18446744073709551616 ^ j * (18446744073709551616 * 18446744073709551616 ^ (k / 8 - j - 1)) := by
      rw [← Nat.pow_succ', ← Nat.pow_add]
      congr 1; omega
    have e2 : M + b * 256 ^ k = M + 18446744073709551616 ^ j * (18446744073709551616 * (18446744073709551616 ^ (k / 8 - j - 1) * (b * 2 ^ (8 * (k % 8))))) := by
      rw [p256, e]
      congr 1
      simp only [Nat.mul_assoc, Nat.mul_left_comm b]
    rw [e2, Nat.add_mul_div_left _ _ (Nat.pow_pos (by decide)), Nat.add_mul_mod_self_left]
  · have h1 : M + b * 256 ^ k < 256 ^ (k + 1) := by
      have : (b + 1) * 256 ^ k ≤ 256 * 256 ^ k := Nat.mul_le_mul_right _ (by omega)
      rw [Nat.add_mul, Nat.one_mul] at this
      rw [Nat.pow_succ, Nat.mul_comm _ 256]
      omega
    have h2 : 256 ^ (k + 1) ≤ 18446744073709551616 ^ j := by
      have e : (18446744073709551616 : Nat) = 256 ^ 8 := rfl
      rw [e, ← Nat.pow_mul]
      exact Nat.pow_le_pow_right (by decide) (by omega)
    have h3 : M < 18446744073709551616 ^ j := by omega
    rw [Nat.div_eq_of_lt h3, Nat.div_eq_of_lt (by omega)]
theorem limb_or {M k b : Nat} (hM : M < 256 ^ k) (hb : b < 256) :
    bits .or .u64 (limb M (k / 8) : Int) ((b : Int) * 2 ^ (8 * (k % 8))) = (limb (M + b * 256 ^ k) (k / 8) : Int) ∧ (b : Int) * 2 ^ (8 * (k % 8)) < 18446744073709551616 := by
  obtain ⟨h1, h2⟩ := limb_orN hM hb
  have e : (b : Int) * 2 ^ (8 * (k % 8)) = ((b * 2 ^ (8 * (k % 8)) : Nat) : Int) := by
    rw [Int.natCast_mul, Int.natCast_pow]
    rfl
  rw [e]
  refine ⟨?_, by omega⟩
  rw [← h1]
  exact bits_or_u64_nat _ _ (Nat.mod_lt _ (by decide)) h2
theorem numL_snoc : ∀ (l : List UInt8) (x : UInt8), numL (l ++ [x]) = numL l + x.toNat * 256 ^ l.length
  | [], x => by simp [numL]
  | y :: l, x => by
    rw [List.cons_append, numL, numL_snoc l x, numL, List.length_cons, Nat.pow_succ, Nat.mul_add, Nat.add_assoc, Nat.mul_left_comm, Nat.mul_comm 256 (256 ^ _)]
theorem numL_take {l : List UInt8} {k : Nat} (hk : k < l.length) : numL (l.take (k + 1)) = numL (l.take k) + (l.getD k 0).toNat * 256 ^ k := by
  rw [List.take_succ_eq_append_getElem hk, numL_snoc, List.length_take, Nat.min_eq_left (by omega)]
  simp [hk]
theorem numL_takelt {l : List UInt8} {k : Nat} (hk : k ≤ l.length) : numL (l.take k) < 256 ^ k := by
  have h := numL_lt (l.take k)
  rw [List.length_take, Nat.min_eq_left hk, Nat.pow_mul] at h
  exact h
theorem limb_step {l : List UInt8} {k : Nat} (hk : k < l.length) (i : Nat) : upd (limb (numL (l.take k))) (k / 8) (limb (numL (l.take (k + 1))) (k / 8)) i = limb (numL (l.take (k + 1))) i := by
  unfold upd
  by_cases h : i = k / 8
  · subst h; rw [if_pos rfl]
  · rw [if_neg h, numL_take hk, limb_same (numL_takelt (by omega)) (UInt8.toNat_lt _) h]

theorem cut_limb (V j : Nat) (hj : j < 3) : limb (cutN V) j = limb V j := by
  have e : (57896044618658097711785492504343953926634992332820282019728792003956564819968 : Nat) = 2 ^ 255 := by decide
  have e2 : (18446744073709551616 : Nat) = 2 ^ 64 := rfl
  unfold cutN limb
  have e4 : (2 : Nat) ^ 255 = (2 ^ 64) ^ j * 2 ^ (255 - 64 * j) := by
    rw [← Nat.pow_mul, ← Nat.pow_add]
    congr 1
    omega
  rw [e, e2, e4, Nat.mod_mul_right_div_self, Nat.mod_mod_of_dvd _ (Nat.pow_dvd_pow 2 (by omega))]
theorem cut_limb3 (V : Nat) : limb (cutN V) 3 = limb V 3 % 9223372036854775808 := by
  have e : (57896044618658097711785492504343953926634992332820282019728792003956564819968 : Nat) = 2 ^ 255 := by decide
  have e2 : (18446744073709551616 : Nat) = 2 ^ 64 := rfl
  have e3 : (9223372036854775808 : Nat) = 2 ^ 63 := rfl
  unfold cutN limb
  have e4 : (2 : Nat) ^ 255 = (2 ^ 64) ^ 3 * 2 ^ 63 := by rw [← Nat.pow_mul, ← Nat.pow_add]
  have hlt : V / (2 ^ 64) ^ 3 % 2 ^ 63 < 2 ^ 64 := Nat.lt_trans (Nat.mod_lt _ (by decide)) (by decide)
  rw [e, e2, e3, e4, Nat.mod_mul_right_div_self, Nat.mod_eq_of_lt hlt, Nat.mod_mod_of_dvd _ (Nat.pow_dvd_pow 2 (by omega))]

theorem Ez.one {w : World} {g h k : Nat} {v : Value} (e : Ez w h) (hn : h ≠ g) : Ez (w.setCell ⟨g, k, none⟩ v) h :=
  ⟨(World.cell?_setCell_far w ⟨g, k, none⟩ ⟨h, 0, none⟩ v (fun x => hn x.symm)).trans e.c0, (World.cell?_setCell_far w ⟨g, k, none⟩ ⟨h, 1, none⟩ v (fun x => hn x.symm)).trans e.c1, (World.cell?_setCell_far w ⟨g, k, none⟩ ⟨h, 2, none⟩ v (fun x => hn x.symm)).trans e.c2, (World.cell?_setCell_far w ⟨g, k, none⟩ ⟨h, 3, none⟩ v (fun x => hn x.symm)).trans e.c3,
   (World.frozen?_setCell ..).trans e.f0, (World.frozen?_setCell ..).trans e.f1, (World.frozen?_setCell ..).trans e.f2, (World.frozen?_setCell ..).trans e.f3⟩
theorem Ez.drew {w : World} {g : Nat} (e : Ez w g) : Ez w.drew g := ⟨e.c0, e.c1, e.c2, e.c3, e.f0, e.f1, e.f2, e.f3⟩

set_option maxRecDepth 100000 in
set_option maxHeartbeats 4000000 in
theorem fread_ok {l : List UInt8} {v : Value} {w : World} (hb : Bs w w.heap.size v l) (hl : l.length = 32) : Calls Try.prog 59 #[v] w fun e w' => e = .returned (.tuple #[.agg #[.int .u64 (l0 (cutN (numL l) % PP) : Int), .int .u64 (l1 (cutN (numL l) % PP) : Int), .int .u64 (l2 (cutN (numL l) % PP) : Int), .int .u64 (l3 (cutN (numL l) % PP) : Int)], .int .i64 0]) ∧ Below w.heap.size w w' := by
  have hbs := hb
  obtain ⟨A, c, rfl, h1, h2, h3⟩ := hb
  obtain ⟨b, off, rfl, hbl, hcell⟩ := h3 (by omega)
  have HBS := Lib.hid hbs
  have CN := Lib.hid (fun W => normE (cutN_lt (numL l)) W)
  obtain ⟨N, hN⟩ : ∃ N, N = cutN (numL l) % PP := ⟨_, rfl⟩
  rw [← hN] at CN ⊢
  rw [hl] at h1 ⊢
  have HL := Lib.hid hl; have HC := Lib.hid hcell
  clear h3 hbs hl hN hcell
  go_enter Try.func59, Try.ntmps59
  go_wp2_with fail
  have hZ : Ez ((w.alloc (.cells #[.int .u64 0, .int .u64 0, .int .u64 0, .int .u64 0] 26)).alloc (.cells #[.int .u64 0, .int .u64 0, .int .u64 0, .int .u64 0] 26)) w.heap.size := by constructor <;> simp [go_sem]
  have hR : Rw ((w.alloc (.cells #[.int .u64 0, .int .u64 0, .int .u64 0, .int .u64 0] 26)).alloc (.cells #[.int .u64 0, .int .u64 0, .int .u64 0, .int .u64 0] 26)) (w.heap.size + 1) 26 .u64 4 (limb (numL (l.take 0))) := by
    have h := Rw.new (w.alloc (.cells #[.int .u64 0, .int .u64 0, .int .u64 0, .int .u64 0] 26)) 26 .u64 4 (fun _ => 0) (cs := #[.int .u64 0, .int .u64 0, .int .u64 0, .int .u64 0]) rfl
    have h2 := h.ext (f' := limb (numL (l.take 0))) (fun i _ => by simp [limb, numL])
    simpa using h2
  have hBe : Below w.heap.size w ((w.alloc (.cells #[.int .u64 0, .int .u64 0, .int .u64 0, .int .u64 0] 26)).alloc (.cells #[.int .u64 0, .int .u64 0, .int .u64 0, .int .u64 0] 26)) := ((Below.refl _ _).alloc (Nat.le_refl _) _).alloc (by simp) _
  have HZ := Lib.hid hZ; have HR := Lib.hid hR; have HBe := Lib.hid hBe
  clear hZ hR hBe
  go_loopw [13] (fun i wr => ∃ k : Nat, k ≤ 32 ∧ i = .int .i64 k ∧ Hid (Below w.heap.size w wr) ∧ Hid (Ez wr w.heap.size) ∧ Hid (Rw wr (w.heap.size + 1) 26 .u64 4 (limb (numL (l.take k))))) (fun i _ => 32 - (intOf i).toNat)
  case atStart => exact ⟨0, by omega, rfl, HBe, HZ, HR⟩
  case round =>
    clear HBe HZ HR
    obtain ⟨k, hk, rfl, hbe, hz, hr⟩ := hrel
    have k0 : (0 : Int) ≤ (k : Int) := Int.natCast_nonneg _
    by_cases h8 : k < 32
    · have k8 : (k : Int) < 32 := by omega
      have q0 := hr.out.cell (j := k / 8) (by omega)
      have qf := hr.out.frozen (j := k / 8)
      have hx : wr.cell? ⟨b, off + k, none⟩ = some (.int .u8 ((l.getD k 0).toNat : Int)) := by
        rw [hbe.out.cell (p := ⟨b, off + k, none⟩) hbl, HC.out k (by rw [HL.out]; exact h8)]
        simp [show k < l.length by rw [HL.out]; exact h8]
      obtain ⟨x, hxe⟩ : ∃ x, x = l.getD k 0 := ⟨_, rfl⟩
      rw [← hxe] at hx
      have xb := x.toNat_lt
      have HSET := Lib.hid ((hr.out.set (k / 8) (limb (numL (l.take (k + 1))) (k / 8))).ext fun i _ => limb_step (by rw [HL.out]; exact h8) i)
      obtain ⟨ho, hlt⟩ := limb_or (M := numL (l.take k)) (b := x.toNat) (numL_takelt (by rw [HL.out]; omega)) x.toNat_lt
      have hn : numL (l.take k) + x.toNat * 256 ^ k = numL (l.take (k + 1)) := by rw [hxe, ← numL_take (by rw [HL.out]; exact h8)]
      rw [hn] at ho
      have b0 : (limb (numL (l.take k)) (k / 8) : Int) < 18446744073709551616 := by have : limb (numL (l.take k)) (k / 8) < 18446744073709551616 := Nat.mod_lt _ (by decide); omega
      obtain ⟨M, hM⟩ : ∃ M, M = limb (numL (l.take k)) (k / 8) := ⟨_, rfl⟩
      obtain ⟨U, hU⟩ : ∃ U, U = limb (numL (l.take (k + 1))) (k / 8) := ⟨_, rfl⟩
      rw [← hM] at ho q0 b0
      rw [← hU] at ho HSET
      have HW := Lib.hid (show IntKind.u64.wrap ((x.toNat : Int) * 2 ^ (8 * (k % 8))) = (x.toNat : Int) * 2 ^ (8 * (k % 8)) by
        have h0 : (0 : Int) ≤ (x.toNat : Int) * 2 ^ (8 * (k % 8)) := Int.mul_nonneg (by omega) (Int.pow_nonneg (by decide))
        rw [IntKind.wrap_u64]
        omega)
      have HO := Lib.hid ho
      clear hn hxe hM hU ho
      go_wp2_with fail
      go_region
      all_goals
        rw [HW.out, HO.out]
        go_wp2
        go_roundw
        case rel =>
          refine ⟨k + 1, by omega, by go_num, Lib.hid ?_, Lib.hid ?_, Lib.hid ?_⟩
          · exact (hbe.out.setCell (by show _ ≤ _; simp only; omega) _).drew
          · exact (hz.out.one (by omega)).drew
          · exact HSET.out
        case measure => simp [intOf]; omega
    · obtain rfl : k = 32 := by omega
      have hr2 : Rw wr (w.heap.size + 1) 26 .u64 4 (limb (numL l)) := by
        have h := hr.out
        rw [List.take_of_length_le (by rw [HL.out]; exact Nat.le_refl _)] at h
        exact h
      have c0 := hr2.cell (j := 0) (by omega)
      have c1 := hr2.cell (j := 1) (by omega)
      have c2 := hr2.cell (j := 2) (by omega)
      have q7 := hr2.cell (j := 3) (by omega)
      have qf := hr2.frozen (j := 3)
      have hm : bits .and .u64 (limb (numL l) 3 : Int) 9223372036854775807 = (limb (cutN (numL l)) 3 : Int) := by
        rw [cut_limb3]; exact mask63 (limb (numL l) 3) (Nat.mod_lt _ (by decide))
      rw [← cut_limb _ 0 (by omega)] at c0
      rw [← cut_limb _ 1 (by omega)] at c1
      rw [← cut_limb _ 2 (by omega)] at c2
      obtain ⟨e0, e1, e2, e3⟩ := limbs_of (cutN (numL l))
      rw [e0] at c0
      rw [e1] at c1
      rw [e2] at c2
      rw [e3] at hm
      have b3 : (l3 (cutN (numL l)) : Int) < 18446744073709551616 := by have : l3 (cutN (numL l)) < 18446744073709551616 := Nat.mod_lt _ (by decide); omega
      have b7 : (limb (numL l) 3 : Int) < 18446744073709551616 := by have : limb (numL l) 3 < 18446744073709551616 := Nat.mod_lt _ (by decide); omega
      obtain ⟨x7, hx7⟩ : ∃ x, x = limb (numL l) 3 := ⟨_, rfl⟩
      rw [← hx7] at q7 hm b7
      obtain ⟨M, hM⟩ : ∃ M, M = cutN (numL l) := ⟨_, rfl⟩
      rw [← hM] at c0 c1 c2 hm CN b3
      have HM := Lib.hid hm
      have x1 : w.heap.size + 1 < wr.heap.size := hr2.lt
      have x0 : w.heap.size < wr.heap.size := by omega
      clear hr2 hm hx7 hM hr e0 e1 e2 e3
      go_wp2_with fail
      rw [HM.out]
      have hz2 := hz.out.one (g := w.heap.size + 1) (k := 3) (v := .int .u64 (l3 M : Int)) (by omega)
      have hb2 : Below w.heap.size w (wr.setCell ⟨w.heap.size + 1, 3, none⟩ (.int .u64 (l3 M : Int))) := hbe.out.setCell (by show _ ≤ _; simp only; omega) _
      obtain ⟨W2, hW2⟩ : ∃ W2, W2 = wr.setCell ⟨w.heap.size + 1, 3, none⟩ (.int .u64 (l3 M : Int)) := ⟨_, rfl⟩
      have hs2 : wr.heap.size = W2.heap.size := by rw [hW2]; simp
      rw [← hW2] at hz2 hb2 ⊢
      rw [hs2] at x1 x0
      have HZ2 := Lib.hid hz2; have HB2 := Lib.hid hb2
      clear hz2 hb2 hW2 hs2 c0 c1 c2 q7 qf
      with_reducible refine (CN.out _).mono ?_
      rintro e w3 ⟨rfl, hb3⟩
      have B3 := Lib.hid hb3
      obtain ⟨hc3, hf3⟩ := bcell hb3
      have zz3 := hb3.size
      try simp only [World.size_alloc] at zz3
      have z3_0 : w.heap.size + 1 < w3.heap.size := by omega
      have z3_1 : w.heap.size < w3.heap.size := by omega
      clear hb3 zz3
      clear hc3 hf3
      obtain ⟨d0, d1, d2, d3, k0, k1, k2, k3⟩ := HZ2.out.below B3.out x0
      go_wp2_with fail
      refine bodyPost_ret (v := .tuple #[.agg #[.int .u64 (l0 (N) : Int), .int .u64 (l1 (N) : Int), .int .u64 (l2 (N) : Int), .int .u64 (l3 (N) : Int)], .int .i64 0]) (by simp [results, Try.results59, go_sem, *]) rfl ⟨rfl, ?_⟩
      exact set4_below (HB2.out.trans (B3.out.mono (by omega))) (g := w.heap.size) (by omega) _ _ _ _
end Go.Proofs.Ytgkglielcbgpiaa
