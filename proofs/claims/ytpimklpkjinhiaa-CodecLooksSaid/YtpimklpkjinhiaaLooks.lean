/- Looks and Same of codec, Looks of the reference; the law CodecLooks, walked. -/
import Derived.Test.YtpimklpkjinhiaaCopy
import Derived.Laws.BitsAllLaws
namespace Go.Proofs.Ytpimklpkjinhiaa
open Go.RowKit

/-- at how many places is looked -/
def lookN (a b : List UInt8) : Int := if a.length = b.length then a.length else 0
theorem or_xor_zero {y a b : Nat} : (y ||| (a ^^^ b) = 0) ↔ (y = 0 ∧ a = b) := by
  rw [Nat.or_eq_zero_iff]
  constructor
  · rintro ⟨h1, h2⟩
    refine ⟨h1, ?_⟩
    have h3 := congrArg (· ^^^ b) h2
    simpa [Nat.xor_assoc] using h3
  · rintro ⟨h1, rfl⟩
    simp [h1]
theorem or_xor_val {y a b : Nat} (hy : y < 256) (ha : a < 256) (hb : b < 256) : bits .or .u8 (y : Int) (bits .xor .u8 (a : Int) (b : Int)) = ((y ||| (a ^^^ b) : Nat) : Int) := by
  rw [u8_xor_nat _ _ ha hb, u8_or_nat _ _ hy (Nat.xor_lt_two_pow (n := 8) ha hb)]

set_option maxHeartbeats 400000 in
theorem looks_any {a b : List UInt8} {va vb : Value} {w : World} {B1 B2 : Nat} (ha : Bs w B1 va a) (hb : Bs w B2 vb b) :
    Calls Try.prog 29 #[va, vb] w fun e w' => e = .returned (.tuple #[.bool (decide (a = b)), .int .i64 (lookN a b)]) ∧ Drew w w' := by
  obtain ⟨A, c, rfl, hac, hcm, hA⟩ := ha
  obtain ⟨A', c', rfl, hbc, hcm', hA'⟩ := hb
  by_cases hl : a.length = b.length
  · have hl1 : a.length ≤ b.length := by omega
    have hl2 : b.length ≤ a.length := by omega
    have HL := Lib.hid hl
    have hN : lookN a b = (a.length : Int) := by unfold lookN; rw [if_pos hl]
    have HN := Lib.hid hN; clear hN hl
    unfold maxLen at hcm hcm'
    have HA := Lib.hid hA; have HA' := Lib.hid hA'; clear hA hA'
    have hne : ((a.length : Int) != (b.length : Int)) = false := by rw [bne_eq_false_iff_eq]; omega
    go_enter Try.func29, Try.ntmps29
    go_wp2
    go_loopw [6, 7, 16] (fun u n i wr => ∃ k : Nat, k ≤ a.length ∧ i = .int .i64 k ∧ n = .int .i64 k ∧ ∃ y : Nat, u = .int .u8 y ∧ y < 256 ∧ Hid (y = 0 ↔ ∀ j (h1 : j < a.length) (h2 : j < b.length), j < k → a[j] = b[j]) ∧ Hid (Drew w wr)) (fun _ _ i _ => a.length - (intOf i).toNat)
    case atStart => exact ⟨0, Nat.zero_le _, rfl, rfl, 0, rfl, by omega, ⟨fun _ j _ _ h => absurd h (by omega), fun _ => rfl⟩, Drew.refl _⟩
    case round =>
      obtain ⟨k, hk, rfl, rfl, y, rfl, hy, hiff, hdr⟩ := hrel
      by_cases hlt : k < a.length
      · obtain ⟨b1, o1, rfl, _, hc1⟩ := HA.out (by omega)
        obtain ⟨b2, o2, rfl, _, hc2⟩ := HA'.out (by omega)
        have g1 := hdr.out.cell (hc1 k hlt)
        have g2 := hdr.out.cell (hc2 k (by omega))
        have HV := Lib.hid (or_xor_val hy (UInt8.toNat_lt a[k]) (UInt8.toNat_lt (b[k]'(by omega))))
        have HY : Hid (y ||| ((a[k]).toNat ^^^ (b[k]'(by omega)).toNat) < 256) := Nat.or_lt_two_pow (n := 8) hy (Nat.xor_lt_two_pow (n := 8) (UInt8.toNat_lt _) (UInt8.toNat_lt _))
        have hstep : (y ||| ((a[k]).toNat ^^^ (b[k]'(by omega)).toNat) = 0) ↔ ∀ j (h1 : j < a.length) (h2 : j < b.length), j < k + 1 → a[j] = b[j] := by
          rw [or_xor_zero, hiff.out]
          constructor
          · rintro ⟨h1, h2⟩ j h3 h4 h5
            rcases Nat.lt_or_ge j k with h | h
            · exact h1 j h3 h4 h
            · obtain rfl : j = k := by omega
              exact UInt8.toNat_inj.1 h2
          · intro h
            exact ⟨fun j h1 h2 h3 => h j h1 h2 (by omega), by rw [h k hlt (by omega) (by omega)]⟩
        have HS := Lib.hid hstep; clear hstep hc1 hc2
        go_wp2
        go_quiet (fail)
        go_wp2
        go_roundw
        case rel => exact ⟨k + 1, by omega, by go_num, by go_num, _, by rw [HV.out], HY.out, HS, hdr.out.drewN _⟩
        case measure => simp [intOf]; omega
      · have hfin : decide (a = b) = ((y : Int) == 0) := by
          rw [Bool.eq_iff_iff]
          simp only [decide_eq_true_eq, beq_iff_eq]
          have h1 := hiff.out
          constructor
          · intro h
            have := h1.2 (fun j h2 h3 _ => by subst h; rfl)
            omega
          · intro h
            exact List.ext_getElem HL.out fun j h2 h3 => h1.1 (by omega) j h2 h3 (by omega)
        have hkl : (k : Int) = a.length := by omega
        have HF := Lib.hid hfin; have HK := Lib.hid hkl; clear hfin hkl
        go_wp2
        go_ret2
        exact ⟨by rw [HF.out, HN.out, ← HK.out]; rfl, hdr.out⟩
  · have hd : decide (a = b) = false := by simp; intro h; exact hl (by rw [h])
    have hN : lookN a b = 0 := by unfold lookN; rw [if_neg hl]
    have HD := Lib.hid hd; have HN := Lib.hid hN; clear hd hN
    have hne : ((a.length : Int) != (b.length : Int)) = true := by rw [bne_iff_ne]; omega
    clear hl
    go_enter Try.func29, Try.ntmps29
    go_wp2
    go_ret2
    exact ⟨by rw [HD.out, HN.out]; rfl, Drew.refl _⟩

theorem same_any {a b : List UInt8} {va vb : Value} {w : World} {B1 B2 : Nat} (ha : Bs w B1 va a) (hb : Bs w B2 vb b) :
    Calls Try.prog 30 #[va, vb] w fun e w' => e = .returned (.bool (decide (a = b))) ∧ Drew w w' := by
  obtain ⟨x, hx⟩ : ∃ x, decide (a = b) = x := ⟨_, rfl⟩
  have c := looks_any ha hb
  rw [hx] at c ⊢
  have C := Lib.hid c; clear c hx
  go_enter Try.func30, Try.ntmps30
  go_wp2_with fail
  refine (C.out).mono ?_
  rintro e w2 ⟨rfl, hd⟩
  go_wp2
  go_ret
  exact ⟨rfl, hd⟩

theorem reflooks_any {a b : List UInt8} {va vb : Value} {w : World} {B1 B2 : Nat} (ha : Bs w B1 va a) (hb : Bs w B2 vb b) :
    Calls Try.prog 31 #[va, vb] w fun e w' => e = .returned (.tuple #[.bool (decide (a = b)), .int .i64 (lookN a b)]) ∧ Drew w w' := by
  obtain ⟨x, hx⟩ : ∃ x, decide (a = b) = x := ⟨_, rfl⟩
  have ce := equal_any ha hb
  rw [hx] at ce ⊢
  have C := Lib.hid ce; clear ce
  obtain ⟨A, c, rfl⟩ := ha.shape
  obtain ⟨A', c', rfl⟩ := hb.shape
  by_cases hl : a.length = b.length
  · have hN : lookN a b = (a.length : Int) := by unfold lookN; rw [if_pos hl]
    have HN := Lib.hid hN; clear hN
    have hne : ((a.length : Int) != (b.length : Int)) = false := by rw [bne_eq_false_iff_eq]; omega
    clear hl hx
    go_enter Try.func31, Try.ntmps31
    go_wp2_with fail
    refine (C.out).mono ?_
    rintro e w2 ⟨rfl, hd⟩
    go_wp2
    go_ret2
    exact ⟨by rw [HN.out]; rfl, hd⟩
  · have hd : x = false := by rw [← hx]; simp; intro h; exact hl (by rw [h])
    have hN : lookN a b = 0 := by unfold lookN; rw [if_neg hl]
    have HD := Lib.hid hd; have HN := Lib.hid hN; clear hd hN
    have hne : ((a.length : Int) != (b.length : Int)) = true := by rw [bne_iff_ne]; omega
    clear hl hx
    go_enter Try.func31, Try.ntmps31
    go_wp2
    go_ret2
    exact ⟨by rw [HD.out, HN.out]; rfl, Drew.refl _⟩

theorem lookN_comm (a b : List UInt8) : lookN b a = lookN a b := by unfold lookN; split <;> split <;> omega

set_option maxHeartbeats 800000 in
theorem looks_walk {a b : List UInt8} {va vb : Value} {w : World} (ha : Bs w w.heap.size va a) (hb : Bs w w.heap.size vb b) (hla : a.length ≤ 140737488355328) (hlb : b.length ≤ 140737488355328) :
    Calls Try.prog 8 #[va, vb] w fun e w' => e = .returned (.bool true) ∧ Below w.heap.size w w' := by
  obtain ⟨x, hx⟩ : ∃ x, decide (a = b) = x := ⟨_, rfl⟩
  obtain ⟨n, hn⟩ : ∃ n, lookN a b = n := ⟨_, rfl⟩
  have hx2 : decide (b = a) = x := by rw [← hx, Bool.eq_iff_iff]; simp [eq_comm]
  have hn2 : lookN b a = n := by rw [lookN_comm, hn]
  have HA := Lib.hid ha; have HB := Lib.hid hb
  have HX := Lib.hid hx; have HX2 := Lib.hid hx2; have HN := Lib.hid hn; have HN2 := Lib.hid hn2
  clear hx hx2 hn hn2
  obtain ⟨Aa, ca, rfl⟩ := ha.shape
  obtain ⟨Ab, cb, rfl⟩ := hb.shape
  clear ha hb
  have q1 : Bs ((w.alloc (.cells #[.int .u8 1, .int .u8 2, .int .u8 3] 5)).alloc (.cells #[.int .u8 9, .int .u8 2, .int .u8 3] 5)) (w.heap.size + 1) (.slice (some ⟨w.heap.size, 0, none⟩) 3 3) [1, 2, 3] := (Bs.lit w [1, 2, 3] (by unfold maxLen; simp)).alloc (by simp) _
  have q2 : Bs ((w.alloc (.cells #[.int .u8 1, .int .u8 2, .int .u8 3] 5)).alloc (.cells #[.int .u8 9, .int .u8 2, .int .u8 3] 5)) (w.heap.size + 1 + 1) (.slice (some ⟨w.heap.size + 1, 0, none⟩) 3 3) [9, 2, 3] := by
    have h := Bs.lit (w.alloc (.cells #[.int .u8 1, .int .u8 2, .int .u8 3] 5)) [9, 2, 3] (by unfold maxLen; simp)
    simpa [vb] using h
  have c0 := looks_any q1 q2
  have e0 : decide (([1, 2, 3] : List UInt8) = [9, 2, 3]) = false := by decide
  have e1 : lookN [1, 2, 3] [9, 2, 3] = 3 := by decide
  rw [e0, e1] at c0
  have C0 := Lib.hid c0
  clear c0 e0 e1 q1 q2
  have hb0 : Below w.heap.size w ((w.alloc (.cells #[.int .u8 1, .int .u8 2, .int .u8 3] 5)).alloc (.cells #[.int .u8 9, .int .u8 2, .int .u8 3] 5)) := ((Below.refl _ _).alloc (Nat.le_refl _) _).alloc (by simp) _
  go_enter Try.func8, Try.ntmps8
  go_wp2_with fail
  refine (C0.out).mono ?_
  rintro e w1 ⟨rfl, hd1⟩
  have hb1 : Below w.heap.size w w1 := hb0.trans (hd1.below _)
  have hz1 := hb1.size
  clear hb0 hd1
  have q1 : Bs ((w1.alloc (.cells #[.int .u8 4] 5)).alloc (.cells #[.int .u8 4] 5)) (w1.heap.size + 1) (.slice (some ⟨w1.heap.size, 0, none⟩) 1 1) [4] := (Bs.lit w1 [4] (by unfold maxLen; simp)).alloc (by simp) _
  have q2 : Bs ((w1.alloc (.cells #[.int .u8 4] 5)).alloc (.cells #[.int .u8 4] 5)) (w1.heap.size + 1 + 1) (.slice (some ⟨w1.heap.size + 1, 0, none⟩) 1 1) [4] := by
    have h := Bs.lit (w1.alloc (.cells #[.int .u8 4] 5)) [4] (by unfold maxLen; simp)
    simpa [vb] using h
  have c1 := same_any q1 q2
  rw [show decide (([4] : List UInt8) = [4]) = true by decide] at c1
  have C1 := Lib.hid c1
  clear c1 q1 q2
  have hb1' : Below w.heap.size w ((w1.alloc (.cells #[.int .u8 4] 5)).alloc (.cells #[.int .u8 4] 5)) := (hb1.alloc hz1 _).alloc (by simp; omega) _
  go_wp2_with fail
  refine (C1.out).mono ?_
  rintro e w2 ⟨rfl, hd2⟩
  have hb2 : Below w.heap.size w w2 := hb1'.trans (hd2.below _)
  clear hb1 hb1' hd2 hz1
  have hz2 := hb2.size
  go_wp2_with fail
  refine (copy_any (HA.out.below hb2 (Nat.le_refl _)) hz2 hla).mono ?_
  rintro e w3 ⟨u3, rfl, ho3, hbb3⟩
  have hb3 := hb2.trans (hbb3.mono hz2)
  have hz3 := hb3.size
  go_wp2_with fail
  refine (copy_any (HB.out.below hb3 (Nat.le_refl _)) hz3 hlb).mono ?_
  rintro e w4 ⟨u4, rfl, ho4, hbb4⟩
  have hb4 := hb3.trans (hbb4.mono hz3)
  have hz4 := hb4.size
  have k4 := looks_any (ho3.below hbb4 (Nat.le_refl _)).bs ho4.bs
  rw [HX.out, HN.out] at k4
  have K4 := Lib.hid k4
  clear k4 ho3 ho4 hbb3 hbb4 hb2 hb3
  go_wp2_with fail
  refine (K4.out).mono ?_
  rintro e w5 ⟨rfl, hd5⟩
  have hb5 := hb4.trans (hd5.below _)
  have hz5 := hb5.size
  have k5 := reflooks_any (HA.out.below hb5 (Nat.le_refl _)) (HB.out.below hb5 (Nat.le_refl _))
  rw [HX.out, HN.out] at k5
  have K5 := Lib.hid k5
  clear k5 hd5 hb4
  go_wp2_with fail
  refine (K5.out).mono ?_
  rintro e w6 ⟨rfl, hd6⟩
  have hb6 := hb5.trans (hd6.below _)
  have hz6 := hb6.size
  clear hd6 hb5
  go_wp2_with fail
  refine (copy_any (HB.out.below hb6 (Nat.le_refl _)) hz6 hlb).mono ?_
  rintro e w7 ⟨u7, rfl, ho7, hbb7⟩
  have hb7 := hb6.trans (hbb7.mono hz6)
  have hz7 := hb7.size
  go_wp2_with fail
  refine (copy_any (HA.out.below hb7 (Nat.le_refl _)) hz7 hla).mono ?_
  rintro e w8 ⟨u8, rfl, ho8, hbb8⟩
  have hb8 := hb7.trans (hbb8.mono hz7)
  have hz8 := hb8.size
  have k8 := looks_any (ho7.below hbb8 (Nat.le_refl _)).bs ho8.bs
  rw [HX2.out, HN2.out] at k8
  have K8 := Lib.hid k8
  clear k8 ho7 ho8 hbb7 hbb8 hb6 hb7
  go_wp2_with fail
  refine (K8.out).mono ?_
  rintro e w9 ⟨rfl, hd9⟩
  have hb9 := hb8.trans (hd9.below _)
  have hz9 := hb9.size
  clear hd9 hb8
  go_wp2_with fail
  refine (copy_any (HA.out.below hb9 (Nat.le_refl _)) hz9 hla).mono ?_
  rintro e w10 ⟨u10, rfl, ho10, hbb10⟩
  have hb10 := hb9.trans (hbb10.mono hz9)
  have hz10 := hb10.size
  go_wp2_with fail
  refine (copy_any (HB.out.below hb10 (Nat.le_refl _)) hz10 hlb).mono ?_
  rintro e w11 ⟨u11, rfl, ho11, hbb11⟩
  have hb11 := hb10.trans (hbb11.mono hz10)
  have k11 := same_any (ho10.below hbb11 (Nat.le_refl _)).bs ho11.bs
  rw [HX.out] at k11
  have K11 := Lib.hid k11
  clear k11 ho10 ho11 hbb10 hbb11 hb9 hb10
  go_wp2_with fail
  refine (K11.out).mono ?_
  rintro e w12 ⟨rfl, hd12⟩
  have hb12 := hb11.trans (hd12.below _)
  have hz12 := hb12.size
  clear hd12 hb11
  go_wp2_with fail
  refine (copy_any (HA.out.below hb12 (Nat.le_refl _)) hz12 hla).mono ?_
  rintro e w13 ⟨u13, rfl, ho13, hbb13⟩
  have hb13 := hb12.trans (hbb13.mono hz12)
  have hz13 := hb13.size
  go_wp2_with fail
  refine (copy_any (HA.out.below hb13 (Nat.le_refl _)) hz13 hla).mono ?_
  rintro e w14 ⟨u14, rfl, ho14, hbb14⟩
  have hb14 := hb13.trans (hbb14.mono hz13)
  have k14 := same_any (ho13.below hbb14 (Nat.le_refl _)).bs ho14.bs
  rw [show decide (a = a) = true by simp] at k14
  have K14 := Lib.hid k14
  clear k14 ho13 ho14 hbb13 hbb14 hb12 hb13
  go_wp2_with fail
  refine (K14.out).mono ?_
  rintro e w15 ⟨rfl, hd15⟩
  go_wp2
  go_ret
  exact ⟨ret_bool (by simp), hb14.trans (hd15.below _)⟩
end Go.Proofs.Ytpimklpkjinhiaa
