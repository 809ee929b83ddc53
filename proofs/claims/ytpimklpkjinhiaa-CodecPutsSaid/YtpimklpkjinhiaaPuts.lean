/- The law CodecPuts, walked: every number that is written as bytes is written as the document says, and read back. -/
import Derived.Test.YtpimklpkjinhiaaAwake
namespace Go.Proofs.Ytpimklpkjinhiaa
open Go.RowKit

set_option maxHeartbeats 400000 in
theorem puts_arg (o k n : Int) (hs : shapeB o k = false) (w : World) :
    Calls Try.prog 3 #[.int .i64 o, .int .i64 k, .int .u64 n] w fun e w' => e = .returned (.bool true) ∧ Below w.heap.size w w' := by
  go_enter Try.func3, Try.ntmps3
  go_wp2_with fail
  refine (awake_any w).mono ?_
  rintro e w1 ⟨rfl, hb1⟩
  go_wp2_with fail
  refine (put_arg o k n hs w1).mono ?_
  rintro e w2 ⟨rfl, rfl⟩
  go_wp2_with fail
  refine (refput_arg o k n hs w1).mono ?_
  rintro e w2 ⟨rfl, rfl⟩
  go_wp2_with fail
  refine (told_any (Bs.nil _ 0) (Bs.nil _ 0)).mono ?_
  rintro e w3 ⟨rfl, hd⟩
  go_wp2
  go_ret
  exact ⟨rfl, hb1.trans (hd.below _)⟩

set_option maxHeartbeats 400000 in
theorem puts_size (o : Int) (K n : Nat) (hs : shapeB o K = true) (hn : n < 18446744073709551616) (hfit : ((n : Int) / 2 ^ (8 * K) != 0) = true) (w : World) :
    Calls Try.prog 3 #[.int .i64 o, .int .i64 K, .int .u64 n] w fun e w' => e = .returned (.bool true) ∧ Below w.heap.size w w' := by
  have HF := Lib.hid hfit; clear hfit
  go_enter Try.func3, Try.ntmps3
  go_wp2_with fail
  refine (awake_any w).mono ?_
  rintro e w1 ⟨rfl, hb1⟩
  go_wp2_with fail
  refine (put_size o K n hs HF.out w1).mono ?_
  rintro e w2 ⟨rfl, rfl⟩
  go_wp2_with fail
  refine (refput_size hs hn HF.out w1).mono ?_
  rintro e w2 ⟨rfl, hb2⟩
  go_wp2_with fail
  refine (told_any (Bs.nil _ 0) (Bs.nil _ 0)).mono ?_
  rintro e w3 ⟨rfl, hd⟩
  go_wp2
  go_ret
  exact ⟨rfl, (hb1.trans (hb2.mono hb1.size)).trans (hd.below _)⟩

set_option maxHeartbeats 400000 in
theorem puts_ok (o : Int) (K n : Nat) (hs : shapeB o K = true) (hn : n < 18446744073709551616) (hfit : ((n : Int) / 2 ^ (8 * K) != 0) = false) (w : World) :
    Calls Try.prog 3 #[.int .i64 o, .int .i64 K, .int .u64 n] w fun e w' => e = .returned (.bool true) ∧ Below w.heap.size w w' := by
  have h0 : n / 256 ^ K = 0 := by
    have h := hfit
    rw [bne_eq_false_iff_eq] at h
    rw [← pow8]
    exact_mod_cast h
  have hg := getP_put o h0
  have HF := Lib.hid hfit; have HG := Lib.hid hg; clear hfit h0 hg
  go_enter Try.func3, Try.ntmps3
  go_wp2_with fail
  refine (awake_any w).mono ?_
  rintro e w1 ⟨rfl, hb1⟩
  go_wp2_with fail
  refine (put_ok hs HF.out w1).mono ?_
  rintro e w2 ⟨v2, rfl, ho2, hb2⟩
  go_wp2_with fail
  refine (refput_ok hs hn HF.out w2).mono ?_
  rintro e w3 ⟨v3, rfl, ho3, hb3⟩
  have ho2' := ho2.bs.below hb3 (Nat.le_refl _)
  go_wp2_with fail
  refine (told_any ho2' ho3.bs).mono ?_
  rintro e w4 ⟨rfl, hd⟩
  have hput := hd.bs ho2'
  have hb4 : Below w.heap.size w w4 := ((hb1.trans (hb2.mono hb1.size)).trans (hb3.mono (by have := hb1.size; have := hb2.size; omega))).trans (hd.below _)
  clear ho2 ho3 ho2' hb1 hb2 hb3
  go_wp2_with fail
  refine (get_ok (a := 0) hs hput (by rw [putL_length]; omega)).mono ?_
  rintro e w5 ⟨rfl, rfl⟩
  rw [HG.out]
  go_wp2
  go_ret
  exact ⟨ret_bool (by simp), hb4⟩

theorem puts_walk (o k n : Int) (hk : (Lit.int .i64 k).wf = true) (hn : (Lit.int .u64 n).wf = true) (w : World) :
    Calls Try.prog 3 #[.int .i64 o, .int .i64 k, .int .u64 n] w fun e w' => e = .returned (.bool true) ∧ Below w.heap.size w w' := by
  have hx : 0 ≤ n ∧ n ≤ 18446744073709551615 := by simpa [Lit.wf, IntKind.min, IntKind.max, IntKind.signed, IntKind.bits] using hn
  cases hs : shapeB o k
  · exact puts_arg o k n hs w
  · have h := (shape_iff.1 hs).2
    obtain ⟨K, rfl⟩ := Int.eq_ofNat_of_zero_le (show 0 ≤ k by omega)
    obtain ⟨N, rfl⟩ := Int.eq_ofNat_of_zero_le hx.1
    cases hf : ((N : Int) / 2 ^ (8 * K) != 0)
    · exact puts_ok o K N hs (by omega) hf w
    · exact puts_size o K N hs (by omega) hf w
end Go.Proofs.Ytpimklpkjinhiaa
