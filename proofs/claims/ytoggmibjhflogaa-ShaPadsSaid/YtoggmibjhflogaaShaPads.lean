/- The law ShaPads, walked: the padding of every length is the standard's, and fills up to whole blocks. -/
import Derived.Test.YtoggmibjhflogaaShaPad
namespace Go.Proofs.Ytoggmibjhflogaa
open Go.RowKit

theorem padS_len (n : Nat) : (padS n).length = padZ n + 9 := by simp [padS, zs_len, putL_length]
theorem padS_55 : padS 55 = [128, 0, 0, 0, 0, 0, 0, 1, 184] := by decide

theorem shapads_from {w : World} (n : Int) {E : Int} {R : List UInt8} {m : Nat} (hm : R.length = m)
    (c1 : ∀ w : World, Calls Try.prog 16 #[.int .i64 n] w fun e w' => ∃ v, e = .returned (.tuple #[v, .int .i64 E]) ∧ Own w' w.heap.size v R ∧ Below w.heap.size w w')
    (c2 : ∀ w : World, Calls Try.prog 17 #[.int .i64 n] w fun e w' => ∃ v, e = .returned (.tuple #[v, .int .i64 E]) ∧ Own w' w.heap.size v R ∧ Below w.heap.size w w')
    (hE : E = 1 ∨ (E = 0 ∧ 0 ≤ n ∧ n ≤ 16777216 ∧ m ≤ 80 ∧ (n % 64 + (m : Int)) % 64 = 0)) :
    Calls Try.prog 4 #[.int .i64 n] w fun e w' => e = .returned (.bool true) ∧ Below w.heap.size w w' := by
  have c0 := shapad_all 55 w (fun N hN => padding_any N (by omega) w)
  rw [if_neg (by omega), if_neg (by omega), show (55 : Int).toNat = 55 from rfl, padS_55] at c0
  have C0 := Lib.hid c0; have C1 := Lib.hid c1; have C2 := Lib.hid c2; have HM := Lib.hid hm
  clear c0 c1 c2 hm
  rcases hE with rfl | ⟨rfl, hn1, hn2, hm2, hmod⟩
  all_goals
    try have g1 : ((n % 64 + (m : Int)) % 64 == 0) = true := by rw [beq_iff_eq]; exact hmod
    go_enter Try.func4, Try.ntmps4
    go_wp2_with fail
    refine (C0.out).mono ?_
    rintro e w1 ⟨v1, rfl, ho1, hb1⟩
    obtain ⟨A1, k1, rfl⟩ := ho1.shapeN (n := 9) rfl
    obtain ⟨g, rfl, _, _, hc0, _, _⟩ := ho1.at_ (j := 0) (by simp)
    obtain ⟨g', hg', _, _, hc8, _, _⟩ := ho1.at_ (j := 8) (by simp)
    simp only [Option.some.injEq, Addr.mk.injEq, and_true] at hg'
    subst hg'
    have hc0 : w1.cell? ⟨g, 0, none⟩ = some (.int .u8 128) := hc0
    have hc8 : w1.cell? ⟨g, 8, none⟩ = some (.int .u8 184) := hc8
    have hz1 := hb1.size
    clear ho1
    go_wp2_with fail
    refine (C1.out _).mono ?_
    rintro e w2 ⟨v2, rfl, ho2, hbb2⟩
    have hb2 := hb1.trans (hbb2.mono hz1)
    have hz2 := hb2.size
    obtain ⟨A2, k2, rfl⟩ := ho2.shapeN HM.out
    have HO2 := Lib.hid ho2
    clear ho2 hbb2 hc0 hc8
    go_wp2_with fail
    refine (C2.out _).mono ?_
    rintro e w3 ⟨v3, rfl, ho3, hbb3⟩
    have hb3 := hb2.trans (hbb3.mono hz2)
    obtain ⟨A3, k3, rfl⟩ := ho3.shapeN HM.out
    have ceq := equal_same (HO2.out.below hbb3 (Nat.le_refl _)).bs ho3.bs
    have CEQ := Lib.hid ceq
    clear ceq ho3 hbb3 HO2
    go_wp2_with fail
    refine (CEQ.out).mono ?_
    rintro e w4 ⟨rfl, hd4⟩
    go_wp2
    go_ret
    exact ⟨rfl, hb3.trans (hd4.below _)⟩

theorem shapads_walk (n : Int) (w : World) : Calls Try.prog 4 #[.int .i64 n] w fun e w' => e = .returned (.bool true) ∧ Below w.heap.size w w' := by
  by_cases h : n < 0 ∨ 16777216 < n
  · refine shapads_from n (E := 1) (R := []) (m := 0) rfl (fun w => ?_) (fun w => ?_) (.inl rfl)
    · have := shapad_all n w (fun N hN => padding_any N (by omega) w)
      rwa [if_pos h, if_pos h] at this
    · have := refshapad_all n w
      rwa [if_pos h, if_pos h] at this
  · have hz := padZ_lt n.toNat
    refine shapads_from n (E := 0) (R := padS n.toNat) (m := padZ n.toNat + 9) (padS_len _) (fun w => ?_) (fun w => ?_) (.inr ⟨rfl, by omega, by omega, by omega, ?_⟩)
    · have := shapad_all n w (fun N hN => padding_any N (by omega) w)
      rwa [if_neg h, if_neg h] at this
    · have := refshapad_all n w
      rwa [if_neg h, if_neg h] at this
    · unfold padZ
      omega
end Go.Proofs.Ytoggmibjhflogaa
