/- above of the reference: which of two long numbers is the greater. -/
import Derived.Test.YtnkbgokimafaeaaZ5
namespace Go.Proofs.Ytnkbgokimafaeaa
open Go.RowKit

set_option maxRecDepth 100000 in
set_option maxHeartbeats 4000000 in
theorem above_any {y p k : Nat} (hy : y < 18446744073709551616) (hp : p < 65536) (hk : k ≤ 3) (w : World) :
    Calls Try.prog 8 #[.int .u64 (y : Int), .int .i64 (p : Int), .int .i64 (k : Int)] w fun e w' => e = .returned (.bool (decide (p * 2 ^ (32 * k) < y ^ k))) ∧ Below w.heap.size w w' := by
  have C1 := Lib.hid (digits_any hy w)
  obtain ⟨R, hR⟩ : ∃ R, R = decide (p * 2 ^ (32 * k) < y ^ k) := ⟨_, rfl⟩
  rw [← hR]
  have HR := Lib.hid hR
  clear hR
  go_enter Try.func8, Try.ntmps8
  go_wp2_with fail
  with_reducible refine (C1.out).mono ?_
  rintro e1 w1 ⟨vd, D, rfl, hd1, hok1, hv1, hl1, hb1⟩
  have hz1 := hb1.size
  obtain ⟨Ad, cd, rfl⟩ := hd1.shape (n := D.length) rfl
  have UD := Lib.hid hd1.us
  have OKD := Lib.hid hok1; have VD := Lib.hid hv1
  have B1 := Lib.hid hb1
  have C2 := digits_any (N := 1) (by omega) w1
  rw [show ((1 : Nat) : Int) = 1 from rfl] at C2
  have C2 := Lib.hid C2
  clear hd1 hok1 hv1 hb1 C1
  go_wp2_with fail
  with_reducible refine (C2.out).mono ?_
  rintro e2 w2 ⟨v1, V1, rfl, hd2, hok2, hv2, hl2, hb2⟩
  have hz2 := hb2.size
  have B2 := Lib.hid hb2
  have U2 := Lib.hid hd2.us; have OK2 := Lib.hid hok2; have VV2 := Lib.hid hv2
  clear hd2 hok2 hv2 hb2 C2
  go_wp2_with fail
  go_loopw [8, 9] (fun v i wr => ∃ (j : Nat) (V : List Nat), j ≤ k ∧ i = .int .i64 (j : Int) ∧ V.length ≤ 4 + 5 * j ∧ Hid (Us wr wr.heap.size v V) ∧ Hid (okD V) ∧ Hid (vL V = y ^ j) ∧ Hid (Below w1.heap.size w1 wr)) (fun _ i _ => k - (intOf i).toNat)
  case atStart => exact ⟨0, V1, Nat.zero_le _, rfl, hl2, U2, OK2, Lib.hid (by rw [VV2.out]; rfl), B2⟩
  case round =>
    obtain ⟨j, V, hj, rfl, hVl, hU, hOK, hVV, hbe⟩ := hrel
    clear U2 OK2 VV2
    obtain ⟨AV, cV, rfl⟩ := hU.out.shape (n := V.length) rfl
    have hzb := hbe.out.size
    by_cases hlt : j < k
    · have hI : (j : Int) < (k : Int) := by omega
      have CT := Lib.hid (times_any hU.out ((UD.out.below hbe.out (Nat.le_refl _)).more hzb) hOK.out OKD.out (by omega) (by omega))
      go_wp2_with fail
      with_reducible refine (CT.out).mono ?_
      rintro e3 w3 ⟨v3, L, rfl, ho3, hok3, hv3, hl3, hb3⟩
      have HU3 := Lib.hid ho3.us; have HOK3 := Lib.hid hok3
      have HV3 : Hid (vL L = y ^ (j + 1)) := Lib.hid (by rw [hv3, hVV.out, VD.out, Nat.pow_succ])
      have HB3 := Lib.hid (hbe.out.trans (hb3.mono hzb))
      have hl3b : L.length ≤ 4 + 5 * (j + 1) := by omega
      clear ho3 hok3 hv3 hb3 CT hU hOK hVV hbe
      go_wp2
      go_roundw
      case rel => exact ⟨j + 1, L, by omega, by go_num, hl3b, HU3, HOK3, HV3, HB3⟩
      case measure => simp [intOf]; omega
    · obtain rfl : j = k := by omega
      have hI : ¬ (j : Int) < (j : Int) := by omega
      obtain ⟨M2, hM2⟩ : ∃ M2, M2 = 2 * j := ⟨_, rfl⟩
      have hmk := run_make_row' (P := Try.prog) 32 30 (.int .u64 0) 8 Try.underlying32 u64info rfl .i64 .i64 M2 (by omega) (by omega)
      have hmk' : ∀ W : World, (Instr.makeSlice 32 (.int .i64 (2 * (j : Int))) (.int .i64 (2 * (j : Int)))).run Try.prog W = .ok (.slice (some ⟨W.heap.size, 0, none⟩) M2 M2) (W.alloc (.cells (madeCells #[Value.int .u64 0] M2) 30)) := fun W => by
        have := hmk W
        rw [show ((M2 : Nat) : Int) = 2 * (j : Int) by omega] at this
        exact this
      have hw2 : IntKind.i64.wrap (2 * (j : Int)) = 2 * (j : Int) := IntWalk.i64_in _ (by omega)
      have hwp : IntKind.u64.wrap (p : Int) = (p : Int) := IntWalk.u64_in _ (by omega)
      have hB0 := (Below.refl wr.heap.size wr).alloc (Nat.le_refl _) (.cells (madeCells #[Value.int .u64 0] M2) 30)
      have O0 : OwnU ((wr.alloc (.cells (madeCells #[Value.int .u64 0] M2) 30)).alloc (.cells #[.int .u64 (p : Int)] 30)) wr.heap.size (.slice (some ⟨wr.heap.size, 0, none⟩) M2 M2) (List.replicate M2 0) :=
        (OwnU.made wr M2 (by unfold maxLen; omega)).below ((Below.refl _ _).alloc (Nat.le_refl _) _)
      have HC0 : ((wr.alloc (.cells (madeCells #[Value.int .u64 0] M2) 30)).alloc (.cells #[.int .u64 (p : Int)] 30)).cell? ⟨wr.heap.size + 1, 0, none⟩ = some (.int .u64 (p : Int)) := by
        simp
      have HO0 := Lib.hid O0; have HHC := Lib.hid HC0
      have HBA := Lib.hid (hB0.alloc hB0.size (.cells #[.int .u64 (p : Int)] 30))
      have HM2 := Lib.hid hM2
      have hM6 : M2 ≤ 6 := by omega
      clear hmk O0 HC0 hB0 hM2
      go_wp2_with (at_builtin; with_reducible refine wpList_appU rfl (.tmp 27) (.tmp 30) rfl rfl HO0.out _ rfl HHC.out rfl (by simp; omega) (by simp; omega) ?_)
      intro v5 w5 ho5 hg5
      obtain ⟨W, hW⟩ : ∃ W, W = List.replicate M2 0 ++ [p] := ⟨_, rfl⟩
      rw [← hW] at ho5
      have hWl : W.length = M2 + 1 := by rw [hW]; simp
      have hWv : vL W = p * 2 ^ (32 * j) := by rw [hW, vL_one, HM2.out, pow_bits]
      have hWok : okD W := by rw [hW]; exact (okD.zeros M2).snoc hp
      have hb5 := HBA.out.grown hg5 (by have := HBA.out.size; exact this) (fun q hq => by simp only [Value.ownBlock, Option.some.injEq] at hq; omega)
      obtain ⟨A5, c5, rfl⟩ := ho5.shape hWl
      have UV := Lib.hid (hU.out.below hb5 (Nat.le_refl _))
      have UW := Lib.hid ho5.us
      have HWL := Lib.hid hWl; have HWV := Lib.hid hWv; have HWO := Lib.hid hWok
      have HB5 := Lib.hid ((B1.out.trans (hbe.out.mono hz1)).trans (hb5.mono (by omega)))
      obtain ⟨vl, hvl⟩ : ∃ vl, vl = V.length := ⟨_, rfl⟩
      rw [← hvl] at hVl UV ⊢
      have HVL := Lib.hid hvl
      have hz5 := hb5.size
      clear ho5 hg5 hb5 hW hWv hWok hU HO0 HHC HBA hbe hvl hmk' hw2 hwp hWl
      go_wp2_with fail
      all_goals
        go_loopw [11] (fun i wr => ∃ t : Nat, t ≤ 25 ∧ i = .int .i64 ((t : Int) - 1) ∧ Hid (∀ q, t ≤ q → FL V q = FL W q) ∧ Hid (wr = w5)) (fun i _ => (intOf i + 1).toNat)
        case atStart =>
          first
            | exact ⟨M2 + 1, by omega, by go_num, Lib.hid (fun q hq => by rw [FL_out (by have := HVL.out; omega), FL_out (by have := HWL.out; omega)]), Lib.hid rfl⟩
            | exact ⟨vl, by omega, by go_num, Lib.hid (fun q hq => by rw [FL_out (by have := HVL.out; omega), FL_out (by have := HWL.out; omega)]), Lib.hid rfl⟩
        case round =>
          obtain ⟨t, ht, rfl, hq, hwr⟩ := hrel
          have hwr := hwr.out
          subst hwr
          by_cases h0 : t = 0
          · subst h0
            have hR : R = false := by
              rw [HR.out]
              have e := cmp_eq (M := 40) (by have := HVL.out; omega) (by have := HWL.out; omega) (fun q => hq.out q (Nat.zero_le _))
              rw [hVV.out, HWV.out] at e
              rw [e]
              simp
            have HRF := Lib.hid hR
            have hI0 : ¬ (0 : Int) ≤ ((0 : Nat) : Int) - 1 := by omega
            clear hR
            go_wp2
            go_ret
            exact ⟨ret_bool HRF.out.symm, HB5.out⟩
          · obtain ⟨s, rfl⟩ : ∃ s, t = s + 1 := ⟨t - 1, by omega⟩
            have e1 : ((s + 1 : Nat) : Int) - 1 = (s : Int) := by omega
            rw [e1]
            have hI0 : (0 : Int) ≤ (s : Int) := Int.natCast_nonneg _
            have CA := at2_any (i := s) UV.out (by have := HVL.out; omega) (by omega)
            have CB := at2_any (i := s) UW.out (by have := HWL.out; omega) (by omega)
            obtain ⟨x, hx⟩ : ∃ x, x = FL V s := ⟨_, rfl⟩
            obtain ⟨z, hz⟩ : ∃ z, z = FL W s := ⟨_, rfl⟩
            rw [← hx] at CA
            rw [← hz] at CB
            have CA := Lib.hid CA; have CB := Lib.hid CB
            have HX := Lib.hid hx; have HZ := Lib.hid hz
            clear hx hz e1
            go_wp2_with fail
            with_reducible refine (CA.out).mono ?_
            rintro e7 w7 ⟨rfl, rfl⟩
            clear CA
            go_wp2_with fail
            with_reducible refine (CB.out).mono ?_
            rintro e8 w8 ⟨rfl, rfl⟩
            clear CB
            by_cases hxz : x = z
            · subst hxz
              go_wp2
              go_roundw
              case rel => exact ⟨s, by omega, by go_num, Lib.hid (fun q h => by
                by_cases he : q = s
                · subst he; rw [← HX.out, ← HZ.out]
                · exact hq.out q (by omega)), Lib.hid trivial⟩
              case measure => (simp [intOf]; try omega)
            · have hne : ¬ (x : Int) = (z : Int) := by omega
              have hR : R = decide (z < x) := by
                rw [HR.out, ← hVV.out, ← HWV.out]
                by_cases hgt : z < x
                · have h := cmp_gt (i := s) (M := 40) hOK.out HWO.out (by have := HVL.out; omega) (by have := HWL.out; omega) (by omega) (fun q h => hq.out q (by omega)) (by rw [← HX.out, ← HZ.out]; exact hgt)
                  rw [decide_eq_true h, decide_eq_true (by omega)]
                · have h := cmp_gt (i := s) (M := 40) HWO.out hOK.out (by have := HWL.out; omega) (by have := HVL.out; omega) (by omega) (fun q h => (hq.out q (by omega)).symm) (by rw [← HX.out, ← HZ.out]; omega)
                  rw [decide_eq_false (by omega), decide_eq_false (by omega)]
              have HRF := Lib.hid hR
              clear hR
              go_wp2
              go_ret
              exact ⟨ret_bool HRF.out.symm, HB5.out⟩
end Go.Proofs.Ytnkbgokimafaeaa
