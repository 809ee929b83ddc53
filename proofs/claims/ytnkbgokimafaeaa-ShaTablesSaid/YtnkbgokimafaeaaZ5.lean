/- The product of long numbers. -/
import Derived.Test.YtnkbgokimafaeaaZ4
import Derived.Deep.RegionHeld3
namespace Go.Proofs.Ytnkbgokimafaeaa
open Go.RowKit

set_option maxRecDepth 100000 in
set_option maxHeartbeats 4000000 in
theorem times_any {a b : List Nat} {va vb : Value} {w : World} (ha : Us w w.heap.size va a) (hb : Us w w.heap.size vb b) (hoa : okD a) (hob : okD b) (hla : a.length ≤ 1000) (hlb : b.length ≤ 1000) :
    Calls Try.prog 10 #[va, vb] w fun e w' => ∃ v l, e = .returned v ∧ OwnU w' w.heap.size v l ∧ okD l ∧ vL l = vL a * vL b ∧ l.length = a.length + b.length + 1 ∧ Below w.heap.size w w' := by
  obtain ⟨na, hna⟩ : ∃ na, na = a.length := ⟨_, rfl⟩
  obtain ⟨nb, hnb⟩ : ∃ nb, nb = b.length := ⟨_, rfl⟩
  obtain ⟨AA, cA, rfl⟩ := ha.shape hna.symm
  obtain ⟨AB, cB, rfl⟩ := hb.shape hnb.symm
  obtain ⟨M, hM⟩ : ∃ M, M = na + nb + 1 := ⟨_, rfl⟩
  have hmk := run_make_row' (P := Try.prog) 32 30 (.int .u64 0) 8 Try.underlying32 u64info rfl .i64 .i64 M (by omega) (by omega)
  have hmk' : ∀ W : World, (Instr.makeSlice 32 (.int .i64 ((na : Int) + (nb : Int) + 1)) (.int .i64 ((na : Int) + (nb : Int) + 1))).run Try.prog W = .ok (.slice (some ⟨W.heap.size, 0, none⟩) M M) (W.alloc (.cells (madeCells #[Value.int .u64 0] M) 30)) := fun W => by
    have := hmk W
    rw [show ((M : Nat) : Int) = (na : Int) + (nb : Int) + 1 by omega] at this
    exact this
  have O0 := Lib.hid (OwnU.made w M (by unfold maxLen; omega))
  have B0 := Lib.hid ((Below.refl w.heap.size w).alloc (Nat.le_refl _) (.cells (madeCells #[Value.int .u64 0] M) 30))
  have HA := Lib.hid ha; have HB := Lib.hid hb
  have HNA := Lib.hid hna; have HNB := Lib.hid hnb; have HM := Lib.hid hM
  have hna1 : na ≤ 1000 := by omega
  have hnb1 : nb ≤ 1000 := by omega
  have hM1 : M ≤ 2001 := by omega
  clear hmk ha hb hna hnb hM
  go_enter Try.func10, Try.ntmps10
  go_wp2_with fail
  go_loopw [6] (fun i wr => ∃ k : Nat, k ≤ na ∧ i = .int .i64 (k : Int) ∧ Hid (∃ O, OwnU wr w.heap.size (.slice (some ⟨w.heap.size, 0, none⟩) M M) O ∧ okD O ∧ O.length = M ∧ vD (FL O) M = vD (FL a) k * vD (FL b) nb) ∧ Hid (Below w.heap.size w wr)) (fun i _ => na - (intOf i).toNat)
  case atStart => exact ⟨0, Nat.zero_le _, rfl, Lib.hid ⟨_, O0.out, okD.zeros M, by simp, by have := vL_zeros M; unfold vL at this; rw [List.length_replicate] at this; rw [this]; simp [vD]⟩, B0⟩
  case round =>
    obtain ⟨k, hk, rfl, hO, hbe⟩ := hrel
    by_cases hlt : k < na
    · have hkI : (k : Int) < (na : Int) := by omega
      obtain ⟨ak, hak⟩ : ∃ ak, ak = FL a k := ⟨_, rfl⟩
      have hak1 : ak < 65536 := by rw [hak]; exact hoa.at k
      have HAK := Lib.hid hak
      have hz := Lib.hid hbe.out.size
      clear hak
      go_wp2_with fail
      go_loopw [7, 8] (fun c j wr => ∃ (cn jn : Nat), c = .int .u64 (cn : Int) ∧ j = .int .i64 (jn : Int) ∧ jn ≤ nb + 1 ∧ cn < 65536 ∧ Hid (∃ O, OwnU wr w.heap.size (.slice (some ⟨w.heap.size, 0, none⟩) M M) O ∧ okD O ∧ O.length = M ∧ vD (FL O) M + cn * 65536 ^ (k + jn) = vD (FL a) k * vD (FL b) nb + ak * 65536 ^ k * vD (FL b) jn) ∧ Hid (Below w.heap.size w wr)) (fun _ j _ => nb + 2 - (intOf j).toNat)
      case atStart => exact ⟨0, 0, rfl, rfl, Nat.zero_le _, by omega, Lib.hid (by obtain ⟨O, h1, h2, h3, h4⟩ := hO.out; exact ⟨O, h1, h2, h3, by rw [h4]; simp [vD]⟩), hbe⟩
      case round =>
        obtain ⟨cn, jn, rfl, rfl, hjn, hcn, hO2, hbe2⟩ := hrel
        by_cases hgo : jn < nb ∨ 0 < cn
        · have hjb : jn ≤ nb := by
            rcases Nat.lt_or_ge nb jn with h | h
            · obtain ⟨O, h1, h2, h3, h4⟩ := hO2.out
              have := times_end (A := FL a) (f := FL b) (lb := nb) (fun q => hoa.at q) (fun q => hob.at q) h (fun q hq => FL_out (by have := HNB.out; omega)) HAK.out h4
              omega
            · exact h
          obtain ⟨O, hO1, hOk, hOl, hOv⟩ := hO2.out
          have hlt3 : k + jn < O.length := by rw [hOl]; have := HM.out; omega
          have hO1 := hO1.below ((Below.refl wr.heap.size wr).drew)
          obtain ⟨g0, e0, _, hg0, hcell, hfrz, hset⟩ := hO1.at_ hlt3
          simp only [Option.some.injEq, Addr.mk.injEq, and_true] at e0
          subst e0
          obtain ⟨o, ho⟩ : ∃ o, o = O[k + jn] := ⟨_, rfl⟩
          have ho1 : o < 65536 := by rw [ho]; exact hOk _ (List.getElem_mem _)
          have hoF : FL O (k + jn) = o := by rw [FL_at hlt3, ho]
          obtain ⟨ba, oa, eA, hba, hca⟩ : ∃ ba oa, AA = some ⟨ba, oa, none⟩ ∧ ba < w.heap.size ∧ w.cell? ⟨ba, oa + k, none⟩ = some (.int .u64 (ak : Int)) := by
            obtain ⟨A', c', e, _, _, h3⟩ := HA.out
            have hl := HNA.out
            simp only [Value.slice.injEq] at e
            obtain ⟨rfl, _, rfl⟩ := e
            obtain ⟨b', o', e', hb', hc'⟩ := h3 (by omega)
            refine ⟨b', o', e', hb', ?_⟩
            rw [hc' k (by omega), HAK.out, FL_at (by omega)]
          subst eA
          obtain ⟨bj, hbj⟩ : ∃ bj, bj = FL b jn := ⟨_, rfl⟩
          have hbj1 : bj < 65536 := by rw [hbj]; exact hob.at jn
          obtain ⟨p, hp⟩ : ∃ p, p = ak * bj := ⟨_, rfl⟩
          have hp1 : p ≤ 4294836225 := by
            rw [hp]
            have h := Nat.mul_le_mul (Nat.le_of_lt_succ hak1) (Nat.le_of_lt_succ hbj1)
            exact h
          obtain ⟨s, hs⟩ : ∃ s, s = cn + o + p := ⟨_, rfl⟩
          have hw2 : IntKind.u64.wrap ((ak : Int) * (bj : Int)) = (p : Int) := by
            rw [show (ak : Int) * (bj : Int) = (p : Int) by rw [hp]; push_cast; rfl]
            exact IntWalk.u64_in _ (by omega)
          have hw1 : IntKind.u64.wrap ((cn : Int) + (o : Int)) = (cn : Int) + (o : Int) := IntWalk.u64_in _ (by omega)
          have hw3 : IntKind.u64.wrap ((cn : Int) + (o : Int) + (p : Int)) = (s : Int) := by
            rw [show (cn : Int) + (o : Int) + (p : Int) = (s : Int) by omega]
            exact IntWalk.u64_in _ (by omega)
          have hw4 : IntKind.i64.wrap ((k : Int) + (jn : Int)) = (k : Int) + (jn : Int) := IntWalk.i64_in _ (by omega)
          have hqd : IntKind.u64.wrap ((s : Int) / 65536) = ((s / 65536 : Nat) : Int) := by
            rw [IntKind.wrap_u64]
            omega
          have hsm : ((s % 65536 : Nat) : Int) = (s : Int) % 65536 := by omega
          have hstep := times_step (O := O) (i := k) (j := jn) (c := cn) (a := ak) (b := bj) (M := M) (f := FL b) hOl.symm (by omega) hbj hOv
          rw [hoF, ← hp, ← hs] at hstep
          have hca2 := (hbe2.out.cell (p := ⟨ba, oa + k, none⟩) hba).trans hca
          rw [← ho] at hcell
          have hx := hset (s % 65536)
          rw [hsm] at hx
          have HX := Lib.hid hx
          have HST := Lib.hid hstep
          have HOK := Lib.hid (hOk.set (i := k + jn) (d := s % 65536) (by omega))
          have HOL := Lib.hid hOl
          have CAT := at2_any (i := jn) (HB.out.below (hbe2.out.trans ((Below.refl w.heap.size wr).drew)) (Nat.le_refl _)) (by have := HNB.out; omega) (by omega)
          rw [← hbj] at CAT
          have CAT := Lib.hid CAT
          have HB2 := Lib.hid hbe2.out
          have hs1 : s / 65536 < 65536 := by omega
          have hMI : (k : Int) + (jn : Int) < (M : Int) := by have := HM.out; omega
          have h0I : (0 : Int) ≤ (k : Int) + (jn : Int) := by omega
          have hTN : ((k : Int) + (jn : Int)).toNat = k + jn := by omega
          have hc1 : (wr.drew).cell? ⟨w.heap.size, k + jn, none⟩ = some (.int .u64 (o : Int)) := hcell
          have hc2 : (wr.drew).cell? ⟨ba, oa + k, none⟩ = some (.int .u64 (ak : Int)) := hca2
          have hf1 : (wr.drew).frozen? ⟨w.heap.size, k + jn, none⟩ = false := hfrz
          clear hO1 hOk hOl hOv hset hx hstep ho hbj hp hs hca hoF hO2 hO hsm hcell hca2 hfrz
          by_cases hj2 : jn < nb
          · have hjI : (jn : Int) < (nb : Int) := by omega
            go_wp2_with fail
            go_region_held3 (fun w' => w'.cell? ⟨w.heap.size, k + jn, none⟩ = some (.int .u64 (o : Int)) ∧ w'.cell? ⟨ba, oa + k, none⟩ = some (.int .u64 (ak : Int))) ((refine ⟨?_, ?_⟩) <;> go_simp) (first
              | (go_at_call 11; with_reducible refine (CAT.out).mono ?_; rintro e5 w5 ⟨rfl, rfl⟩)
              | fail)
            all_goals
              go_wp2
              first
                | exact ⟨⟨s / 65536, jn + 1, by go_num, by go_num, by omega, hs1, Lib.hid ⟨_, HX.out, HOK.out, by rw [List.length_set]; exact HOL.out, HST.out⟩, Lib.hid ((HB2.out.trans ((Below.refl w.heap.size wr).drew)).setCell (Nat.le_refl _) _)⟩, by simp [intOf]; omega⟩
                | (go_roundw
                   case rel => exact ⟨s / 65536, jn + 1, rfl, by go_num, by omega, hs1, Lib.hid ⟨_, HX.out, HOK.out, by rw [List.length_set]; exact HOL.out, HST.out⟩, Lib.hid ((HB2.out.trans ((Below.refl w.heap.size wr).drew)).setCell (Nat.le_refl _) _)⟩
                   case measure => simp [intOf]; omega)
          · have hjI : ¬ (jn : Int) < (nb : Int) := by omega
            have hcI : (0 : Int) < (cn : Int) := by omega
            go_wp2_with fail
            go_region_held3 (fun w' => w'.cell? ⟨w.heap.size, k + jn, none⟩ = some (.int .u64 (o : Int)) ∧ w'.cell? ⟨ba, oa + k, none⟩ = some (.int .u64 (ak : Int))) ((refine ⟨?_, ?_⟩) <;> go_simp) (first
              | (go_at_call 11; with_reducible refine (CAT.out).mono ?_; rintro e5 w5 ⟨rfl, rfl⟩)
              | fail)
            all_goals
              go_wp2
              first
                | exact ⟨⟨s / 65536, jn + 1, by go_num, by go_num, by omega, hs1, Lib.hid ⟨_, HX.out, HOK.out, by rw [List.length_set]; exact HOL.out, HST.out⟩, Lib.hid ((HB2.out.trans ((Below.refl w.heap.size wr).drew)).setCell (Nat.le_refl _) _)⟩, by simp [intOf]; omega⟩
                | (go_roundw
                   case rel => exact ⟨s / 65536, jn + 1, rfl, by go_num, by omega, hs1, Lib.hid ⟨_, HX.out, HOK.out, by rw [List.length_set]; exact HOL.out, HST.out⟩, Lib.hid ((HB2.out.trans ((Below.refl w.heap.size wr).drew)).setCell (Nat.le_refl _) _)⟩
                   case measure => simp [intOf]; omega)
        · have hjI : ¬ (jn : Int) < (nb : Int) := by omega
          obtain rfl : cn = 0 := by omega
          have hfin : ∃ O, OwnU wr w.heap.size (.slice (some ⟨w.heap.size, 0, none⟩) M M) O ∧ okD O ∧ O.length = M ∧ vD (FL O) M = vD (FL a) (k + 1) * vD (FL b) nb := by
            obtain ⟨O, h1, h2, h3, h4⟩ := hO2.out
            exact ⟨O, h1, h2, h3, times_row (A := FL a) (f := FL b) (lb := nb) (by omega) (fun q hq => FL_out (by have := HNB.out; omega)) HAK.out h4⟩
          have HFIN := Lib.hid hfin
          clear hfin hO2 hO
          go_wp2
          go_roundw
          case rel => exact ⟨k + 1, by omega, by go_num, HFIN, hbe2⟩
          case measure => simp [intOf]; omega
    · obtain rfl : k = na := by omega
      obtain ⟨O, h1, h2, h3, h4⟩ := hO.out
      have hv : vL O = vL a * vL b := by
        unfold vL
        rw [h3, h4, ← HNA.out, ← HNB.out]
      have HF := Lib.hid (And.intro h1 (And.intro h2 (And.intro hv (h3.trans (by rw [HM.out, HNA.out, HNB.out])))))
      clear h1 h2 h3 h4 hv hO
      go_wp2
      go_ret
      exact ⟨_, O, rfl, HF.out.1, HF.out.2.1, HF.out.2.2.1, HF.out.2.2.2, hbe.out⟩
end Go.Proofs.Ytnkbgokimafaeaa
