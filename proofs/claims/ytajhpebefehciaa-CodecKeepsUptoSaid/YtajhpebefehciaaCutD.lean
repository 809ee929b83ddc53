/- Cut: its pieces lie apart. -/
import Derived.Test.YtajhpebefehciaaCutS
import Derived.Test.YtajhpebefehciaaD1
namespace Go.Proofs.Ytajhpebefehciaa
open Go.RowKit

set_option maxHeartbeats 800000 in
theorem cut_dv {xs : List Int} {l : List UInt8} {v u : Value} {w : World} {B B2 : Nat} (hx : Is w B v xs) (hB : B ≤ w.heap.size) (hnn : ∀ x ∈ xs, 0 ≤ x) (hb : Bs w B2 u l) (hB2 : B2 ≤ w.heap.size) (hl : l.length ≤ 140737488355328) (hxs : xs.length ≤ 1099511627776) (hs : xs.sum = (l.length : Int)) :
    Calls Try.prog 55 #[u, v] w fun e w' => ∃ r ps, e = .returned (.tuple #[r, .int .i64 0]) ∧ Dv w' w.heap.size w.heap.size r xs.length ps ∧ ps.map (·.2) = cutsL l xs xs.length ∧ Below w.heap.size w w' := by
  have cf := fills_any (T := l.length) hx hnn (by omega)
  rw [decide_eq_true hs] at cf
  have CF := Lib.hid cf; clear cf
  have HS := Lib.hid hs; clear hs
  obtain ⟨Al, cl, rfl⟩ := hb.shape
  obtain ⟨A, c, rfl, h1, h2, h3⟩ := hx
  have H3 := Lib.hid h3; clear h3
  have HB := Lib.hid hb; clear hb
  unfold maxLen at h2
  have hmk := run_make_row' (P := Try.prog) 26 22 (.slice none 0 0) 24 Try.underlying26 u24info rfl .i64 .i64 xs.length (by omega) (by omega)
  have hrow := World.rowIs_made w (.slice none 0 0) xs.length 22
  have HR := Lib.hid hrow; clear hrow
  go_enter Try.func55, Try.ntmps55
  go_wp2_with fail
  go_loop [14] (fun i => ∃ k : Nat, k ≤ xs.length ∧ i = .int .i64 k) (fun i => xs.length - (intOf i).toNat)
  case atStart => exact ⟨0, Nat.zero_le _, rfl⟩
  case round =>
    obtain ⟨k, hk, rfl⟩ := hrel
    by_cases hlt : k < xs.length
    · obtain ⟨b, off, rfl, hbB, hc⟩ := H3.out (by omega)
      have hcell := (hc k hlt).1
      have hle := hnn _ (List.getElem_mem hlt)
      clear hc hmk
      go_wp2
      go_round
      case rel => exact ⟨k + 1, by omega, by go_num⟩
      case measure => simp [intOf]; omega
    · go_wp2_with (go_at_call 81; refine (CF.out).mono ?_; rintro e w' ⟨rfl, rfl⟩)
      clear hmk
      go_loopw [9, 31] (fun t i wr => ∃ k : Nat, k ≤ xs.length ∧ i = .int .i64 k ∧ ∃ p : Nat, t = .int .i64 p ∧ Hid ((p : Int) = preI xs k) ∧ Below w.heap.size w wr ∧
        ∃ us : List Value, Hid (us.length = k ∧ wr.rowIs w.heap.size 22 xs.length (fun j => us.getD j (Value.slice none 0 0)) ∧ ∀ j (h : j < us.length), Own wr w.heap.size us[j] (pieceL l xs j)) ∧ Hid (us.Pairwise fun x y => ∀ j, x.ownBlock = some j → y.ownBlock ≠ some j)) (fun _ i _ => xs.length - (intOf i).toNat)
      case atStart => exact ⟨0, Nat.zero_le _, rfl, 0, rfl, by show _ = _; rw [preI_zero]; rfl, (Below.refl _ _).alloc (Nat.le_refl _) _, [], ⟨rfl, HR.out.congr (fun i _ => by simp), fun j h => absurd h (by simp)⟩, List.Pairwise.nil⟩
      case round =>
        obtain ⟨j, hj, rfl, p, rfl, hp, hbel, us, hus, hdis⟩ := hrel
        by_cases hlt2 : j < xs.length
        · obtain ⟨b, off, rfl, hbB, hc⟩ := H3.out (by omega)
          have hcell := (hbel.cell (p := ⟨b, off + j, none⟩) (by show b < _; omega)).trans (hc j hlt2).1
          have hle := hnn _ (List.getElem_mem hlt2)
          have hm := (preI_mono xs hnn (j + 1)).2
          have hsx := preI_succ xs hlt2
          obtain ⟨q, hq⟩ : ∃ q : Nat, (q : Int) = xs[j] := ⟨xs[j].toNat, by omega⟩
          have hpq : p + q ≤ l.length := by have := hp.out; have := HS.out; omega
          have hpq2 : ((p + q : Nat) : Int) = preI xs (j + 1) := by have := hp.out; omega
          have hpc : pieceL l xs j = (l.drop p).take q := by
            have e1 := hp.out
            simp only [pieceL, ← e1, Int.toNat_natCast]
            rw [show xs.getD j 0 = xs[j] by simp [hlt2], ← hq, Int.toNat_natCast]
          rw [← hq] at hcell
          have HPQ := Lib.hid hpq2; have HPC := Lib.hid hpc
          clear hc hm hsx hle hq hpq2 hpc
          have hbw : Bs wr B2 (.slice Al l.length cl) l := HB.out.below hbel hB2
          obtain ⟨D, hD, hrun⟩ := hbw.piece (lo := p) (hi := p + q) (by omega) hpq
          have epq : p + q - p = q := by omega
          rw [epq] at hD hrun
          have hlenp : ((l.drop p).take q).length = q := by simp; omega
          have HDD := Lib.hid hD; have HLP := Lib.hid hlenp
          clear hD hlenp epq hbw
          have hrun' : ∀ W, (Instr.slice 22 (.slice Al l.length cl) (some (.int .i64 (p : Int))) (some (.int .i64 ((p : Int) + (q : Int)))) none).run Try.prog W = .ok (.slice D q (cl - p)) W := hrun
          clear hrun
          have hsz := hbel.size
          obtain ⟨hul, hrw, hue⟩ := hus.out
          have hlen2 : us.length = j := hul
          clear hus
          have HUL := Lib.hid hul; have HRW := Lib.hid hrw; have HUE := Lib.hid hue; clear hul hrw hue hlen2
          have cl1 := clone_any HDD.out (by omega) (by rw [HLP.out]; omega)
          have CL := Lib.hid cl1; clear cl1
          go_wp2_with (go_at_call 78; refine (CL.out).mono ?_; rintro e w2 ⟨u2, rfl, ho2, hb2⟩; obtain ⟨A2, c2, rfl⟩ := ho2.shape; have hr2 := rowIs_below HRW.out hb2 HRW.out.lt; have hcl := hr2.cell hlt2; have hfz := hr2.frozen j; have hsome : ∃ old, us.getD j (Value.slice none 0 0) = old := ⟨_, rfl⟩; obtain ⟨old, hold⟩ := hsome; rw [hold] at hcl; clear hold; have HBN : Hid (∀ b, (Value.slice A2 q c2).ownBlock = some b → wr.heap.size ≤ b) := Lib.hid (fun b hb => (ownLt ho2 (by rw [HLP.out]; exact hb)).1); rw [HLP.out]; have HR2 := Lib.hid hr2; clear hr2)
          go_roundw
          case rel =>
            have ho2' : Own w2 w.heap.size (.slice A2 q c2) (pieceL l xs j) := by
              have h5 := ho2.more hsz
              rw [HLP.out] at h5
              rw [HPC.out]
              exact h5
            refine ⟨j + 1, by omega, by go_num, p + q, by go_num, HPQ.out, (hbel.trans (hb2.mono hsz)).setCell (Nat.le_refl _) _, us ++ [.slice A2 q c2], ?_⟩
            refine ⟨⟨by simp [HUL.out], (HR2.out.set j _).congr fun i _ => (getD_snoc HUL.out i).symm, fun i hi => ?_⟩, List.pairwise_append.2 ⟨hdis.out, List.pairwise_singleton _ _, fun x hx y hy b hb hb' => ?_⟩⟩
            rotate_left
            · obtain rfl : y = .slice A2 q c2 := by simpa using hy
              obtain ⟨i, hi, rfl⟩ := List.getElem_of_mem hx
              have h1 := (ownLt (HUE.out i hi) hb).2
              have h2 := HBN.out b hb'
              omega
            by_cases hlt3 : i < us.length
            · rw [List.getElem_append_left hlt3]
              exact ((HUE.out i hlt3).below hb2 (Nat.le_refl _)).setOther HR2.out (by decide) _ _
            · have hij : i = j := by have := HUL.out; simp at hi; omega
              subst hij
              have e1 : (us ++ [Value.slice A2 q c2])[i] = .slice A2 q c2 := by
                have := HUL.out
                subst this
                simp
              rw [e1]
              exact ho2'.setOther HR2.out (by decide) _ _
          case measure => simp [intOf]; omega
        · have hjx : j = xs.length := by omega
          obtain ⟨hul, hrw, hue⟩ := hus.out
          have hlen2 : us.length = xs.length := by omega
          have hfin : Dv wr w.heap.size w.heap.size (.slice (some ⟨w.heap.size, 0, none⟩) xs.length xs.length) xs.length ((List.range xs.length).map fun i => (us.getD i (.slice none 0 0), pieceL l xs i)) ∧ ((List.range xs.length).map fun i => (us.getD i (.slice none 0 0), pieceL l xs i)).map (·.2) = cutsL l xs xs.length := by
            have em : ((List.range xs.length).map fun i => (us.getD i (.slice none 0 0), pieceL l xs i)).map (·.1) = us := by
              refine List.ext_getElem (by simp [hlen2]) fun i h1 h2 => ?_
              simp [h2]
            refine ⟨⟨?_, fun p hp => ?_, ?_⟩, ?_⟩
            · rw [em]
              exact owns_of_row hrw (Nat.le_refl _) (by unfold maxLen; omega) hlen2 fun i hi => by simp [hi]
            · obtain ⟨i, hi, rfl⟩ := List.mem_map.1 hp
              have hi2 : i < us.length := by rw [hlen2]; simpa using hi
              have := hue i hi2
              show Own wr w.heap.size (us.getD i (.slice none 0 0)) (pieceL l xs i)
              rwa [show us.getD i (.slice none 0 0) = us[i] by simp [hi2]]
            · have hd := hdis.out
              rw [← em] at hd
              have hd2 := List.pairwise_map.1 hd
              exact hd2
            · simp [cutsL]
          have HFI := Lib.hid hfin; clear hfin hul hrw hue hlen2 hus hjx
          go_wp2
          go_ret2
          exact ⟨_, _, rfl, HFI.out.1, HFI.out.2, hbel⟩
end Go.Proofs.Ytajhpebefehciaa
