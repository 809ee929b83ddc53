/- clone and fills of codec, and Cut: bytes in consecutive pieces; Join and Cut of the reference. -/
import Derived.Test.YtajhpebefehciaaCopyB
import Derived.Test.YtajhpebefehciaaCloneT
namespace Go.Proofs.Ytajhpebefehciaa
open Go.RowKit

/-- how far the first k sizes reach -/
def preI (xs : List Int) (k : Nat) : Int := (xs.take k).sum
theorem preI_zero (xs : List Int) : preI xs 0 = 0 := by simp [preI]
theorem preI_succ (xs : List Int) {k : Nat} (h : k < xs.length) : preI xs (k + 1) = preI xs k + xs[k] := by
  unfold preI
  rw [List.take_succ_eq_append_getElem h, List.sum_append]
  simp
theorem preI_end (xs : List Int) {k : Nat} (h : xs.length ≤ k) : preI xs k = xs.sum := by unfold preI; rw [List.take_of_length_le h]
theorem sum_nonneg (xs : List Int) (h : ∀ x ∈ xs, 0 ≤ x) : 0 ≤ xs.sum := by
  induction xs with
  | nil => simp
  | cons x r ih =>
    have h1 := h x (by simp)
    have h2 := ih fun y hy => h y (by simp [hy])
    simp only [List.sum_cons]
    omega
theorem preI_mono (xs : List Int) (h : ∀ x ∈ xs, 0 ≤ x) (k : Nat) : 0 ≤ preI xs k ∧ preI xs k ≤ xs.sum := by
  have e : xs.sum = preI xs k + (xs.drop k).sum := by
    unfold preI
    rw [← List.sum_append, List.take_append_drop]
  have h1 := sum_nonneg (xs.take k) fun x hx => h x (List.mem_of_mem_take hx)
  have h2 := sum_nonneg (xs.drop k) fun x hx => h x (List.mem_of_mem_drop hx)
  unfold preI at *
  omega

set_option maxHeartbeats 400000 in
theorem fills_any {xs : List Int} {v : Value} {T : Nat} {w : World} {B : Nat} (hx : Is w B v xs) (hnn : ∀ x ∈ xs, 0 ≤ x) (hT : T ≤ 281474976710656) :
    Calls Try.prog 81 #[v, .int .i64 T] w fun e w' => e = .returned (.bool (decide (xs.sum = T))) ∧ w = w' := by
  obtain ⟨A, c, rfl, h1, h2, h3⟩ := hx
  have H3 := Lib.hid h3; clear h3
  unfold maxLen at h2
  go_enter Try.func81, Try.ntmps81
  go_wp2
  go_loop [1, 9] (fun t i => ∃ k : Nat, k ≤ xs.length ∧ i = .int .i64 k ∧ ∃ y : Int, t = .int .i64 y ∧ 0 ≤ y ∧ y ≤ T ∧ Hid (y = T - preI xs k)) (fun _ i => xs.length - (intOf i).toNat)
  case atStart => exact ⟨0, Nat.zero_le _, rfl, T, rfl, by omega, by omega, by show _ = _; rw [preI_zero]; omega⟩
  case round =>
    obtain ⟨k, hk, rfl, y, rfl, hy0, hyT, hy⟩ := hrel
    by_cases hlt : k < xs.length
    · obtain ⟨b, off, rfl, hbB, hc⟩ := H3.out (by omega)
      have hcell := (hc k hlt).1
      clear hc
      have hx0 := hnn _ (List.getElem_mem hlt)
      by_cases hgt : y < xs[k]
      · have hd : decide (xs.sum = T) = false := by
          have e1 := preI_succ xs hlt
          have e2 := (preI_mono xs hnn (k + 1)).2
          have e3 := hy.out
          simp only [decide_eq_false_iff_not]
          omega
        have HD := Lib.hid hd; clear hd
        go_wp2
        go_ret
        exact ⟨ret_bool HD.out.symm, rfl⟩
      · have hle : xs[k] ≤ y := by omega
        clear hgt
        have HS := Lib.hid (preI_succ xs hlt)
        go_wp2
        go_round
        case rel => exact ⟨k + 1, by omega, by go_num, _, rfl, by omega, by omega, by show _ = _; rw [HS.out]; have := hy.out; omega⟩
        case measure => simp [intOf]; omega
    · have hd : decide (xs.sum = T) = (y == 0) := by
        have e1 := preI_end xs (k := k) (by omega)
        have e3 := hy.out
        rw [Bool.eq_iff_iff]
        simp only [decide_eq_true_eq, beq_iff_eq]
        omega
      have HD := Lib.hid hd; clear hd
      go_wp2
      go_ret
      exact ⟨ret_bool HD.out.symm, rfl⟩

def pieceL (l : List UInt8) (xs : List Int) (k : Nat) : List UInt8 := (l.drop (preI xs k).toNat).take (xs.getD k 0).toNat
def cutsL (l : List UInt8) (xs : List Int) (k : Nat) : List (List UInt8) := (List.range k).map (pieceL l xs)
theorem cutsL_length (l : List UInt8) (xs : List Int) (k : Nat) : (cutsL l xs k).length = k := by simp [cutsL]
theorem cutsL_succ (l : List UInt8) (xs : List Int) (k : Nat) : cutsL l xs (k + 1) = cutsL l xs k ++ [pieceL l xs k] := by
  simp [cutsL, List.range_succ]

set_option maxHeartbeats 400000 in
theorem cut_arg {xs : List Int} {v u : Value} {w : World} {B : Nat} (hx : Is w B v xs) (hneg : ¬ ∀ x ∈ xs, 0 ≤ x) :
    Calls Try.prog 55 #[u, v] w fun e w' => e = .returned (.tuple #[.slice none 0 0, .int .i64 1]) ∧ w = w' := by
  obtain ⟨A, c, rfl, h1, h2, h3⟩ := hx
  have H3 := Lib.hid h3; clear h3
  have HN := Lib.hid hneg; clear hneg
  unfold maxLen at h2
  go_enter Try.func55, Try.ntmps55
  go_wp2
  go_loop [14] (fun i => ∃ k : Nat, k ≤ xs.length ∧ i = .int .i64 k ∧ Hid (∀ j (h : j < xs.length), j < k → 0 ≤ xs[j])) (fun i => xs.length - (intOf i).toNat)
  case atStart => exact ⟨0, Nat.zero_le _, rfl, fun j h h2 => absurd h2 (by omega)⟩
  case round =>
    obtain ⟨k, hk, rfl, hy⟩ := hrel
    by_cases hlt : k < xs.length
    · obtain ⟨b, off, rfl, hbB, hc⟩ := H3.out (by omega)
      have hcell := (hc k hlt).1
      clear hc
      by_cases hgt : xs[k] < 0
      · go_wp2
        go_ret2
        exact ⟨rfl, rfl⟩
      · have hle : 0 ≤ xs[k] := by omega
        clear hgt
        go_wp2
        go_round
        case rel => exact ⟨k + 1, by omega, by go_num, fun j h h2 => by
          rcases Nat.lt_or_ge j k with h3 | h3
          · exact hy.out j h h3
          · obtain rfl : j = k := by omega
            exact hle⟩
        case measure => simp [intOf]; omega
    · exfalso
      refine HN.out fun x hx => ?_
      obtain ⟨j, hj, rfl⟩ := List.getElem_of_mem hx
      exact hy.out j hj (by omega)

set_option maxHeartbeats 400000 in
theorem cut_size {xs : List Int} {l : List UInt8} {v u : Value} {w : World} {B B2 : Nat} (hx : Is w B v xs) (hnn : ∀ x ∈ xs, 0 ≤ x) (hb : Bs w B2 u l) (hl : l.length ≤ 281474976710656) (hs : decide (xs.sum = (l.length : Int)) = false) :
    Calls Try.prog 55 #[u, v] w fun e w' => e = .returned (.tuple #[.slice none 0 0, .int .i64 2]) ∧ w = w' := by
  have cf := fills_any (T := l.length) hx hnn hl
  rw [hs] at cf
  have CF := Lib.hid cf; clear cf hs
  obtain ⟨Al, cl, rfl⟩ := hb.shape
  obtain ⟨A, c, rfl, h1, h2, h3⟩ := hx
  have H3 := Lib.hid h3; clear h3 hb
  unfold maxLen at h2
  go_enter Try.func55, Try.ntmps55
  go_wp2
  go_loop [14] (fun i => ∃ k : Nat, k ≤ xs.length ∧ i = .int .i64 k) (fun i => xs.length - (intOf i).toNat)
  case atStart => exact ⟨0, Nat.zero_le _, rfl⟩
  case round =>
    obtain ⟨k, hk, rfl⟩ := hrel
    by_cases hlt : k < xs.length
    · obtain ⟨b, off, rfl, hbB, hc⟩ := H3.out (by omega)
      have hcell := (hc k hlt).1
      have hle := hnn _ (List.getElem_mem hlt)
      clear hc
      go_wp2
      go_round
      case rel => exact ⟨k + 1, by omega, by go_num⟩
      case measure => simp [intOf]; omega
    · go_wp2_with (go_at_call 81; refine (CF.out).mono ?_; rintro e w' ⟨rfl, rfl⟩)
      go_ret2
      exact ⟨rfl, rfl⟩

set_option maxHeartbeats 800000 in
theorem cut_ok {xs : List Int} {l : List UInt8} {v u : Value} {w : World} {B B2 : Nat} (hx : Is w B v xs) (hB : B ≤ w.heap.size) (hnn : ∀ x ∈ xs, 0 ≤ x) (hb : Bs w B2 u l) (hB2 : B2 ≤ w.heap.size) (hl : l.length ≤ 140737488355328) (hxs : xs.length ≤ 1099511627776) (hs : xs.sum = (l.length : Int)) :
    Calls Try.prog 55 #[u, v] w fun e w' => ∃ r, e = .returned (.tuple #[r, .int .i64 0]) ∧ OwnRs w' w.heap.size r (cutsL l xs xs.length) ∧ Below w.heap.size w w' := by
  have cf := fills_any (T := l.length) hx hnn (by omega)
  rw [decide_eq_true hs] at cf
  have CF := Lib.hid cf; clear cf
  have HS := Lib.hid hs; clear hs
  obtain ⟨Al, cl, rfl⟩ := hb.shape
  obtain ⟨A, c, rfl, h1, h2, h3⟩ := hx
  have H3 := Lib.hid h3; clear h3
  have HB := Lib.hid hb; clear hb
  unfold maxLen at h2
  have hmk := run_make_row' (P := Try.prog) 26 22 (.slice none 0 0) 24 Try.underlying26 u24info rfl .i64 .i64 xs.length (by omega) (by omega)
  have hrow := World.rowIs_made w (.slice none 0 0) xs.length 22
  have HR := Lib.hid hrow; clear hrow
  go_enter Try.func55, Try.ntmps55
  go_wp2_with fail
  go_loop [14] (fun i => ∃ k : Nat, k ≤ xs.length ∧ i = .int .i64 k) (fun i => xs.length - (intOf i).toNat)
  case atStart => exact ⟨0, Nat.zero_le _, rfl⟩
  case round =>
    obtain ⟨k, hk, rfl⟩ := hrel
    by_cases hlt : k < xs.length
    · obtain ⟨b, off, rfl, hbB, hc⟩ := H3.out (by omega)
      have hcell := (hc k hlt).1
      have hle := hnn _ (List.getElem_mem hlt)
      clear hc hmk
      go_wp2
      go_round
      case rel => exact ⟨k + 1, by omega, by go_num⟩
      case measure => simp [intOf]; omega
    · go_wp2_with (go_at_call 81; refine (CF.out).mono ?_; rintro e w' ⟨rfl, rfl⟩)
      clear hmk
      go_loopw [9, 31] (fun t i wr => ∃ k : Nat, k ≤ xs.length ∧ i = .int .i64 k ∧ ∃ p : Nat, t = .int .i64 p ∧ Hid ((p : Int) = preI xs k) ∧ Below w.heap.size w wr ∧
        ∃ us : List Value, Hid (us.length = k ∧ wr.rowIs w.heap.size 22 xs.length (fun j => us.getD j (Value.slice none 0 0)) ∧ ∀ j (h : j < us.length), Own wr w.heap.size us[j] (pieceL l xs j))) (fun _ i _ => xs.length - (intOf i).toNat)
      case atStart => exact ⟨0, Nat.zero_le _, rfl, 0, rfl, by show _ = _; rw [preI_zero]; rfl, (Below.refl _ _).alloc (Nat.le_refl _) _, [], rfl, HR.out.congr (fun i _ => by simp), fun j h => absurd h (by simp)⟩
      case round =>
        obtain ⟨j, hj, rfl, p, rfl, hp, hbel, us, hus⟩ := hrel
        by_cases hlt2 : j < xs.length
        · obtain ⟨b, off, rfl, hbB, hc⟩ := H3.out (by omega)
          have hcell := (hbel.cell (p := ⟨b, off + j, none⟩) (by show b < _; omega)).trans (hc j hlt2).1
          have hle := hnn _ (List.getElem_mem hlt2)
          have hm := (preI_mono xs hnn (j + 1)).2
          have hsx := preI_succ xs hlt2
          obtain ⟨q, hq⟩ : ∃ q : Nat, (q : Int) = xs[j] := ⟨xs[j].toNat, by omega⟩
          have hpq : p + q ≤ l.length := by have := hp.out; have := HS.out; omega
          have hpq2 : ((p + q : Nat) : Int) = preI xs (j + 1) := by have := hp.out; omega
          have hpc : pieceL l xs j = (l.drop p).take q := by
            have e1 := hp.out
            simp only [pieceL, ← e1, Int.toNat_natCast]
            rw [show xs.getD j 0 = xs[j] by simp [hlt2], ← hq, Int.toNat_natCast]
          rw [← hq] at hcell
          have HPQ := Lib.hid hpq2; have HPC := Lib.hid hpc
          clear hc hm hsx hle hq hpq2 hpc
          have hbw : Bs wr B2 (.slice Al l.length cl) l := HB.out.below hbel hB2
          obtain ⟨D, hD, hrun⟩ := hbw.piece (lo := p) (hi := p + q) (by omega) hpq
          have epq : p + q - p = q := by omega
          rw [epq] at hD hrun
          have hlenp : ((l.drop p).take q).length = q := by simp; omega
          have HDD := Lib.hid hD; have HLP := Lib.hid hlenp
          clear hD hlenp epq hbw
          have hrun' : ∀ W, (Instr.slice 22 (.slice Al l.length cl) (some (.int .i64 (p : Int))) (some (.int .i64 ((p : Int) + (q : Int)))) none).run Try.prog W = .ok (.slice D q (cl - p)) W := hrun
          clear hrun
          have hsz := hbel.size
          obtain ⟨hul, hrw, hue⟩ := hus.out
          have hlen2 : us.length = j := hul
          clear hus
          have HUL := Lib.hid hul; have HRW := Lib.hid hrw; have HUE := Lib.hid hue; clear hul hrw hue hlen2
          have cl1 := clone_any HDD.out (by omega) (by rw [HLP.out]; omega)
          have CL := Lib.hid cl1; clear cl1
          go_wp2_with (go_at_call 78; refine (CL.out).mono ?_; rintro e w2 ⟨u2, rfl, ho2, hb2⟩; obtain ⟨A2, c2, rfl⟩ := ho2.shape; have hr2 := rowIs_below HRW.out hb2 HRW.out.lt; have hcl := hr2.cell hlt2; have hfz := hr2.frozen j; have hsome : ∃ old, us.getD j (Value.slice none 0 0) = old := ⟨_, rfl⟩; obtain ⟨old, hold⟩ := hsome; rw [hold] at hcl; clear hold; rw [HLP.out]; have HR2 := Lib.hid hr2; clear hr2)
          go_roundw
          case rel =>
            have ho2' : Own w2 w.heap.size (.slice A2 q c2) (pieceL l xs j) := by
              have h5 := ho2.more hsz
              rw [HLP.out] at h5
              rw [HPC.out]
              exact h5
            refine ⟨j + 1, by omega, by go_num, p + q, by go_num, HPQ.out, (hbel.trans (hb2.mono hsz)).setCell (Nat.le_refl _) _, us ++ [.slice A2 q c2], ?_⟩
            refine ⟨by simp [HUL.out], (HR2.out.set j _).congr fun i _ => (getD_snoc HUL.out i).symm, fun i hi => ?_⟩
            by_cases hlt3 : i < us.length
            · rw [List.getElem_append_left hlt3]
              exact ((HUE.out i hlt3).below hb2 (Nat.le_refl _)).setOther HR2.out (by decide) _ _
            · have hij : i = j := by have := HUL.out; simp at hi; omega
              subst hij
              have e1 : (us ++ [Value.slice A2 q c2])[i] = .slice A2 q c2 := by
                have := HUL.out
                subst this
                simp
              rw [e1]
              exact ho2'.setOther HR2.out (by decide) _ _
          case measure => simp [intOf]; omega
        · have hjx : j = xs.length := by omega
          obtain ⟨hul, hrw, hue⟩ := hus.out
          have hlen2 : us.length = xs.length := by omega
          have hfin : OwnRs wr w.heap.size (.slice (some ⟨w.heap.size, 0, none⟩) xs.length xs.length) (cutsL l xs xs.length) := by
            refine ⟨us, ?_, by rw [cutsL_length]; exact hlen2, fun i hi hi' => ?_⟩
            · rw [cutsL_length]
              exact owns_of_row hrw (Nat.le_refl _) (by unfold maxLen; omega) hlen2 fun i hi => by simp [hi]
            · have : (cutsL l xs xs.length)[i] = pieceL l xs i := by simp [cutsL]
              rw [this]
              exact hue i hi
          have HFI := Lib.hid hfin; clear hfin hul hrw hue hlen2 hus hjx
          go_wp2
          go_ret2
          exact ⟨_, rfl, HFI.out, hbel⟩
end Go.Proofs.Ytajhpebefehciaa
