/- Join and Cut of the reference. -/
import Derived.Test.YtpimklpkjinhiaaCut
namespace Go.Proofs.Ytpimklpkjinhiaa
open Go.RowKit

set_option maxHeartbeats 400000 in
theorem refjoin_any {ls : List (List UInt8)} {v : Value} {w : World} {B : Nat} (hr : Rs w B v ls) (hB : B ≤ w.heap.size) (hsum : ls.flatten.length ≤ 140737488355328) :
    Calls Try.prog 23 #[v] w fun e w' => ∃ u, e = .returned u ∧ Own w' w.heap.size u ls.flatten ∧ Below w.heap.size w w' := by
  obtain ⟨A, c, rfl, h1, h2, h3⟩ := hr
  have H3 := Lib.hid h3; clear h3
  unfold maxLen at h2
  go_enter Try.func23, Try.ntmps23
  go_wp2
  go_loopw [3, 4] (fun s i wr => ∃ k : Nat, k ≤ ls.length ∧ i = .int .i64 k ∧ Hid (Own wr w.heap.size s (preL ls k)) ∧ Below w.heap.size w wr) (fun _ i _ => ls.length - (intOf i).toNat)
  case atStart => exact ⟨0, Nat.zero_le _, rfl, show Own w w.heap.size _ (preL ls 0) from by simpa [preL] using Own.nil w w.heap.size, Below.refl _ _⟩
  case round =>
    obtain ⟨k, hk, rfl, hown, hbw⟩ := hrel
    by_cases hlt : k < ls.length
    · obtain ⟨b, off, rfl, hbB, hc⟩ := H3.out (by omega)
      obtain ⟨u, hu, hbs⟩ := hc k hlt
      have hu' := (hbw.cell (p := ⟨b, off + k, none⟩) (by show b < _; omega)).trans hu
      have hbs' := hbs.below hbw hB
      obtain ⟨As, cs, rfl⟩ := hown.out.shape
      obtain ⟨Au, cu, rfl⟩ := hbs'.shape
      have hle := preL_le ls (k + 1)
      rw [preL_len ls hlt] at hle
      have hsum2 : (preL ls k).length + ls[k].length ≤ 140737488355328 := by omega
      have hsz := hbw.size
      have HBS := Lib.hid hbs'
      clear hc hu hbs hbs' hle
      go_wp2_with (at_builtin; refine wpList_app rfl (.tmp 11) (.tmp 15) rfl rfl hown.out rfl HBS.out hsum2 (by omega) ?_)
      intro v' w' hown' hg _
      have hb3 := grown_below hbw hg (by omega) hown.out
      have hown2 : Own w' w.heap.size v' (preL ls (k + 1)) := by rw [preL_succ ls hlt]; exact hown'
      have HO := Lib.hid hown2
      clear hown' hown2 hg hown
      go_wp2
      go_roundw
      case rel => exact ⟨k + 1, by omega, by go_num, HO, hb3⟩
      case measure => simp [intOf]; omega
    · have ho := hown.out
      rw [preL_end ls (by omega)] at ho
      clear hown
      go_wp2
      go_ret
      exact ⟨_, rfl, ho, hbw⟩

set_option maxHeartbeats 400000 in
theorem refcut_arg {xs : List Int} {v u : Value} {w : World} {B : Nat} (hx : Is w B v xs) (hneg : ¬ ∀ x ∈ xs, 0 ≤ x) :
    Calls Try.prog 26 #[u, v] w fun e w' => e = .returned (.tuple #[.slice none 0 0, .int .i64 1]) ∧ w = w' := by
  obtain ⟨A, c, rfl, h1, h2, h3⟩ := hx
  have H3 := Lib.hid h3; clear h3
  have HN := Lib.hid hneg; clear hneg
  unfold maxLen at h2
  go_enter Try.func26, Try.ntmps26
  go_wp2
  go_loop [6] (fun i => ∃ k : Nat, k ≤ xs.length ∧ i = .int .i64 k ∧ Hid (∀ j (h : j < xs.length), j < k → 0 ≤ xs[j])) (fun i => xs.length - (intOf i).toNat)
  case atStart => exact ⟨0, Nat.zero_le _, rfl, fun j h h2 => absurd h2 (by omega)⟩
  case round =>
    obtain ⟨k, hk, rfl, hy⟩ := hrel
    by_cases hlt : k < xs.length
    · obtain ⟨b, off, rfl, hbB, hc⟩ := H3.out (by omega)
      have hcell := (hc k hlt).1
      clear hc
      by_cases hgt : xs[k] < 0
      · go_wp2
        go_ret2
        exact ⟨rfl, rfl⟩
      · have hle : 0 ≤ xs[k] := by omega
        clear hgt
        go_wp2
        go_round
        case rel => exact ⟨k + 1, by omega, by go_num, fun j h h2 => by
          rcases Nat.lt_or_ge j k with h3 | h3
          · exact hy.out j h h3
          · obtain rfl : j = k := by omega
            exact hle⟩
        case measure => simp [intOf]; omega
    · exfalso
      refine HN.out fun x hx => ?_
      obtain ⟨j, hj, rfl⟩ := List.getElem_of_mem hx
      exact hy.out j hj (by omega)

set_option maxHeartbeats 800000 in
theorem refcut_size {xs : List Int} {l : List UInt8} {v u : Value} {w : World} {B B2 : Nat} (hx : Is w B v xs) (hB : B ≤ w.heap.size) (hnn : ∀ x ∈ xs, 0 ≤ x) (hb : Bs w B2 u l) (hB2 : B2 ≤ w.heap.size) (hl : l.length ≤ 140737488355328) (hxs : xs.length ≤ 1099511627776) (hs : xs.sum ≠ (l.length : Int)) :
    Calls Try.prog 26 #[u, v] w fun e w' => e = .returned (.tuple #[.slice none 0 0, .int .i64 2]) ∧ Below w.heap.size w w' := by
  have HS := Lib.hid hs; clear hs
  obtain ⟨Al, cl, rfl⟩ := hb.shape
  obtain ⟨A, c, rfl, h1, h2, h3⟩ := hx
  have H3 := Lib.hid h3; clear h3
  have HB := Lib.hid hb; clear hb
  unfold maxLen at h2
  go_enter Try.func26, Try.ntmps26
  go_wp2_with fail
  go_loop [6] (fun i => ∃ k : Nat, k ≤ xs.length ∧ i = .int .i64 k) (fun i => xs.length - (intOf i).toNat)
  case atStart => exact ⟨0, Nat.zero_le _, rfl⟩
  case round =>
    obtain ⟨k, hk, rfl⟩ := hrel
    by_cases hlt : k < xs.length
    · obtain ⟨b, off, rfl, hbB, hc⟩ := H3.out (by omega)
      have hcell := (hc k hlt).1
      have hle := hnn _ (List.getElem_mem hlt)
      clear hc
      go_wp2
      go_round
      case rel => exact ⟨k + 1, by omega, by go_num⟩
      case measure => simp [intOf]; omega
    · go_wp2
      go_loopw [7, 8, 9] (fun s t i wr => ∃ k : Nat, k ≤ xs.length ∧ i = .int .i64 k ∧ ∃ p : Nat, t = .int .i64 p ∧ p ≤ l.length ∧ Hid ((p : Int) = preI xs k) ∧ Below w.heap.size w wr ∧ Hid (OwnRs wr w.heap.size s (cutsL l xs k))) (fun _ _ i _ => xs.length - (intOf i).toNat)
      case atStart => exact ⟨0, Nat.zero_le _, rfl, 0, rfl, Nat.zero_le _, by show _ = _; rw [preI_zero]; rfl, Below.refl _ _, OwnRs.nil w w.heap.size⟩
      case round =>
        obtain ⟨j, hj, rfl, p, rfl, hpl, hp, hbel, hown⟩ := hrel
        by_cases hlt2 : j < xs.length
        · obtain ⟨b, off, rfl, hbB, hc⟩ := H3.out (by omega)
          have hcell := (hbel.cell (p := ⟨b, off + j, none⟩) (by show b < _; omega)).trans (hc j hlt2).1
          have hle := hnn _ (List.getElem_mem hlt2)
          have hm := (preI_mono xs hnn (j + 1)).2
          have hsx := preI_succ xs hlt2
          obtain ⟨q, hq⟩ : ∃ q : Nat, (q : Int) = xs[j] := ⟨xs[j].toNat, by omega⟩
          rw [← hq] at hcell
          by_cases hpq : p + q ≤ l.length
          · have hpq2 : ((p + q : Nat) : Int) = preI xs (j + 1) := by have := hp.out; omega
            have hpc : pieceL l xs j = (l.drop p).take q := by
              have e1 := hp.out
              simp only [pieceL, ← e1, Int.toNat_natCast]
              rw [show xs.getD j 0 = xs[j] by simp [hlt2], ← hq, Int.toNat_natCast]
            have HPQ := Lib.hid hpq2; have HPC := Lib.hid hpc
            clear hc hm hsx hle hq hpq2 hpc
            have hbw : Bs wr B2 (.slice Al l.length cl) l := HB.out.below hbel hB2
            obtain ⟨D, hD, hrun⟩ := hbw.piece (lo := p) (hi := p + q) (by omega) hpq
            have epq : p + q - p = q := by omega
            rw [epq] at hD hrun
            have hlenp : ((l.drop p).take q).length = q := by simp; omega
            have HDD := Lib.hid hD; have HLP := Lib.hid hlenp
            clear hD hlenp epq hbw
            have hrun' : ∀ W, (Instr.slice 24 (.slice Al l.length cl) (some (.int .i64 (p : Int))) (some (.int .i64 ((p : Int) + (q : Int)))) none).run Try.prog W = .ok (.slice D q (cl - p)) W := hrun
            clear hrun
            have hsz := hbel.size
            have hO := hown.out
            have hlk := cutsL_length l xs j
            obtain ⟨As, cs, es⟩ := hO.shape
            rw [hlk] at es
            subst es
            have HLK := Lib.hid hlk; clear hlk hown
            have cl1 := copy_any HDD.out (by omega) (by rw [HLP.out]; omega)
            have CL := Lib.hid cl1; clear cl1
            have hg0 : (l.length : Int) - p < q → False := by omega
            clear hg0
            go_wp2_with (first
              | (go_at_call 18; refine (CL.out).mono ?_; rintro e w2 ⟨u2, rfl, ho2, hb2⟩; obtain ⟨A2, c2, rfl⟩ := ho2.shape; rw [HLP.out] at ho2; rw [HLP.out]; have hO2 := (hO.below hb2 (Nat.le_refl _)).alloc (.cells #[.slice A2 q c2] 24); have hu2 := (ho2.more hsz).alloc (.cells #[.slice A2 q c2] 24); have hs2 := hb2.size)
              | (at_builtin; refine wpList_appR rfl (.tmp 36) (.tmp 47) rfl rfl hO2 ⟨w2.heap.size, 0, none⟩ rfl (cell_new _ _ _) hu2 (by rw [HLK.out]; omega) (by simp; omega) ?_))
            intro v' w' hown' hbel'
            have hb3 : Below w.heap.size w w' := ((hbel.trans (hb2.mono hsz)).alloc (by omega) _).trans hbel'
            have hown2 : OwnRs w' w.heap.size v' (cutsL l xs (j + 1)) := by rw [cutsL_succ, HPC.out]; exact hown'
            have hcell2 := (hb3.cell (p := ⟨b, off + j, none⟩) (by show b < _; omega)).trans ((hbel.cell (p := ⟨b, off + j, none⟩) (by show b < _; omega)).symm.trans hcell)
            have HO := Lib.hid hown2
            clear hO2 hu2 hb2 ho2 hown' hO hown2 hcell hbel' hrun'
            go_wp2
            go_roundw
            case rel => exact ⟨j + 1, by omega, by go_num, p + q, by go_num, hpq, HPQ.out, hb3, HO⟩
            case measure => simp [intOf]; omega
          · have hgt : (l.length : Int) - p < q := by omega
            clear hc hm hsx hle hq
            go_wp2
            go_ret2
            exact ⟨rfl, hbel⟩
        · have hend : (p : Int) = xs.sum := by have := hp.out; rw [preI_end xs (by omega)] at this; exact this
          have hne : ((p : Int) != (l.length : Int)) = true := by rw [bne_iff_ne, hend]; exact HS.out
          clear hend
          go_wp2
          go_ret2
          exact ⟨rfl, hbel⟩

set_option maxHeartbeats 800000 in
theorem refcut_ok {xs : List Int} {l : List UInt8} {v u : Value} {w : World} {B B2 : Nat} (hx : Is w B v xs) (hB : B ≤ w.heap.size) (hnn : ∀ x ∈ xs, 0 ≤ x) (hb : Bs w B2 u l) (hB2 : B2 ≤ w.heap.size) (hl : l.length ≤ 140737488355328) (hxs : xs.length ≤ 1099511627776) (hs : xs.sum = (l.length : Int)) :
    Calls Try.prog 26 #[u, v] w fun e w' => ∃ r, e = .returned (.tuple #[r, .int .i64 0]) ∧ OwnRs w' w.heap.size r (cutsL l xs xs.length) ∧ Below w.heap.size w w' := by
  have HS := Lib.hid hs; clear hs
  obtain ⟨Al, cl, rfl⟩ := hb.shape
  obtain ⟨A, c, rfl, h1, h2, h3⟩ := hx
  have H3 := Lib.hid h3; clear h3
  have HB := Lib.hid hb; clear hb
  unfold maxLen at h2
  go_enter Try.func26, Try.ntmps26
  go_wp2_with fail
  go_loop [6] (fun i => ∃ k : Nat, k ≤ xs.length ∧ i = .int .i64 k) (fun i => xs.length - (intOf i).toNat)
  case atStart => exact ⟨0, Nat.zero_le _, rfl⟩
  case round =>
    obtain ⟨k, hk, rfl⟩ := hrel
    by_cases hlt : k < xs.length
    · obtain ⟨b, off, rfl, hbB, hc⟩ := H3.out (by omega)
      have hcell := (hc k hlt).1
      have hle := hnn _ (List.getElem_mem hlt)
      clear hc
      go_wp2
      go_round
      case rel => exact ⟨k + 1, by omega, by go_num⟩
      case measure => simp [intOf]; omega
    · go_wp2
      go_loopw [7, 8, 9] (fun s t i wr => ∃ k : Nat, k ≤ xs.length ∧ i = .int .i64 k ∧ ∃ p : Nat, t = .int .i64 p ∧ p ≤ l.length ∧ Hid ((p : Int) = preI xs k) ∧ Below w.heap.size w wr ∧ Hid (OwnRs wr w.heap.size s (cutsL l xs k))) (fun _ _ i _ => xs.length - (intOf i).toNat)
      case atStart => exact ⟨0, Nat.zero_le _, rfl, 0, rfl, Nat.zero_le _, by show _ = _; rw [preI_zero]; rfl, Below.refl _ _, OwnRs.nil w w.heap.size⟩
      case round =>
        obtain ⟨j, hj, rfl, p, rfl, hpl, hp, hbel, hown⟩ := hrel
        by_cases hlt2 : j < xs.length
        · obtain ⟨b, off, rfl, hbB, hc⟩ := H3.out (by omega)
          have hcell := (hbel.cell (p := ⟨b, off + j, none⟩) (by show b < _; omega)).trans (hc j hlt2).1
          have hle := hnn _ (List.getElem_mem hlt2)
          have hm := (preI_mono xs hnn (j + 1)).2
          have hsx := preI_succ xs hlt2
          obtain ⟨q, hq⟩ : ∃ q : Nat, (q : Int) = xs[j] := ⟨xs[j].toNat, by omega⟩
          rw [← hq] at hcell
          by_cases hpq : p + q ≤ l.length
          · have hpq2 : ((p + q : Nat) : Int) = preI xs (j + 1) := by have := hp.out; omega
            have hpc : pieceL l xs j = (l.drop p).take q := by
              have e1 := hp.out
              simp only [pieceL, ← e1, Int.toNat_natCast]
              rw [show xs.getD j 0 = xs[j] by simp [hlt2], ← hq, Int.toNat_natCast]
            have HPQ := Lib.hid hpq2; have HPC := Lib.hid hpc
            clear hc hm hsx hle hq hpq2 hpc
            have hbw : Bs wr B2 (.slice Al l.length cl) l := HB.out.below hbel hB2
            obtain ⟨D, hD, hrun⟩ := hbw.piece (lo := p) (hi := p + q) (by omega) hpq
            have epq : p + q - p = q := by omega
            rw [epq] at hD hrun
            have hlenp : ((l.drop p).take q).length = q := by simp; omega
            have HDD := Lib.hid hD; have HLP := Lib.hid hlenp
            clear hD hlenp epq hbw
            have hrun' : ∀ W, (Instr.slice 24 (.slice Al l.length cl) (some (.int .i64 (p : Int))) (some (.int .i64 ((p : Int) + (q : Int)))) none).run Try.prog W = .ok (.slice D q (cl - p)) W := hrun
            clear hrun
            have hsz := hbel.size
            have hO := hown.out
            have hlk := cutsL_length l xs j
            obtain ⟨As, cs, es⟩ := hO.shape
            rw [hlk] at es
            subst es
            have HLK := Lib.hid hlk; clear hlk hown
            have cl1 := copy_any HDD.out (by omega) (by rw [HLP.out]; omega)
            have CL := Lib.hid cl1; clear cl1
            have hg0 : (l.length : Int) - p < q → False := by omega
            clear hg0
            go_wp2_with (first
              | (go_at_call 18; refine (CL.out).mono ?_; rintro e w2 ⟨u2, rfl, ho2, hb2⟩; obtain ⟨A2, c2, rfl⟩ := ho2.shape; rw [HLP.out] at ho2; rw [HLP.out]; have hO2 := (hO.below hb2 (Nat.le_refl _)).alloc (.cells #[.slice A2 q c2] 24); have hu2 := (ho2.more hsz).alloc (.cells #[.slice A2 q c2] 24); have hs2 := hb2.size)
              | (at_builtin; refine wpList_appR rfl (.tmp 36) (.tmp 47) rfl rfl hO2 ⟨w2.heap.size, 0, none⟩ rfl (cell_new _ _ _) hu2 (by rw [HLK.out]; omega) (by simp; omega) ?_))
            intro v' w' hown' hbel'
            have hb3 : Below w.heap.size w w' := ((hbel.trans (hb2.mono hsz)).alloc (by omega) _).trans hbel'
            have hown2 : OwnRs w' w.heap.size v' (cutsL l xs (j + 1)) := by rw [cutsL_succ, HPC.out]; exact hown'
            have hcell2 := (hb3.cell (p := ⟨b, off + j, none⟩) (by show b < _; omega)).trans ((hbel.cell (p := ⟨b, off + j, none⟩) (by show b < _; omega)).symm.trans hcell)
            have HO := Lib.hid hown2
            clear hO2 hu2 hb2 ho2 hown' hO hown2 hcell hbel' hrun'
            go_wp2
            go_roundw
            case rel => exact ⟨j + 1, by omega, by go_num, p + q, by go_num, hpq, HPQ.out, hb3, HO⟩
            case measure => simp [intOf]; omega
          · have hgt : (l.length : Int) - p < q := by omega
            exfalso
            have := hp.out; have := HS.out; omega
        · have hend : (p : Int) = xs.sum := by have := hp.out; rw [preI_end xs (by omega)] at this; exact this
          have hne : ((p : Int) != (l.length : Int)) = false := by rw [bne_eq_false_iff_eq, hend]; exact HS.out
          have hjx : j = xs.length := by omega
          subst hjx
          clear hend
          go_wp2
          go_ret2
          exact ⟨_, rfl, hown.out, hbel⟩
end Go.Proofs.Ytpimklpkjinhiaa
