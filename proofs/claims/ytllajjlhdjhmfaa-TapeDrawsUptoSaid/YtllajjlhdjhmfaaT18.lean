/- The law TapeDraws, walked: a tape hands out its bytes in order, each once, all that are asked for or none. -/
import Derived.Test.YtllajjlhdjhmfaaT17
namespace Go.Proofs.Ytllajjlhdjhmfaa
open Go.RowKit

/-- v is a slice of slices of ints -/
def Iss (w : World) (B : Nat) (v : Value) (xss : List (List Int)) : Prop :=
  ∃ A c, v = .slice A xss.length c ∧ xss.length ≤ c ∧ c ≤ maxLen ∧
    (0 < xss.length → ∃ b off, A = some ⟨b, off, none⟩ ∧ b < B ∧ ∀ j (h : j < xss.length), ∃ u, w.cell? ⟨b, off + j, none⟩ = some u ∧ Is w B u xss[j])
theorem OwnRs.grown {w w' : World} {B g : Nat} {v : Value} {ls : List (List UInt8)} (h : OwnRs w B v ls) (hg : w.grownBy w' (some g)) (hB : g < B) : OwnRs w' B v ls := by
  obtain ⟨xs, h1, h2, h3⟩ := h
  refine ⟨xs, World.ownsRow.kept h1 hg ?_, h2, fun j hj hj' => (h3 j hj hj').grown hg (fun k hk e => by have := ((h3 j hj hj').lt_size k hk).1; simp only [Option.some.injEq] at e; omega)⟩
  cases hq : v.ownBlock with
  | none => exact .inl rfl
  | some k =>
    right
    intro e
    simp only [Option.some.injEq] at e
    have := (World.ownsRow.lt h1 k hq).1
    omega
theorem Is.shapeI {w : World} {B : Nat} {v : Value} {xs : List Int} (h : Is w B v xs) : ∃ A c, v = .slice A xs.length c := by
  obtain ⟨A, c, hv, _⟩ := h
  exact ⟨A, c, hv⟩
theorem Cur.gt {w : World} {B E g k : Nat} {T : TypeId} {ex : List Value} {l : List UInt8} (h : Cur w B E g T ex l k) : B ≤ g ∧ g < w.heap.size := by
  obtain ⟨A, c, h1, h2, h3, _⟩ := h
  exact ⟨h1, by omega⟩

theorem OwnRd.drew {w w' : World} {B : Nat} {v : Value} {ls : List (List UInt8)} (h : OwnRd w B v ls) (hd : Drew w w') : OwnRd w' B v ls := by
  obtain ⟨n, rfl⟩ := hd
  exact h
theorem drawL_le {l : List UInt8} (a : Nat) (zs : List Int) : (drawL l a zs).length ≤ zs.length := by
  unfold drawL
  split
  · rw [pcs_len, nats_len]; exact Nat.le_refl _
  · simp
theorem drawL_len {l : List UInt8} (a : Nat) (zs : List Int) : ∀ p ∈ drawL l a zs, p.length ≤ l.length := by
  have key : ∀ (xs : List Nat) (a : Nat), ∀ p ∈ pcs l a xs, p.length ≤ l.length := by
    intro xs
    induction xs with
    | nil => intro a p hp; simp [pcs] at hp
    | cons x r ih =>
      intro a p hp
      rw [pcs] at hp
      rcases List.mem_cons.1 hp with rfl | hp
      · rw [List.length_take, List.length_drop]; omega
      · exact ih _ p hp
  intro p hp
  unfold drawL at hp
  split at hp
  · exact key _ _ _ hp
  · simp at hp

set_option maxRecDepth 100000 in
set_option maxHeartbeats 16000000 in
theorem draws_walk {l : List UInt8} {xss : List (List Int)} {v u : Value} {w : World} (hb : Bs w w.heap.size v l) (hl : l.length ≤ 1048576) (hx : Iss w w.heap.size u xss) (hn : xss.length ≤ 1048576) (hm : ∀ zs ∈ xss, zs.length ≤ 1048576) :
    Calls Try.prog 3 #[v, u] w fun e w' => e = .returned (.bool true) ∧ Below w.heap.size w w' := by
  have C0 := Lib.hid (awake_any w)
  obtain ⟨A, c, rfl, h1, h2, h3⟩ := hx
  have H3 := Lib.hid h3
  obtain ⟨Ab, cb, rfl⟩ := hb.shape
  have HB := Lib.hid hb
  have HM := Lib.hid hm
  unfold maxLen at h2
  clear hb h3 hm
  go_enter Try.func3, Try.ntmps3
  go_wp2_with fail
  refine (C0.out).mono ?_
  rintro e w1 ⟨rfl, hb1⟩
  have hz1 := hb1.size
  have hzc : Cur (w1.alloc (.cells #[.slice none 0 0, .int .i64 0] 28)) 0 (w1.heap.size + 1) w1.heap.size 28 [] [] 0 := ⟨none, 0, by simp, by simp, by simp, Own.nil _ _, by simp [Value.ownBlock], heap_alloc_new w1 _⟩
  have c4 := left_any hzc (by simp) (by simp)
  rw [show ((([] : List UInt8).length : Int) - ((0 : Nat) : Int)) = 0 by simp] at c4
  have C4 := Lib.hid c4
  have HB2 := Lib.hid (hb1.alloc hz1 (.cells #[.slice none 0 0, .int .i64 0] 28))
  clear c4 hzc C0
  go_wp2_with fail
  refine (C4.out).mono ?_
  rintro e w2 ⟨rfl, hd2⟩
  have HB3 := Lib.hid (HB2.out.trans (hd2.below _))
  have hz3 := HB3.out.size
  have C5 := Lib.hid (copy_any (HB.out.below HB3.out (Nat.le_refl _)) hz3 (by omega))
  clear hd2 C4 HB2 hb1 hz1
  go_wp2_with fail
  refine (C5.out).mono ?_
  rintro e w3 ⟨u3, rfl, ho3, hbb3⟩
  have hb4 := HB3.out.trans (hbb3.mono hz3)
  have hz4 := hb4.size
  have C6 := Lib.hid (newtape_any ho3.bs (Nat.le_refl _) (by omega))
  have HO3 := Lib.hid ho3
  obtain ⟨A3, c3, rfl⟩ := ho3.shape
  clear hbb3 C5 ho3 HB3
  go_wp2_with fail
  refine (C6.out).mono ?_
  rintro e w5 ⟨g, rfl, hcu5, hbb5⟩
  have hb5 := hb4.trans (hbb5.mono hz4)
  have hz5 := hb5.size
  have HO5 := Lib.hid (HO3.out.below hbb5 (Nat.le_refl _))
  have HCU5 := Lib.hid hcu5
  have hlt5 : Hid (∀ j, (Value.slice A3 l.length c3).ownBlock = some j → j < w3.heap.size) := fun j hj => (HO3.out.lt_size j hj).2
  have C8 := Lib.hid (over_any HO5.out (by omega))
  clear C6 hbb5 hcu5
  go_wp2_with fail
  refine (C8.out).mono ?_
  rintro e w6 ⟨rfl, _, hgr6⟩
  have hb6 : Below w.heap.size w w6 := hb5.grown hgr6 hz5 (fun k hk => by have := (HO5.out.lt_size k hk).1; omega)
  have hcu6 := ((HCU5.out.grown hgr6 (fun j hj => .inl (hlt5.out j hj))).more (B' := w.heap.size) hz4).widen
  have HCU6 := Lib.hid hcu6; have HB6 := Lib.hid hb6
  clear hcu6 hb6 hgr6 HCU5 hlt5 HO3 HO5 C8 hb4 hz4 hb5 hz5 hz3
  go_wp2_with fail
  go_loopw [8, 32] (fun a i wr => ∃ k t : Nat, k ≤ xss.length ∧ t ≤ l.length ∧ i = .int .i64 k ∧ a = .int .i64 t ∧ Hid (Below w.heap.size w wr) ∧ Hid (Cur wr w.heap.size wr.heap.size g 28 [] l t)) (fun _ i _ => xss.length - (intOf i).toNat)
  case atStart => exact ⟨0, 0, Nat.zero_le _, Nat.zero_le _, rfl, rfl, HB6, HCU6⟩
  case round =>
    obtain ⟨k, t, hk, ht, rfl, rfl, hbel, hcur⟩ := hrel
    obtain ⟨wo, rfl⟩ : ∃ wo : World, wo = wr := ⟨_, rfl⟩
    by_cases hlt : k < xss.length
    · obtain ⟨b, off, rfl, hbB, hc⟩ := H3.out (by omega)
      obtain ⟨us, hus, his⟩ := hc k hlt
      have hmz := HM.out _ (List.getElem_mem hlt)
      obtain ⟨zs, hzs⟩ : ∃ zs, xss[k] = zs := ⟨_, rfl⟩
      rw [hzs] at his hmz
      have g0 := (hbel.out.cell (p := ⟨b, off + k, none⟩) (by show b < _; omega)).trans hus
      have his2 := his.below hbel.out (Nat.le_refl _)
      have hz := hbel.out.size
      have HIS := Lib.hid his2
      obtain ⟨As, cs, rfl⟩ := his2.shapeI
      have CR := Lib.hid (refdraws_any (a := t) (HB.out.below hbel.out (Nat.le_refl _)) hz hl ht his2 hz hmz)
      obtain ⟨hgB, hgl⟩ := hcur.out.gt
      obtain ⟨cd, hcd⟩ : ∃ cd, drawCode l t zs = cd := ⟨_, rfl⟩
      obtain ⟨nx, hnx⟩ : ∃ nx, drawAt l t zs = nx := ⟨_, rfl⟩
      obtain ⟨dl, hdl⟩ : ∃ dl, drawL l t zs = dl := ⟨_, rfl⟩
      have HCD := Lib.hid hcd; have HNX := Lib.hid hnx; have HDL := Lib.hid hdl
      have hnl : nx ≤ l.length := by rw [← hnx]; exact drawAt_le ht
      have hfin : ∀ W, Below w.heap.size w W → Cur W w.heap.size W.heap.size g 28 [] l nx → Hid (Below w.heap.size w W) ∧ Hid (Cur W w.heap.size W.heap.size g 28 [] l nx) := fun W h h' => ⟨Lib.hid h, Lib.hid h'⟩
      clear hc hus hzs his his2 hcd hnx hdl
      go_wp2_with fail
      with_reducible refine (CR.out).mono ?_
      rintro e w2 ⟨u2, he2, ho2, hb2⟩
      rw [HCD.out, HNX.out] at he2
      rw [HDL.out] at ho2
      subst he2
      have HBW := Lib.hid (hbel.out.trans (hb2.mono hz))
      have HCW := Lib.hid (hcur.out.grown (grown_of_below hb2 none) (by simp)).widen
      have HO2 := Lib.hid ho2
      have HIW := Lib.hid (HIS.out.below (hb2.mono hz) (by omega))
      obtain ⟨A2, n2, c2, rfl⟩ : ∃ A n c, u2 = .slice A n c := by
        obtain ⟨A, c, h⟩ := ho2.shape
        exact ⟨A, _, c, h⟩
      clear CR hb2 ho2 HIS
      by_cases h1z : zs.length = 1
      · obtain ⟨z, rfl⟩ : ∃ z, zs = [z] := by
          match zs, h1z with
          | [z], _ => exact ⟨z, rfl⟩
        obtain ⟨As', cs', hv', _, _, hq3⟩ := HIW.out
        obtain ⟨b3, o3, rfl, hb3, hcell⟩ := hq3 (by simp)
        simp only [Value.slice.injEq] at hv'
        obtain ⟨rfl, hj1, rfl⟩ := hv'
        have k0 := (hcell 0 (by simp)).1
        rw [List.getElem_singleton, Nat.add_zero] at k0
        clear h1z hj1 hcell hq3 hmz
        by_cases hz0 : z < 0
        · have e1 : drawCode l t [z] = 1 := if_pos ⟨0, by simp, hz0⟩
          obtain rfl : cd = 1 := HCD.out.symm.trans e1
          obtain rfl : nx = t := HNX.out.symm.trans (draw_refused e1 (by omega)).1
          have CT := Lib.hid (draw_neg HCW.out ht (by omega) hz0)
          clear e1
          go_wp2_with fail
          with_reducible refine (CT.out).mono ?_
          rintro e w3 ⟨rfl, hd3⟩
          have HBF := Lib.hid (HBW.out.trans (hd3.below _))
          have HCF := Lib.hid ((HCW.out.grown (drew_grew hd3 none) (by simp)).widen)
          clear hd3 CT
          have CD := Lib.hid (done_any HCF.out)
          have CL := Lib.hid (left_any HCF.out hnl (by omega))
          go_wp2_with fail
          with_reducible refine (CD.out).mono ?_
          rintro e w8 ⟨rfl, rfl⟩
          go_wp2_with fail
          with_reducible refine (CL.out).mono ?_
          rintro e w9 ⟨rfl, hd9⟩
          have HBX := Lib.hid (HBF.out.trans (hd9.below _))
          have HCX := Lib.hid ((HCF.out.grown (drew_grew hd9 none) (by simp)).widen)
          clear hd9 CD CL
          go_wp2
          go_roundw
          case rel => exact ⟨k + 1, nx, by omega, hnl, by go_num, rfl, HBX, HCX⟩
          case measure => simp [intOf]; omega
        · obtain ⟨N, rfl⟩ := Int.eq_ofNat_of_zero_le (show 0 ≤ z by omega)
          have hno : ¬ ∃ j, ∃ h : j < [(N : Int)].length, [(N : Int)][j] < 0 := fun ⟨j, h, hj⟩ => by
            have e : j = 0 := by simpa using h
            subst e
            have hj2 : (N : Int) < 0 := hj
            omega
          have hsum : (nats [(N : Int)]).sum = N := by simp [nats]
          by_cases hex : t + N ≤ l.length
          · have e1 : drawCode l t [(N : Int)] = 0 := by rw [drawCode, if_neg hno, if_neg (by rw [hsum]; omega)]
            obtain rfl : cd = 0 := HCD.out.symm.trans e1
            have e2 : nx = t + N := HNX.out.symm.trans ((draw_done e1).1.trans (by rw [hsum]))
            have e3 : dl = [(l.drop t).take N] := HDL.out.symm.trans ((draw_done e1).2.trans (by simp [nats, pcs]))
            have HE2 := Lib.hid e2
            rw [e3] at HO2
            have CT := Lib.hid (draw_ok HCW.out (by omega) hex)
            clear e1 e2 e3 hno hsum HNX HDL HCD
            go_wp2_with fail
            with_reducible refine (CT.out).mono ?_
            rintro e w3 ⟨u3, rfl, ho3, hcu3, hg3⟩
            have HBF := Lib.hid (HBW.out.grown hg3 HBW.out.size (fun j hj => by simp only [Option.some.injEq] at hj; subst hj; exact hgB))
            have hcf := hcu3.widen
            rw [← HE2.out] at hcf
            have HCF := Lib.hid hcf
            have hor := (HO2.out.grown hg3 hgl).rs
            obtain ⟨A4, c4, hv4, _, _, hq4⟩ := hor
            obtain ⟨b4, o4, rfl, _, hcell4⟩ := hq4 (by simp)
            simp only [Value.slice.injEq] at hv4
            obtain ⟨rfl, rfl, rfl⟩ := hv4
            obtain ⟨u4, hu4, hbs4⟩ := hcell4 0 (by simp)
            rw [Nat.add_zero] at hu4
            rw [List.getElem_singleton] at hbs4
            have ce := equal_any ho3.bs hbs4
            rw [show decide (List.take N (List.drop t l) = List.take N (List.drop t l)) = true by simp] at ce
            have CE := Lib.hid ce
            obtain ⟨A5, n5, c5, rfl⟩ : ∃ A n c, u3 = .slice A n c := by
              obtain ⟨A, c, h⟩ := ho3.shape
              exact ⟨A, _, c, h⟩
            clear CT hcu3 hg3 hcf hq4 hcell4 hbs4 ce ho3
            go_wp2_with fail
            with_reducible refine (CE.out).mono ?_
            rintro e w4 ⟨rfl, hd4⟩
            have HBF' := Lib.hid (HBF.out.trans (hd4.below _))
            have HCF' := Lib.hid ((HCF.out.grown (drew_grew hd4 none) (by simp)).widen)
            clear hd4 CE HBF HCF hu4
            have HBF := HBF'; have HCF := HCF'
            clear HBF' HCF'
            have CD := Lib.hid (done_any HCF.out)
            have CL := Lib.hid (left_any HCF.out hnl (by omega))
            go_wp2_with fail
            with_reducible refine (CD.out).mono ?_
            rintro e w8 ⟨rfl, rfl⟩
            go_wp2_with fail
            with_reducible refine (CL.out).mono ?_
            rintro e w9 ⟨rfl, hd9⟩
            have HBX := Lib.hid (HBF.out.trans (hd9.below _))
            have HCX := Lib.hid ((HCF.out.grown (drew_grew hd9 none) (by simp)).widen)
            clear hd9 CD CL
            go_wp2
            go_roundw
            case rel => exact ⟨k + 1, nx, by omega, hnl, by go_num, rfl, HBX, HCX⟩
            case measure => simp [intOf]; omega
          · have e1 : drawCode l t [(N : Int)] = 8 := by rw [drawCode, if_neg hno, if_pos (by rw [hsum]; omega)]
            obtain rfl : cd = 8 := HCD.out.symm.trans e1
            obtain rfl : nx = t := HNX.out.symm.trans (draw_refused e1 (by omega)).1
            have CT := Lib.hid (draw_tape (n := (N : Int)) HCW.out ht (by omega) (by omega))
            clear e1 hno hsum
            go_wp2_with fail
            with_reducible refine (CT.out).mono ?_
            rintro e w3 ⟨rfl, hd3⟩
            have HBF := Lib.hid (HBW.out.trans (hd3.below _))
            have HCF := Lib.hid ((HCW.out.grown (drew_grew hd3 none) (by simp)).widen)
            clear hd3 CT
            have CD := Lib.hid (done_any HCF.out)
            have CL := Lib.hid (left_any HCF.out hnl (by omega))
            go_wp2_with fail
            with_reducible refine (CD.out).mono ?_
            rintro e w8 ⟨rfl, rfl⟩
            go_wp2_with fail
            with_reducible refine (CL.out).mono ?_
            rintro e w9 ⟨rfl, hd9⟩
            have HBX := Lib.hid (HBF.out.trans (hd9.below _))
            have HCX := Lib.hid ((HCF.out.grown (drew_grew hd9 none) (by simp)).widen)
            clear hd9 CD CL
            go_wp2
            go_roundw
            case rel => exact ⟨k + 1, nx, by omega, hnl, by go_num, rfl, HBX, HCX⟩
            case measure => simp [intOf]; omega
      · have HLD : Hid (∀ p ∈ dl, p.length ≤ l.length) := Lib.hid (by have h := drawL_len (l := l) t zs; rw [HDL.out] at h; exact h)
        have hne1 : ((zs.length : Int) == 1) = false := by rw [beq_eq_false_iff_ne]; omega
        have hem := OwnIs.empty w2 w2.heap.size (Nat.le_refl _)
        have hza := HBW.out.size
        have hxw : Cs (w2.alloc (.cells #[] 3)) w.heap.size (.slice As zs.length cs) (zs.map (Value.int .i64)) := (HIW.out.below ((Below.refl _ w2).alloc (Nat.le_refl _) _) hza).cs
        have HEM := Lib.hid hem.1; have HXW := Lib.hid hxw
        have HWF : Hid (∀ x ∈ zs, (Lit.int .i64 x).wf = true) := Lib.hid (fun x hx' => by
          obtain ⟨A', c', _, _, _, h3⟩ := HIW.out
          obtain ⟨j, hj, rfl⟩ := List.getElem_of_mem hx'
          obtain ⟨b, off, _, _, hc⟩ := h3 (by omega)
          exact (hc j hj).2)
        clear hem hxw h1z
        go_wp2_with (at_builtin; refine wpList_appG rfl (.tmp 81) (.tmp 82) rfl Try.underlying34 int_info rfl (by omega) rfl HEM.out rfl HXW.out (ints_one _) (by simp; omega) (by simp) ?_)
        intro v3 w3 hown3 hg3 _
        have HZ23 : Hid (w2.heap.size ≤ w3.heap.size) := Lib.hid (grown_below ((Below.refl _ _).alloc (Nat.le_refl _) _) hg3 (by simp) HEM.out : Below w2.heap.size w2 w3).size
        have hgb : Below w2.heap.size w2 w3 := grown_below ((Below.refl _ _).alloc (Nat.le_refl _) _) hg3 (by simp) HEM.out
        have ho3 : OwnIs w3 w2.heap.size v3 zs := ⟨by simpa using hown3, HWF.out⟩
        have HB3 := Lib.hid (HBW.out.trans (hgb.mono hza))
        have HC3 := Lib.hid (HCW.out.grown (grown_of_below hgb none) (by simp)).widen
        have HO3 := Lib.hid (HO2.out.below hgb (Nat.le_refl _))
        have CT := Lib.hid (draws_any HC3.out hl ht ho3.is (Nat.le_refl _) hmz)
        obtain ⟨A3', c3', rfl⟩ := ho3.is.shapeI
        clear hown3 hg3 hgb ho3 HO2 HCW HEM HXW HWF
        go_wp2_with fail
        with_reducible refine (CT.out).mono ?_
        rintro e w4 ⟨u4, he4, ho4, hcu4, hg4⟩
        rw [HCD.out] at he4
        rw [HDL.out] at ho4
        rw [HNX.out] at hcu4
        subst he4
        have HB4 := Lib.hid (HB3.out.grown hg4 HB3.out.size (fun j hj => by simp only [Option.some.injEq] at hj; subst hj; exact hgB))
        have HC4 := Lib.hid hcu4
        have hlt3 := HC3.out.gt.2
        have HZ34 := Lib.hid hg4.size
        have hor := HO3.out.grown hg4 hgl
        have ho4r := ho4.rs
        have ce := equals_any ho4r.rs hor.rs
        rw [show decide (dl = dl) = true by simp] at ce
        have CE := Lib.hid ce
        have HO4 := Lib.hid ho4
        obtain ⟨A4, c4, rfl⟩ : ∃ A c, u4 = .slice A dl.length c := by
          obtain ⟨A, c, h⟩ := ho4r.shape
          exact ⟨A, c, h⟩
        have hcc : (cd != cd) = false := by simp
        clear ho4 hcu4 hg4 hor ho4r ce CT
        go_wp2_with fail
        with_reducible refine (CE.out).mono ?_
        rintro e w5 ⟨rfl, hd5⟩
        have HB5 := Lib.hid (HB4.out.trans (hd5.below _))
        have HC5 := Lib.hid (HC4.out.grown (drew_grew hd5 none) (by simp))
        have HO5 := Lib.hid (OwnRd.drew HO4.out hd5)
        have hgw : g < w3.heap.size := hlt3
        have HZ35 : Hid (w3.heap.size ≤ w5.heap.size) := Lib.hid (Nat.le_trans HZ34.out (hd5.below 0).size)
        clear hd5 CE HB4 HC4 HO4 HO3 HC3
        go_wp2_with fail
        obtain ⟨xs5, hx1, hx2, hx3, hx4⟩ := HO5.out
        obtain ⟨nd, hnd⟩ : ∃ nd, nd = dl.length := ⟨_, rfl⟩
        have HND := Lib.hid hnd
        have hnb : nd ≤ 1048576 := by
          rw [hnd, ← HDL.out]
          exact Nat.le_trans (drawL_le t zs) hmz
        have hx1' : w5.ownsRow w3.heap.size 22 1 (.slice A4 nd c4) nd xs5 := by rw [hnd]; exact hx1
        have HX1 := Lib.hid hx1'; have HX2 := Lib.hid hx2; have HX3 := Lib.hid hx3; have HX4 := Lib.hid hx4
        rw [← hnd]
        clear hx1 hx2 hx3 hx4 hx1' hnd HO5
        go_loopw [98] (fun i W => ∃ q : Nat, q ≤ nd ∧ i = .int .i64 q ∧ Hid (W.ownsRow w3.heap.size 22 1 (.slice A4 nd c4) nd xs5) ∧ Hid (∀ j (h : j < xs5.length) (h' : j < dl.length), q ≤ j → Own W w3.heap.size xs5[j] dl[j]) ∧ Hid (Below w3.heap.size w5 W)) (fun i _ => nd - (intOf i).toNat)
        case atStart => exact ⟨0, Nat.zero_le _, rfl, HX1, Lib.hid (fun j h h' _ => HX3.out j h h'), Lib.hid (Below.refl _ _)⟩
        case round =>
          obtain ⟨q, hq, rfl, hrow, hels, hbe⟩ := hrel
          by_cases hlq : q < nd
          · have hqx : q < xs5.length := by rw [HX2.out, ← HND.out]; exact hlq
            have hqd : q < dl.length := by rw [← HND.out]; exact hlq
            have hoq := hels.out q hqx hqd (Nat.le_refl _)
            obtain ⟨gr, hA4, hcq⟩ : ∃ gr, A4 = some ⟨gr, 0, none⟩ ∧ wr.cell? ⟨gr, q, none⟩ = some xs5[q] := by
              rcases hrow.out.2 with ⟨hv, hn0⟩ | ⟨gr, cap, cur, hv, _, hh, hnc, _, hsz, htk⟩
              · omega
              · simp only [Value.slice.injEq] at hv
                refine ⟨gr, hv.1, ?_⟩
                rw [cell_of_row wr gr q cur _ _ hh]
                have h1 : (cur.toList.take (nd * 1))[q]? = xs5[q]? := by rw [htk]
                rw [List.getElem?_take, if_pos (by omega)] at h1
                simpa [hqx] using h1
            subst hA4
            obtain ⟨x, hxq⟩ : ∃ x, xs5[q] = x := ⟨_, rfl⟩
            rw [hxq] at hcq hoq
            have CO := Lib.hid (over_any hoq (by have := HLD.out _ (List.getElem_mem hqd); omega))
            have HOQ := Lib.hid hoq
            obtain ⟨Ax, nx', cx, rfl⟩ : ∃ A n c, x = .slice A n c := by
              obtain ⟨A, c, h⟩ := hoq.shape
              exact ⟨A, _, c, h⟩
            have i0 : (0 : Int) ≤ (q : Int) := by omega
            have i1 : (q : Int) < (nd : Int) := by omega
            have HXQ := Lib.hid hxq
            clear hoq hxq
            go_wp2_with fail
            with_reducible refine (CO.out).mono ?_
            rintro e w7 ⟨rfl, _, hg7⟩
            have HB7 := Lib.hid (hbe.out.grown hg7 (Nat.le_trans HZ35.out hbe.out.size) (fun k hk => (HOQ.out.lt_size k hk).1))
            have HR7 := Lib.hid (World.ownsRow.kept hrow.out hg7 (own_apart HOQ.out hrow.out (by decide)))
            have HE7 : Hid (∀ j (h : j < xs5.length) (h' : j < dl.length), q + 1 ≤ j → Own w7 w3.heap.size xs5[j] dl[j]) := Lib.hid (fun j h h' hj => (hels.out j h h' (by omega)).grown hg7 (fun a ha e => by
              have := HX4.out q j hqx h (by omega) a (by rw [HXQ.out]; exact e)
              exact this ha))
            clear hg7 CO
            go_wp2
            go_roundw
            case rel => exact ⟨q + 1, by omega, by go_num, HR7, HE7, HB7⟩
            case measure => simp [intOf]; omega
          · have HBF := Lib.hid (HB5.out.trans (hbe.out.mono (Nat.le_trans hza HZ23.out)))
            have HCF := Lib.hid (HC5.out.belowE hbe.out).widen
            have CD := Lib.hid (done_any HCF.out)
            have CL := Lib.hid (left_any HCF.out hnl (by omega))
            go_wp2_with fail
            with_reducible refine (CD.out).mono ?_
            rintro e w8 ⟨rfl, rfl⟩
            go_wp2_with fail
            with_reducible refine (CL.out).mono ?_
            rintro e w9 ⟨rfl, hd9⟩
            have HBX := Lib.hid (HBF.out.trans (hd9.below _))
            have HCX := Lib.hid ((HCF.out.grown (drew_grew hd9 none) (by simp)).widen)
            clear hd9 CD CL
            go_wp2
            go_roundw
            case rel => exact ⟨k + 1, nx, by omega, hnl, by go_num, rfl, HBX, HCX⟩
            case measure => simp [intOf]; omega
    · go_wp2
      go_ret
      exact ⟨rfl, hbel.out⟩
end Go.Proofs.Ytllajjlhdjhmfaa
