/- Fits of mac's tagger; the law MacTaggers, walked. -/
import Derived.Test.YtlheekbbioajpaaX4
namespace Go.Proofs.Ytlheekbbioajpaa
open Go.RowKit

set_option maxRecDepth 100000 in
set_option maxHeartbeats 4000000 in
theorem fits_any {w : World} {g B : Nat} {o L tag : List UInt8} {v : Value} (h : Hashed w g 51 (o.map vb) L) (ho : o.length = 64) (hlen : L.length ≤ 1152921504606846000) (ht : Bs w B v tag) (hB : B ≤ w.heap.size) :
    Calls Try.prog 25 #[.pointer (some ⟨g, 0, none⟩), v] w fun e w' => e = .returned (.bool (decide (tag = (sumL (o ++ sumL L)).take 16))) ∧ Below w.heap.size w w' := by
  have CT := Lib.hid (taggerSum_any h ho hlen)
  obtain ⟨X, hX⟩ : ∃ X, X = sumL (o ++ sumL L) := ⟨_, rfl⟩
  have hXl : X.length = 32 := by rw [hX, sumL_len]
  rw [← hX] at CT ⊢
  obtain ⟨At, ct, rfl⟩ := ht.shape
  have HT := Lib.hid ht
  obtain ⟨z, hz⟩ : ∃ z, z = decide (tag = X.take 16) := ⟨_, rfl⟩
  rw [← hz]
  have HZ := Lib.hid hz; have HXL := Lib.hid hXl
  obtain ⟨cs, hcs⟩ : ∃ cs, arr32 X = .agg cs := ⟨_, rfl⟩
  rw [hcs] at CT
  have HCS := Lib.hid hcs
  clear h ht hz hX hXl hcs
  go_enter Try.func25, Try.ntmps25
  go_wp2_with fail
  with_reducible refine (CT.out).mono ?_
  rintro e1 w1 ⟨rfl, hb1⟩
  have C2 := shorten_any HXL.out w1
  rw [HCS.out] at C2
  have HC2 := Lib.hid C2; have HB1 := Lib.hid hb1
  clear C2 CT hb1
  go_wp2_with fail
  with_reducible refine (HC2.out).mono ?_
  rintro e2 w2 ⟨x, rfl, hx, hb2⟩
  obtain ⟨Ax, cx, rfl⟩ := hx.shapeN (n := 16) (by rw [List.length_take, HXL.out]; rfl)
  have hb12 := HB1.out.trans (hb2.mono HB1.out.size)
  have CS := same_any (HT.out.below hb12 hB) hx.bs
  rw [← HZ.out] at CS
  have HCS3 := Lib.hid CS; have HB2 := Lib.hid hb12
  clear CS hx hb2 hb12
  go_wp2_with fail
  refine (HCS3.out).mono ?_
  rintro e3 w3 ⟨rfl, hd⟩
  have HB3 := Lib.hid (HB2.out.trans ((hd.below _).mono HB2.out.size))
  clear hd
  go_wp2
  go_ret
  exact ⟨rfl, HB3.out⟩

theorem own_ne {w : World} {B g : Nat} {v : Value} {l : List UInt8} (h : Own w B v l) (hg : g < B) : 0 < l.length → v.ownBlock ≠ some g := fun _ e => by
  have h1 := (World.ownsRow.lt h g e).1
  omega
theorem flip64 (y : UInt8) : y ^^^ 64 ≠ y := by
  have h : ∀ n : Fin 256, UInt8.ofNat n.1 ^^^ 64 ≠ UInt8.ofNat n.1 := by decide +kernel
  have h2 := h ⟨y.toNat, y.toNat_lt⟩
  simpa using h2
theorem tagger_tag (key b : List UInt8) : sumL (outerL key ++ sumL (innerL key ++ b)) = tagL key b := rfl

set_option maxRecDepth 100000 in
set_option maxHeartbeats 4000000 in
theorem taggers_walk {key : List UInt8} {ls : List (List UInt8)} {v u : Value} {w : World} (hk : Bs w w.heap.size v key) (hr : Rs w w.heap.size u ls) (hkl : key.length ≤ 1048576) (hn : ls.length ≤ 1048576) (hf : ls.flatten.length ≤ 1048576) (hl : ∀ l ∈ ls, l.length ≤ 1048576) :
    Calls Try.prog 5 #[v, u] w fun e w' => e = .returned (.bool true) ∧ Below w.heap.size w w' := by
  have CA := Lib.hid (awake3_any w)
  obtain ⟨c0s, hc0⟩ : ∃ cs, arr32 (tagL key []) = .agg cs := ⟨_, rfl⟩
  have EQ0 : ∀ W, (Op.equalIn 10000 34 (.agg c0s) (.agg c0s)).run Try.prog W = .ok true W := fun W => by rw [← hc0]; exact eq_arr32 _ (tagL_len _ _) W
  obtain ⟨AK, ck, rfl⟩ := hk.shape
  have HC0 := Lib.hid hc0; have HK := Lib.hid hk; have HR := Lib.hid hr; have HL := Lib.hid hl; have HFL := Lib.hid hf
  obtain ⟨AR, cR, hRe, hr1, hr2, hr3⟩ := hr
  subst hRe
  have H3 := Lib.hid hr3
  clear hk hl hc0 hr3 hf
  go_enter Try.func5, Try.ntmps5
  go_wp2_with fail
  refine (CA.out).mono ?_
  rintro e0 w0 ⟨rfl, hb0⟩
  have HB0 := Lib.hid hb0
  clear hb0 CA
  have C1 := Lib.hid (copy_any (HK.out.below HB0.out (Nat.le_refl _)) HB0.out.size (by omega))
  go_wp2_with fail
  with_reducible refine (C1.out).mono ?_
  rintro e1 w1 ⟨u1, rfl, ho1, hb1⟩
  have HB1 := Lib.hid (HB0.out.trans (hb1.mono HB0.out.size))
  obtain ⟨A1, c1, rfl⟩ := ho1.shape
  have C2 := Lib.hid (newTagger_any ho1.bs (Nat.le_refl _) (by omega))
  clear ho1 hb1 C1 HB0
  go_wp2_with fail
  with_reducible refine (C2.out).mono ?_
  rintro e2 w2 ⟨g, rfl, hg1, hh2, hb2⟩
  have HB2 := Lib.hid (HB1.out.trans (hb2.mono HB1.out.size))
  have hgw : w.heap.size ≤ g := Nat.le_trans HB1.out.size hg1
  have hgl : g < w2.heap.size := hh2.lt
  have HH2 := Lib.hid hh2
  have c3 := len_any hh2
  rw [innerL_len] at c3
  have C3 := Lib.hid c3
  clear C2 hb2 HB1 hg1 hh2 c3
  go_wp2_with fail
  with_reducible refine (C3.out).mono ?_
  rintro e3 w3 ⟨rfl, rfl⟩
  have c4 := taggerSum_any HH2.out (outerL_len key) (by rw [innerL_len]; omega)
  rw [show sumL (outerL key ++ sumL (innerL key)) = tagL key [] by rw [← tagger_tag, List.append_nil], HC0.out] at c4
  have C4 := Lib.hid c4
  clear C3 c4
  go_wp2_with fail
  with_reducible refine (C4.out).mono ?_
  rintro e4 w4 ⟨rfl, hb4⟩
  have HB4 := Lib.hid (HB2.out.trans (hb4.mono HB2.out.size))
  have HH4 := Lib.hid (HH2.out.below hb4 hgl)
  have hs4 := hb4.size
  have c5 := refTag_any (HK.out.below HB4.out (Nat.le_refl _)) HB4.out.size (Bs.nil w4 w4.heap.size) (Nat.le_refl _) (by omega) (by simp)
  rw [HC0.out] at c5
  have C5 := Lib.hid c5
  clear C4 c5 hb4 HB2
  go_wp2_with fail
  with_reducible refine (C5.out).mono ?_
  rintro e5 w5 ⟨rfl, hb5⟩
  have HB5 := Lib.hid (HB4.out.trans (hb5.mono HB4.out.size))
  have HH5 := Lib.hid (HH4.out.below hb5 (by omega))
  have hs5 := hb5.size
  clear C5 hb5 HB4 HH4 HH2
  go_wp2_with fail
  go_loopw [6, 33] (fun al i wr => ∃ k : Nat, k ≤ ls.length ∧ i = .int .i64 k ∧ Hid (Own wr w5.heap.size al ((ls.take k).flatten)) ∧ Hid (Hashed wr g 51 ((outerL key).map vb) (innerL key ++ (ls.take k).flatten)) ∧ Hid (Below w.heap.size w wr) ∧ Hid (w5.heap.size ≤ wr.heap.size)) (fun _ i _ => ls.length - (intOf i).toNat)
  case atStart => exact ⟨0, Nat.zero_le _, rfl, Lib.hid (Own.nil _ _), Lib.hid (by simpa using HH5.out), HB5, Lib.hid (Nat.le_refl _)⟩
  case round =>
    obtain ⟨k, hk, rfl, hown, hhash, hbe, hsz⟩ := hrel
    clear HB5 HH5
    have hlef : ∀ j, ((ls.take j).flatten).length ≤ 1048576 := fun j => by
      have h := HFL.out
      have e : ls.flatten = (ls.take j).flatten ++ (ls.drop j).flatten := by rw [← List.flatten_append, List.take_append_drop]
      rw [e, List.length_append] at h
      omega
    have HLEF := Lib.hid hlef
    clear hlef
    by_cases hlt : k < ls.length
    · obtain ⟨b, off, rfl, hbB, hc⟩ := H3.out (by omega)
      obtain ⟨up, hup, hbs⟩ := hc k hlt
      have hu' := (hbe.out.cell (p := ⟨b, off + k, none⟩) (by show b < _; omega)).trans hup
      obtain ⟨P, hP⟩ : ∃ P, P = ls[k] := ⟨_, rfl⟩
      obtain ⟨F, hF⟩ : ∃ F, F = (ls.take k).flatten := ⟨_, rfl⟩
      have hPl : P.length ≤ 1048576 := by rw [hP]; exact HL.out _ (List.getElem_mem hlt)
      have hFl : F.length ≤ 1048576 := by rw [hF]; exact HLEF.out k
      have hF1 : (ls.take (k + 1)).flatten = F ++ P := by
        rw [hF, hP, List.take_add_one, List.getElem?_eq_getElem hlt]
        simp [-List.take_append_getElem]
      have hN : (F ++ P).length ≤ 1048576 := by rw [← hF1]; exact HLEF.out (k + 1)
      rw [← hP] at hbs
      rw [← hF] at hown hhash
      obtain ⟨AP, cP, rfl⟩ := hbs.shape
      obtain ⟨AL, cL, rfl⟩ := hown.out.shape
      have hdr : Drew wr wr.drew := (Drew.refl wr).drewN 1
      have hbs' : Bs wr.drew w.heap.size (.slice AP P.length cP) P := hdr.bs (hbs.below hbe.out (Nat.le_refl _))
      have hszw : w.heap.size ≤ wr.heap.size := hbe.out.size
      have hsd : wr.drew.heap.size = wr.heap.size := World.size_drew wr
      have CC := Lib.hid (copy_any hbs' (by rw [hsd]; exact hszw) (by omega))
      have hgd : g < wr.drew.heap.size := by rw [hsd]; have := hsz.out; omega
      have HP := Lib.hid hbs; have HF1 := Lib.hid hF1
      have hz5 := hsz.out
      have hhd : Hashed wr.drew g 51 ((outerL key).map vb) (innerL key ++ F) := hhash.out.drew
      have HHD := Lib.hid hhd
      have HOD : Hid (Own wr.drew w5.heap.size (.slice AL F.length cL) F) := Lib.hid (hown.out.drewN 1)
      have HBD := Lib.hid (hbe.out.trans (hdr.below _))
      have hin := innerL_len key
      have hil : (innerL key ++ F).length = 64 + F.length := by rw [List.length_append, hin]
      have HIL := Lib.hid hil
      have hlw : (innerL key ++ F).length + P.length ≤ 1152921504606846975 := by rw [hil]; omega
      clear hc hup hbs hF1 hbs' hP hF hhd hdr hown hhash hbe hin hil
      go_wp2_with fail
      go_region_held3 (fun _ => True) (exact trivial) (first
        | (go_at_call 9; with_reducible refine (CC.out).mono ?_; rintro e6 w6 ⟨u6, rfl, ho6, hb6⟩; obtain ⟨A6, c6, rfl⟩ := ho6.shape; have hs6 := hb6.size; rw [hsd] at hs6; have hh6 := HHD.out.below hb6 hgd; have CW := write_one hh6 ho6.bs (Nat.le_refl _) (own_ne ho6 hgd) hlw)
        | (go_at_call 21; with_reducible refine CW.mono ?_; rintro e7 w7 ⟨rfl, hh7, hg7⟩)
        | fail)
      have hb7 : Below w.heap.size w w7 := (HBD.out.trans (hb6.mono (by rw [hsd]; exact hszw))).grown hg7 (by omega) (fun j hj => by simp only [Option.some.injEq] at hj; omega)
      have ho7 : Own w7 w5.heap.size (.slice AL F.length cL) F := (HOD.out.below hb6 (Nat.le_refl _)).kept hg7 (by
        cases hq : (Value.slice AL F.length cL).ownBlock with
        | none => exact .inl rfl
        | some j =>
          right
          intro e
          have h1 := (World.ownsRow.lt HOD.out j hq).1
          simp only [Option.some.injEq] at e
          omega)
      have hs7 := hg7.size
      have HB7 := Lib.hid hb7; have HO7 := Lib.hid ho7; have HH7 := Lib.hid hh7
      have HP7 := Lib.hid (HP.out.below hb7 (Nat.le_refl _))
      clear hb7 ho7 hh7 hg7 hb6 ho6 hh6 hlw CW CC HHD HOD HBD
      go_wp2_with (at_builtin; refine wpList_app rfl (.tmp 44) (.tmp 45) rfl rfl HO7.out rfl HP7.out (by omega) (by omega) ?_)
      intro v8 w8 ho8 hg8 _
      obtain ⟨A8, c8, rfl⟩ := ho8.shape
      have hlt8 : ∀ j, (Value.slice AL F.length cL).ownBlock = some j → w5.heap.size ≤ j := fun j hj => (World.ownsRow.lt HO7.out j hj).1
      have hb8 := HB7.out.grown hg8 HB7.out.size (fun j hj => by have := hlt8 j hj; have := HB7.out.size; omega)
      have hh8 := HH7.out.grown hg8 (fun e => by have := hlt8 g e; omega)
      have hs8 := hg8.size
      have c9 := len_any hh8
      obtain ⟨N, hNe⟩ : ∃ N, N = (F ++ P).length := ⟨_, rfl⟩
      have hlN : (innerL key ++ F ++ P).length = 64 + N := by rw [List.length_append, HIL.out, hNe, List.length_append]; omega
      rw [hlN, show ((64 + N : Nat) : Int) = 64 + (N : Int) by omega] at c9
      have C9 := Lib.hid c9; have HB8 := Lib.hid hb8; have HH8 := Lib.hid hh8; have HO8 := Lib.hid ho8
      rw [← hNe] at hN ⊢
      clear c9 hb8 hh8 ho8 hg8 hlt8 hlN HB7 HO7 HH7 HP7
      go_wp2_with fail
      with_reducible refine (C9.out).mono ?_
      rintro e9 w9 ⟨rfl, rfl⟩
      clear C9
      go_wp2_with fail
      go_roundw
      case rel => exact ⟨k + 1, by omega, by go_num, by have h := HO8.out; rw [List.length_append] at h; rw [HF1.out]; exact Lib.hid h, by rw [HF1.out, ← List.append_assoc]; exact HH8, HB8, Lib.hid (by omega)⟩
      case measure => simp [intOf]; omega
    · have HE : k = ls.length := by omega
      subst HE
      obtain ⟨F, hF⟩ : ∃ F, F = ls.flatten := ⟨_, rfl⟩
      rw [List.take_length, ← hF] at hown hhash
      have hFl : F.length ≤ 1048576 := by rw [hF]; exact HFL.out
      obtain ⟨AL, cL, rfl⟩ := hown.out.shape
      have hgr : g < wr.heap.size := by have := hsz.out; omega
      have hin := innerL_len key
      have hil : (innerL key ++ F).length = 64 + F.length := by rw [List.length_append, hin]
      have hlw : (innerL key ++ F).length ≤ 1152921504606846000 := by rw [hil]; omega
      obtain ⟨cfs, hcf⟩ : ∃ cs, arr32 (tagL key F) = .agg cs := ⟨_, rfl⟩
      have EQF : ∀ W, (Op.equalIn 10000 34 (.agg cfs) (.agg cfs)).run Try.prog W = .ok true W := fun W => by rw [← hcf]; exact eq_arr32 _ (tagL_len _ _) W
      obtain ⟨cis, hci⟩ : ∃ cs, arr32 (insideL key F) = .agg cs := ⟨_, rfl⟩
      have EQI : ∀ W, (Op.equalIn 10000 34 (.agg cis) (.agg cis)).run Try.prog W = .ok true W := fun W => by rw [← hci]; exact eq_arr32 _ (by rw [insideL, sumL_len]) W
      have HAL := Lib.hid hown.out.bs
      have HCF := Lib.hid hcf; have HCI := Lib.hid hci
      have C10 := Lib.hid (refShort_any (HK.out.below hbe.out (Nat.le_refl _)) hbe.out.size HAL.out (Nat.le_refl _) (by omega) (by omega))
      clear hown hcf hci hF hin hil EQ0
      go_wp2_with fail
      with_reducible refine (C10.out).mono ?_
      rintro e10 w10 ⟨x, rfl, ho10, hb10⟩
      obtain ⟨S, hS⟩ : ∃ S, S = shortL key F := ⟨_, rfl⟩
      have hSl : S.length = 16 := by rw [hS]; exact shortL_len key F
      rw [← hS] at ho10
      obtain ⟨A10, c10, rfl⟩ := ho10.shapeN hSl
      have HS := Lib.hid hS; have HSL := Lib.hid hSl
      have hc16 : 16 ≤ c10 := by
        obtain ⟨A', c', hv, h1, _⟩ := ho10.bs
        simp only [Value.slice.injEq] at hv
        obtain ⟨_, _, rfl⟩ := hv
        omega
      have HO10 := Lib.hid ho10; have HB10 := Lib.hid hb10
      have c11 := taggerSum_any (hhash.out.below hb10 hgr) (outerL_len key) hlw
      rw [tagger_tag, HCF.out] at c11
      have C11 := Lib.hid c11
      clear C10 ho10 hb10 c11 hS hSl
      go_wp2_with fail
      with_reducible refine (C11.out).mono ?_
      rintro e11 w11 ⟨rfl, hb11⟩
      have HB11 := Lib.hid (HB10.out.trans (hb11.mono HB10.out.size))
      have HO11 := Lib.hid (HO10.out.below hb11 (Nat.le_refl _))
      have hbw := hbe.out.trans (HB11.out.mono hbe.out.size)
      have c12 := refTag_any (HK.out.below hbw (Nat.le_refl _)) hbw.size (HAL.out.below HB11.out (Nat.le_refl _)) HB11.out.size (by omega) (by omega)
      rw [HCF.out] at c12
      have C12 := Lib.hid c12
      clear C11 hb11 c12 hbw HO10 HB10
      go_wp2_with fail
      with_reducible refine (C12.out).mono ?_
      rintro e12 w12 ⟨rfl, hb12⟩
      have HB12 := Lib.hid (HB11.out.trans (hb12.mono HB11.out.size))
      have HO12 := Lib.hid (HO11.out.below hb12 (Nat.le_refl _))
      have c13 := sum_any (hhash.out.below HB12.out hgr) hlw
      rw [show sumL (innerL key ++ F) = insideL key F from rfl, HCI.out] at c13
      have C13 := Lib.hid c13
      clear C12 hb12 c13 HO11 HB11
      go_wp2_with fail
      with_reducible refine (C13.out).mono ?_
      rintro e13 w13 ⟨rfl, hb13⟩
      have HB13 := Lib.hid (HB12.out.trans (hb13.mono HB12.out.size))
      have HO13 := Lib.hid (HO12.out.below hb13 (Nat.le_refl _))
      have hbw := hbe.out.trans (HB13.out.mono hbe.out.size)
      have c14 := inside_any (HK.out.below hbw (Nat.le_refl _)) hbw.size (HAL.out.below HB13.out (Nat.le_refl _)) HB13.out.size (by omega) (by omega)
      rw [HCI.out] at c14
      have C14 := Lib.hid c14
      clear C13 hb13 c14 hbw HO12 HB12
      go_wp2_with fail
      with_reducible refine (C14.out).mono ?_
      rintro e14 w14 ⟨rfl, hb14⟩
      have HB14 := Lib.hid (HB13.out.trans (hb14.mono HB13.out.size))
      have HO14 := Lib.hid (HO13.out.below hb14 (Nat.le_refl _))
      have c15 := fits_any (hhash.out.below HB14.out hgr) (outerL_len key) hlw HO14.out.bs (Nat.le_refl _)
      rw [tagger_tag, show decide (S = (tagL key F).take 16) = true by rw [HS.out]; exact decide_eq_true rfl] at c15
      have C15 := Lib.hid c15
      clear C14 hb14 c15 HO13 HB13
      go_wp2_with fail
      with_reducible refine (C15.out).mono ?_
      rintro e15 w15 ⟨rfl, hb15⟩
      have HB15 := Lib.hid (HB14.out.trans (hb15.mono HB14.out.size))
      have HO15 := Lib.hid (HO14.out.below hb15 (Nat.le_refl _))
      have hbp : Bs w15 w15.heap.size (.slice A10 15 c10) (S.take 15) := by
        obtain ⟨A', c', hv, h1, h2, h3⟩ := HO15.out.bs
        simp only [Value.slice.injEq] at hv
        obtain ⟨rfl, _, rfl⟩ := hv
        rw [HSL.out] at h1
        have hl : (S.take 15).length = 15 := by rw [List.length_take, HSL.out]; rfl
        have hl' := HSL.out
        refine ⟨A10, c10, by rw [hl], by rw [hl]; omega, h2, fun hp => ?_⟩
        rw [hl] at hp
        obtain ⟨b, off, rfl, hlt2, hc⟩ := h3 (by omega)
        refine ⟨b, off, rfl, hlt2, fun j hj => ?_⟩
        rw [hl] at hj
        rw [hc j (by omega)]
        simp
      have c16 := fits_any (hhash.out.below HB15.out hgr) (outerL_len key) hlw hbp (Nat.le_refl _)
      rw [tagger_tag, show decide (S.take 15 = (tagL key F).take 16) = false by
        rw [decide_eq_false_iff_not]
        intro h
        have h2 := congrArg List.length h
        rw [List.length_take, List.length_take, HSL.out, tagL_len] at h2
        omega] at c16
      have C16 := Lib.hid c16
      clear C15 hb15 c16 HO14 HB14 hbp
      go_wp2_with fail
      with_reducible refine (C16.out).mono ?_
      rintro e16 w16 ⟨rfl, hb16⟩
      have HB16 := Lib.hid (HB15.out.trans (hb16.mono HB15.out.size))
      have HO16 := Lib.hid (HO15.out.below hb16 (Nat.le_refl _))
      clear C16 hb16 HO15 HB15
      obtain ⟨m, hm⟩ : ∃ m, m = F.length % 16 := ⟨_, rfl⟩
      have hm16 : m < 16 := by omega
      have hmi : ((F.length : Int) % 16) = (m : Int) := by omega
      obtain ⟨gs, rfl, hgs1, hgs2, hcell, hfrz, hset⟩ := HO16.out.at_ (j := m) (by rw [HSL.out]; exact hm16)
      obtain ⟨y, hy⟩ : ∃ y, y = S[m]'(by rw [HSL.out]; exact hm16) := ⟨_, rfl⟩
      rw [← hy] at hcell
      obtain ⟨z, hz⟩ : ∃ z, z = y ^^^ 64 := ⟨_, rfl⟩
      have hxor : bits .xor .u8 (y.toNat : Int) 64 = (z.toNat : Int) := by rw [hz]; exact b_xor y 64
      have HOS := Lib.hid (hset z)
      have HBS := Lib.hid (HB16.out.setCell (p := ⟨gs, m, none⟩) hgs1 (.int .u8 (z.toNat : Int)))
      have hne : decide (S.set m z = (tagL key F).take 16) = false := by
        rw [decide_eq_false_iff_not]
        intro h
        have e : S = (tagL key F).take 16 := HS.out
        have hmS : m < S.length := by rw [HSL.out]; exact hm16
        have h2 : (S.set m z)[m]? = S[m]? := by rw [h, ← e]
        rw [List.getElem?_set_self hmS, List.getElem?_eq_getElem hmS] at h2
        have h3 : z = y := by rw [hy]; exact Option.some.inj h2
        rw [hz] at h3
        exact flip64 y h3
      have HNE := Lib.hid hne
      clear hset hm hgs1 hgs2 hy hz hne HO16 HB16
      go_wp2_with fail
      clear hcell hfrz
      generalize w16.setCell ⟨gs, m, none⟩ (.int .u8 (z.toNat : Int)) = W17 at HOS HBS ⊢
      have c17 := fits_any (hhash.out.below HBS.out hgr) (outerL_len key) hlw HOS.out.bs (Nat.le_refl _)
      rw [tagger_tag, HNE.out] at c17
      have C17 := Lib.hid c17
      clear c17 HOS
      with_reducible refine (C17.out).mono ?_
      rintro e18 w18 ⟨rfl, hb18⟩
      have HB18 := Lib.hid (HBS.out.trans (hb18.mono HBS.out.size))
      have c19 := taggerSum_any (hhash.out.below HB18.out hgr) (outerL_len key) hlw
      rw [tagger_tag, HCF.out] at c19
      have C19 := Lib.hid c19
      clear C17 c19 hb18 HBS
      go_wp2_with fail
      with_reducible refine (C19.out).mono ?_
      rintro e19 w19 ⟨rfl, hb19⟩
      have HB19 := Lib.hid (HB18.out.trans (hb19.mono HB18.out.size))
      have hbw := hbe.out.trans (HB19.out.mono hbe.out.size)
      have c20 := refTag_any (HK.out.below hbw (Nat.le_refl _)) hbw.size (HAL.out.below HB19.out (Nat.le_refl _)) HB19.out.size (by omega) (by omega)
      rw [HCF.out] at c20
      have C20 := Lib.hid c20
      clear C19 hb19 c20 hbw HB18
      go_wp2_with fail
      with_reducible refine (C20.out).mono ?_
      rintro e20 w20 ⟨rfl, hb20⟩
      have HB20 := Lib.hid (HB19.out.trans (hb20.mono HB19.out.size))
      have HBF := Lib.hid (hbe.out.trans (HB20.out.mono hbe.out.size))
      clear C20 hb20 HB19
      go_wp2
      go_ret
      exact ⟨rfl, HBF.out⟩
end Go.Proofs.Ytlheekbbioajpaa
