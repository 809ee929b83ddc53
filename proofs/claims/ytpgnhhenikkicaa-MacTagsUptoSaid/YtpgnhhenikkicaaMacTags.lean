/- The law MacTags, walked. -/
import Derived.Test.YtpgnhhenikkicaaMacAwake
namespace Go.Proofs.Ytpgnhhenikkicaa
open Go.RowKit

theorem eq_arr32 (l : List UInt8) (h : l.length = 32) (W : World) : (Op.equalIn 10000 29 (arr32 l) (arr32 l)).run Try.prog W = .ok true W := by
  obtain ⟨i, hi⟩ : ∃ i, Try.prog.info? 5 = some i := Option.isSome_iff_exists.1 (by kernel_rfl)
  have h2 := run_eq_arr (P := Try.prog) (k := .u8) W Try.underlying29 hi (by kernel_rfl) (by kernel_rfl) Try.underlying5 (l.map fun x => (x.toNat : Int)) (l.map fun x => (x.toNat : Int)) (by simpa using h) (by simpa using h) 9998
  have e : arr32 l = .agg ((l.map fun x => (x.toNat : Int)).map (Value.int .u8)).toArray := by rw [arr32, List.map_map]; rfl
  rw [e, h2]
  simp

set_option maxRecDepth 100000 in
set_option maxHeartbeats 3200000 in
theorem mactags_walk {key : List UInt8} {ls : List (List UInt8)} {v u : Value} {w : World} (hk : Bs w w.heap.size v key) (hr : Rs w w.heap.size u ls) (hkl : key.length ≤ 1048576) (hn : ls.length ≤ 1048576) (hf : ls.flatten.length ≤ 1048576) (hl : ∀ l ∈ ls, l.length ≤ 1048576) :
    Calls Try.prog 3 #[v, u] w fun e w' => e = .returned (.bool true) ∧ Below w.heap.size w w' := by
  have CA := Lib.hid (awake3_any w)
  obtain ⟨F, hF⟩ : ∃ F, F = ls.flatten := ⟨_, rfl⟩
  rw [← hF] at hf
  have HF := Lib.hid hF; have HK := Lib.hid hk; have HR := Lib.hid hr; have HL := Lib.hid hl
  clear hF hk hr hl
  go_enter Try.func3, Try.ntmps3
  go_wp2_with fail
  refine (CA.out).mono ?_
  rintro e1 w1 ⟨rfl, hb1⟩
  have HB1 := Lib.hid hb1
  have CJ := Lib.hid (refjoin_any (HR.out.below hb1 (Nat.le_refl _)) hb1.size (by rw [← HF.out]; omega))
  clear hb1
  go_wp2_with fail
  with_reducible refine (CJ.out).mono ?_
  rintro e2 w2 ⟨uj, rfl, hj, hb2⟩
  rw [← HF.out] at hj
  obtain ⟨Aj, cj, rfl⟩ := hj.shape
  have HB2 := Lib.hid (HB1.out.trans (hb2.mono HB1.out.size))
  have HJ2 := Lib.hid hj.bs
  clear hj hb2
  have CK := Lib.hid (copy_any (HK.out.below HB2.out (Nat.le_refl _)) HB2.out.size (by omega))
  go_wp2_with fail
  with_reducible refine (CK.out).mono ?_
  rintro e3 w3 ⟨uk, rfl, hk3, hb3⟩
  obtain ⟨Ak, ck, rfl⟩ := hk3.shape
  have HB3 := Lib.hid (HB2.out.trans (hb3.mono HB2.out.size))
  have HJ3 := Lib.hid ((HJ2.out.below hb3 (Nat.le_refl _)).more hb3.size)
  have HK3 := Lib.hid hk3.bs
  clear hk3 hb3
  have CC := Lib.hid (copies_any (HR.out.below HB3.out (Nat.le_refl _)) HB3.out.size (by omega) (fun l hl => by have := HL.out l hl; omega))
  go_wp2_with fail
  with_reducible refine (CC.out).mono ?_
  rintro e4 w4 ⟨uc, rfl, hc4, hb4⟩
  obtain ⟨Ac, cc, rfl⟩ := hc4.shape
  have HB4 := Lib.hid (HB3.out.trans (hb4.mono HB3.out.size))
  have HJ4 := Lib.hid ((HJ3.out.below hb4 (Nat.le_refl _)).more hb4.size)
  have CS := short_any ((HK3.out.below hb4 (Nat.le_refl _)).more hb4.size) hc4.rs (Nat.le_refl _) (by omega) (by rw [← HF.out]; omega)
  rw [← HF.out] at CS
  have HCS := Lib.hid CS
  clear CS hc4 hb4
  go_wp2_with fail
  with_reducible refine (HCS.out).mono ?_
  rintro e5 w5 ⟨us, rfl, hs5, hb5⟩
  obtain ⟨As, cs, rfl⟩ := hs5.shapeN (shortL_len key F)
  have HB5 := Lib.hid (HB4.out.trans (hb5.mono HB4.out.size))
  have HJ5 := Lib.hid ((HJ4.out.below hb5 (Nat.le_refl _)).more hb5.size)
  have HS5 := Lib.hid hs5.bs
  clear hs5 hb5
  have CK2 := Lib.hid (copy_any (HK.out.below HB5.out (Nat.le_refl _)) HB5.out.size (by omega))
  go_wp2_with fail
  with_reducible refine (CK2.out).mono ?_
  rintro e6 w6 ⟨uk2, rfl, hk6, hb6⟩
  obtain ⟨Ak2, ck2, rfl⟩ := hk6.shape
  have HB6 := Lib.hid (HB5.out.trans (hb6.mono HB5.out.size))
  have HJ6 := Lib.hid ((HJ5.out.below hb6 (Nat.le_refl _)).more hb6.size)
  have HS6 := Lib.hid ((HS5.out.below hb6 (Nat.le_refl _)).more hb6.size)
  have HK6 := Lib.hid hk6.bs
  clear hk6 hb6
  have CC2 := Lib.hid (copies_any (HR.out.below HB6.out (Nat.le_refl _)) HB6.out.size (by omega) (fun l hl => by have := HL.out l hl; omega))
  go_wp2_with fail
  with_reducible refine (CC2.out).mono ?_
  rintro e7 w7 ⟨uc2, rfl, hc7, hb7⟩
  obtain ⟨Ac2, cc2, rfl⟩ := hc7.shape
  have HB7 := Lib.hid (HB6.out.trans (hb7.mono HB6.out.size))
  have HJ7 := Lib.hid ((HJ6.out.below hb7 (Nat.le_refl _)).more hb7.size)
  have HS7 := Lib.hid ((HS6.out.below hb7 (Nat.le_refl _)).more hb7.size)
  have CT := tag_any ((HK6.out.below hb7 (Nat.le_refl _)).more hb7.size) hc7.rs (Nat.le_refl _) (by omega) (by rw [← HF.out]; omega)
  rw [← HF.out] at CT
  obtain ⟨cells, hcells⟩ : ∃ cells, arr32 (tagL key F) = .agg cells := ⟨_, rfl⟩
  have EQ : ∀ W, (Op.equalIn 10000 29 (.agg cells) (.agg cells)).run Try.prog W = .ok true W := fun W => by rw [← hcells]; exact eq_arr32 _ (tagL_len _ _) W
  rw [hcells] at CT
  have HCT := Lib.hid CT; have HCE := Lib.hid hcells
  clear CT hc7 hb7 hcells
  go_wp2_with fail
  with_reducible refine (HCT.out).mono ?_
  rintro e8 w8 ⟨rfl, hb8⟩
  have HB8 := Lib.hid (HB7.out.trans (hb8.mono HB7.out.size))
  have HJ8 := Lib.hid ((HJ7.out.below hb8 (Nat.le_refl _)).more hb8.size)
  have HS8 := Lib.hid ((HS7.out.below hb8 (Nat.le_refl _)).more hb8.size)
  clear hb8
  have CR := refTag_any (HK.out.below HB8.out (Nat.le_refl _)) HB8.out.size HJ8.out (Nat.le_refl _) (by omega) (by omega)
  rw [HCE.out] at CR
  have HCR := Lib.hid CR
  clear CR
  go_wp2_with fail
  with_reducible refine (HCR.out).mono ?_
  rintro e9 w9 ⟨rfl, hb9⟩
  have HB9 := Lib.hid (HB8.out.trans (hb9.mono HB8.out.size))
  have HJ9 := Lib.hid ((HJ8.out.below hb9 (Nat.le_refl _)).more hb9.size)
  have HS9 := Lib.hid ((HS8.out.below hb9 (Nat.le_refl _)).more hb9.size)
  clear hb9
  have CR2 := Lib.hid (refShort_any (HK.out.below HB9.out (Nat.le_refl _)) HB9.out.size HJ9.out (Nat.le_refl _) (by omega) (by omega))
  go_wp2_with fail
  with_reducible refine (CR2.out).mono ?_
  rintro e10 w10 ⟨ux, rfl, hx10, hb10⟩
  obtain ⟨Ax, cx, rfl⟩ := hx10.shapeN (shortL_len key F)
  have HB10 := Lib.hid (HB9.out.trans (hb10.mono HB9.out.size))
  have HJ10 := Lib.hid ((HJ9.out.below hb10 (Nat.le_refl _)).more hb10.size)
  have HS10 := Lib.hid ((HS9.out.below hb10 (Nat.le_refl _)).more hb10.size)
  have CE := Lib.hid (equal_same HS10.out hx10.bs)
  clear hx10 hb10
  go_wp2_with fail
  refine (CE.out).mono ?_
  rintro e11 w11 ⟨rfl, hd11⟩
  have hb11 := hd11.below w10.heap.size
  have HB11 := Lib.hid (HB10.out.trans (hb11.mono HB10.out.size))
  have HJ11 := Lib.hid ((HJ10.out.below hb11 (Nat.le_refl _)).more hb11.size)
  have HS11 := Lib.hid ((HS10.out.below hb11 (Nat.le_refl _)).more hb11.size)
  clear hd11 hb11
  have CK3 := Lib.hid (copy_any (HK.out.below HB11.out (Nat.le_refl _)) HB11.out.size (by omega))
  go_wp2_with fail
  with_reducible refine (CK3.out).mono ?_
  rintro e12 w12 ⟨uk3, rfl, hk12, hb12⟩
  obtain ⟨Ak3, ck3, rfl⟩ := hk12.shape
  have HB12 := Lib.hid (HB11.out.trans (hb12.mono HB11.out.size))
  have HJ12 := (HJ11.out.below hb12 (Nat.le_refl _)).more hb12.size
  have HS12 := (HS11.out.below hb12 (Nat.le_refl _)).more hb12.size
  have hba : Below w12.heap.size w12 (w12.alloc (.cells #[.slice Aj F.length cj] 22)) := (Below.refl _ _).alloc (Nat.le_refl _) _
  have hr12 := Rs.lit w12 [.slice Aj F.length cj] [F] rfl (by unfold maxLen; simp) (by
    intro j h1 h2
    obtain rfl : j = 0 := by simpa using h1
    exact HJ12)
  have CH := check_any (w := w12.alloc (.cells #[.slice Aj F.length cj] 22)) (B := w12.heap.size + 1) ((hk12.bs.below hba (Nat.le_refl _)).more (by omega)) ((HS12.below hba (Nat.le_refl _)).more (by omega)) hr12 (by simp) (by omega) (by simp; omega)
  have hfl : ([F] : List (List UInt8)).flatten = F := by simp
  rw [hfl] at CH
  have hdt : decide (shortL key F = shortL key F) = true := by simp
  rw [hdt] at CH
  have HCH := Lib.hid CH
  have HBA := Lib.hid (HB12.out.trans (hba.mono HB12.out.size))
  clear CH hfl hdt hr12 hba HJ12 HS12 hk12 hb12
  go_wp2_with fail
  refine (HCH.out).mono ?_
  rintro e13 w13 ⟨rfl, hb13⟩
  have HB13 := Lib.hid (HBA.out.trans (hb13.mono HBA.out.size))
  clear hb13
  go_wp2
  go_ret
  exact ⟨rfl, HB13.out⟩
end Go.Proofs.Ytpgnhhenikkicaa
