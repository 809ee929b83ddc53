/- The law MacChecks, walked. -/
import Derived.Test.YtpgnhhenikkicaaMacAwake
namespace Go.Proofs.Ytpgnhhenikkicaa
open Go.RowKit

set_option maxRecDepth 100000 in
theorem short_empty : shortL [] [] = [182, 19, 103, 154, 8, 20, 217, 236, 119, 47, 149, 215, 120, 195, 95, 197] := by decide +kernel
set_option maxRecDepth 100000 in
set_option maxHeartbeats 3200000 in
theorem macchecks_walk {key tag : List UInt8} {ls : List (List UInt8)} {v x u : Value} {w : World} (hk : Bs w w.heap.size v key) (ht : Bs w w.heap.size x tag) (hr : Rs w w.heap.size u ls) (hkl : key.length ≤ 1048576) (htl : tag.length ≤ 1048576) (hn : ls.length ≤ 1048576) (hf : ls.flatten.length ≤ 1048576) (hl : ∀ l ∈ ls, l.length ≤ 1048576) :
    Calls Try.prog 4 #[v, x, u] w fun e w' => e = .returned (.bool true) ∧ Below w.heap.size w w' := by
  have CA := Lib.hid (awake3_any w)
  obtain ⟨F, hF⟩ : ∃ F, F = ls.flatten := ⟨_, rfl⟩
  rw [← hF] at hf
  obtain ⟨Ax, cx, hxe⟩ := ht.shape
  subst hxe
  have HF := Lib.hid hF; have HK := Lib.hid hk; have HR := Lib.hid hr; have HL := Lib.hid hl; have HT := Lib.hid ht
  clear hF hk hr hl ht
  go_enter Try.func4, Try.ntmps4
  go_wp2_with fail
  refine (CA.out).mono ?_
  rintro e1 w1 ⟨rfl, hb1⟩
  have hba : Below w1.heap.size w1 (w1.alloc (.cells #[.int .u8 182, .int .u8 19, .int .u8 103, .int .u8 154, .int .u8 8, .int .u8 20, .int .u8 217, .int .u8 236, .int .u8 119, .int .u8 47, .int .u8 149, .int .u8 215, .int .u8 120, .int .u8 195, .int .u8 95, .int .u8 197] 5)) := (Below.refl _ _).alloc (Nat.le_refl _) _
  have bl := Bs.lit w1 [182, 19, 103, 154, 8, 20, 217, 236, 119, 47, 149, 215, 120, 195, 95, 197] (by unfold maxLen; simp)
  have CH := check_any (w := w1.alloc (.cells #[.int .u8 182, .int .u8 19, .int .u8 103, .int .u8 154, .int .u8 8, .int .u8 20, .int .u8 217, .int .u8 236, .int .u8 119, .int .u8 47, .int .u8 149, .int .u8 215, .int .u8 120, .int .u8 195, .int .u8 95, .int .u8 197] 5)) (B := w1.heap.size + 1) (Bs.nil _ _) bl (Rs.nil _ _) (by simp) (by simp) (by simp)
  have hdt : decide (([182, 19, 103, 154, 8, 20, 217, 236, 119, 47, 149, 215, 120, 195, 95, 197] : List UInt8) = shortL [] ([] : List (List UInt8)).flatten) = true := by rw [List.flatten_nil, short_empty]; simp
  rw [hdt] at CH
  have HCH := Lib.hid CH
  have HB1 := Lib.hid hb1
  have HBA := Lib.hid (hb1.trans (hba.mono hb1.size))
  clear CH hdt bl hba hb1
  go_wp2_with fail
  refine (HCH.out).mono ?_
  rintro e2 w2 ⟨rfl, hb2⟩
  have HB2 := Lib.hid (HBA.out.trans (hb2.mono HBA.out.size))
  clear hb2
  have CK := Lib.hid (copy_any (HK.out.below HB2.out (Nat.le_refl _)) HB2.out.size (by omega))
  go_wp2_with fail
  with_reducible refine (CK.out).mono ?_
  rintro e3 w3 ⟨uk, rfl, hk3, hb3⟩
  obtain ⟨Ak, ck, rfl⟩ := hk3.shape
  have HB3 := Lib.hid (HB2.out.trans (hb3.mono HB2.out.size))
  have HK3 := Lib.hid hk3.bs
  clear hk3 hb3
  have CT := Lib.hid (copy_any (HT.out.below HB3.out (Nat.le_refl _)) HB3.out.size (by omega))
  go_wp2_with fail
  with_reducible refine (CT.out).mono ?_
  rintro e4 w4 ⟨ut, rfl, ht4, hb4⟩
  obtain ⟨At, ct, rfl⟩ := ht4.shape
  have HB4 := Lib.hid (HB3.out.trans (hb4.mono HB3.out.size))
  have HK4 := Lib.hid ((HK3.out.below hb4 (Nat.le_refl _)).more hb4.size)
  have HT4 := Lib.hid ht4.bs
  clear ht4 hb4
  have CC := Lib.hid (copies_any (HR.out.below HB4.out (Nat.le_refl _)) HB4.out.size (by omega) (fun l hl => by have := HL.out l hl; omega))
  go_wp2_with fail
  with_reducible refine (CC.out).mono ?_
  rintro e5 w5 ⟨uc, rfl, hc5, hb5⟩
  obtain ⟨Ac, cc, rfl⟩ := hc5.shape
  have HB5 := Lib.hid (HB4.out.trans (hb5.mono HB4.out.size))
  have CH2 := check_any ((HK4.out.below hb5 (Nat.le_refl _)).more hb5.size) ((HT4.out.below hb5 (Nat.le_refl _)).more hb5.size) hc5.rs (Nat.le_refl _) (by omega) (by rw [← HF.out]; omega)
  rw [← HF.out] at CH2
  obtain ⟨z, hz⟩ : ∃ z, z = decide (tag = shortL key F) := ⟨_, rfl⟩
  rw [← hz] at CH2
  have HZ := Lib.hid hz; have HCH2 := Lib.hid CH2
  clear CH2 hc5 hb5 hz
  go_wp2_with fail
  refine (HCH2.out).mono ?_
  rintro e6 w6 ⟨rfl, hb6⟩
  have HB6 := Lib.hid (HB5.out.trans (hb6.mono HB5.out.size))
  clear hb6
  have CJ := Lib.hid (refjoin_any (HR.out.below HB6.out (Nat.le_refl _)) HB6.out.size (by rw [← HF.out]; omega))
  go_wp2_with fail
  with_reducible refine (CJ.out).mono ?_
  rintro e7 w7 ⟨uj, rfl, hj, hb7⟩
  rw [← HF.out] at hj
  obtain ⟨Aj, cj, rfl⟩ := hj.shape
  have HB7 := Lib.hid (HB6.out.trans (hb7.mono HB6.out.size))
  have HJ7 := Lib.hid hj.bs
  clear hj hb7
  have CS := Lib.hid (refShort_any (HK.out.below HB7.out (Nat.le_refl _)) HB7.out.size HJ7.out (Nat.le_refl _) (by omega) (by omega))
  go_wp2_with fail
  with_reducible refine (CS.out).mono ?_
  rintro e8 w8 ⟨us, rfl, hs8, hb8⟩
  obtain ⟨As, cs, rfl⟩ := hs8.shapeN (shortL_len key F)
  have HB8 := Lib.hid (HB7.out.trans (hb8.mono HB7.out.size))
  have CE := equal_any (HT.out.below HB8.out (Nat.le_refl _)) hs8.bs
  rw [← HZ.out] at CE
  have HCE := Lib.hid CE
  clear hs8 hb8 CE
  go_wp2_with fail
  refine (HCE.out).mono ?_
  rintro e9 w9 ⟨rfl, hd9⟩
  have HB9 := Lib.hid (HB8.out.trans ((hd9.below _).mono HB8.out.size))
  clear hd9
  go_wp2
  go_ret
  exact ⟨ret_bool (by simp), HB9.out⟩
end Go.Proofs.Ytpgnhhenikkicaa
