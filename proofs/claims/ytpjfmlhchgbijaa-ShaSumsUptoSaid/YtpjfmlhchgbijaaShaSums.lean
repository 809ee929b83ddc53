/- The law ShaSums, walked. -/
import Derived.Test.YtpjfmlhchgbijaaShaAwake
namespace Go.Proofs.Ytpjfmlhchgbijaa
open Go.RowKit

theorem eq_arr32 (l : List UInt8) (h : l.length = 32) (W : World) : (Op.equalIn 10000 24 (arr32 l) (arr32 l)).run Try.prog W = .ok true W := by
  obtain ⟨i, hi⟩ : ∃ i, Try.prog.info? 5 = some i := Option.isSome_iff_exists.1 (by kernel_rfl)
  have h2 := run_eq_arr (P := Try.prog) (k := .u8) W Try.underlying24 hi (by kernel_rfl) (by kernel_rfl) Try.underlying5 (l.map fun x => (x.toNat : Int)) (l.map fun x => (x.toNat : Int)) (by simpa using h) (by simpa using h) 9998
  have e : arr32 l = .agg ((l.map fun x => (x.toNat : Int)).map (Value.int .u8)).toArray := by rw [arr32, List.map_map]; rfl
  rw [e, h2]
  simp

set_option maxRecDepth 100000 in
set_option maxHeartbeats 1600000 in
theorem shasums_walk {ls : List (List UInt8)} {v : Value} {w : World} (hr : Rs w w.heap.size v ls) (hn : ls.length ≤ 1048576) (hf : ls.flatten.length ≤ 1048576) (hl : ∀ l ∈ ls, l.length ≤ 1048576) :
    Calls Try.prog 3 #[v] w fun e w' => e = .returned (.bool true) ∧ Below w.heap.size w w' := by
  have CA := Lib.hid (awake2_any w)
  obtain ⟨F, hF⟩ : ∃ F, F = ls.flatten := ⟨_, rfl⟩
  rw [← hF] at hf
  have HF := Lib.hid hF
  clear hF
  have HR := Lib.hid hr; have HL := Lib.hid hl
  clear hr hl
  go_enter Try.func3, Try.ntmps3
  go_wp2_with fail
  with_reducible refine (CA.out).mono ?_
  rintro e1 w1 ⟨rfl, hb1⟩
  have hr1 := HR.out.below hb1 (Nat.le_refl _)
  have CC := Lib.hid (copies_any hr1 hb1.size (by omega) (fun l hl => by have := HL.out l hl; omega))
  have HB1 := Lib.hid hb1; have HR1 := Lib.hid hr1
  clear hb1 hr1
  go_wp2_with fail
  with_reducible refine (CC.out).mono ?_
  rintro e2 w2 ⟨u2, rfl, hu2, hb2⟩
  obtain ⟨A2, c2, rfl⟩ := hu2.shape
  have CS := shaSum_any hu2.rs (Nat.le_refl _) (by rw [← HF.out]; omega)
  rw [← HF.out] at CS
  obtain ⟨S, hS⟩ : ∃ S, S = arr32 (sumL F) := ⟨_, rfl⟩
  rw [← hS] at CS
  have HCS := Lib.hid CS; have HS := Lib.hid hS
  have HB2 := Lib.hid (HB1.out.trans (hb2.mono HB1.out.size))
  have HR2 := Lib.hid (HR1.out.below hb2 HB1.out.size)
  have hs2 : w.heap.size ≤ w2.heap.size := HB2.out.size
  clear CS hS hu2 hb2
  go_wp2_with fail
  with_reducible refine (HCS.out).mono ?_
  rintro e3 w3 ⟨rfl, hb3⟩
  have hr3 := HR2.out.below hb3 hs2
  have HB3 := Lib.hid (HB2.out.trans (hb3.mono hs2))
  have CJ := Lib.hid (refjoin_any hr3 HB3.out.size (by rw [← HF.out]; omega))
  clear hr3 hb3
  go_wp2_with fail
  with_reducible refine (CJ.out).mono ?_
  rintro e4 w4 ⟨u4, rfl, hu4, hb4⟩
  rw [← HF.out] at hu4
  obtain ⟨A4, c4, rfl⟩ := hu4.shape
  have CR := refSum_any hu4.bs (Nat.le_refl _) (by omega)
  rw [← HS.out] at CR
  have HCR := Lib.hid CR
  have HB4 := Lib.hid (HB3.out.trans (hb4.mono HB3.out.size))
  have EQ : ∀ W, (Op.equalIn 10000 24 S S).run Try.prog W = .ok true W := fun W => by rw [HS.out]; exact eq_arr32 _ (sumL_len _) W
  obtain ⟨cs, hcs⟩ : ∃ cs, S = .agg cs := ⟨_, HS.out⟩
  rw [hcs] at EQ HCR
  have HC := Lib.hid hcs
  subst hcs
  clear hu4 hb4 CR
  go_wp2_with fail
  with_reducible refine (HCR.out).mono ?_
  rintro e5 w5 ⟨rfl, hb5⟩
  have HB5 := Lib.hid (HB4.out.trans (hb5.mono HB4.out.size))
  clear hb5
  go_wp2
  go_ret
  exact ⟨rfl, HB5.out⟩
end Go.Proofs.Ytpjfmlhchgbijaa
