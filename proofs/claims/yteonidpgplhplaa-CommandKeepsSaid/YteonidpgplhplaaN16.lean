/- CommandKeeps, walked. -/
import Derived.Test.YteonidpgplhplaaN7
import Derived.Test.YteonidpgplhplaaN9
import Derived.Test.YteonidpgplhplaaG8
namespace Go.Proofs.Yteonidpgplhplaa
open Go.RowKit

/-- what Encode answers of it -/
def Cm.encL (c : Cm) : List UInt8 := if c.chk = 0 then c.enc else []
theorem Cm.encL_len {c : Cm} (h : c.ok) : c.encL.length ≤ 32 := by
  unfold Cm.encL
  split
  · rw [Cm.enc_len h]; exact Nat.le_refl _
  · simp
theorem encode_all {c : Cm} (hc : c.ok) (w : World) :
    Calls Try.prog 10 #[.agg c.cs.toArray] w fun e w' => ∃ v, e = .returned (.tuple #[v, .int .i64 c.chk]) ∧ Own w' w.heap.size v c.encL ∧ Below w.heap.size w w' := by
  by_cases h : c.chk = 0
  · rw [Cm.encL, if_pos h, h]; exact encode_ok hc h w
  · rw [Cm.encL, if_neg h]
    exact (encode_no hc h w).mono fun e w' ⟨h1, h2⟩ => ⟨_, h1, Own.nil _ _, h2⟩

set_option maxRecDepth 100000 in
set_option maxHeartbeats 4000000 in
theorem ckeeps_walk {a : List UInt8} {c : Cm} {u : Value} {w : World} (ha : Bs w w.heap.size u a) (hc : c.ok) (hl : a.length ≤ 140737488354900) :
    Calls Try.prog 7 #[u, .agg c.cs.toArray] w fun e w' => e = .returned (.bool true) ∧ Below w.heap.size w w' := by
  obtain ⟨AA, cA, rfl⟩ := ha.shape
  have CA := Lib.hid (awake_any (w.alloc (.cells c.cs.toArray 26)))
  have hrg := range_new w c.cs 26
  have HB0 := Lib.hid ((Below.refl w.heap.size w).alloc (Nat.le_refl _) (.cells c.cs.toArray 26))
  have HRG := Lib.hid hrg
  have HZ0 : w.heap.size < (w.alloc (.cells c.cs.toArray 26)).heap.size := by simp
  have hlen := Cm.len hc
  have hel := Cm.encL_len hc
  have CEN := fun W => encode_all hc W
  obtain ⟨r, hr⟩ : ∃ r, r = c.chk := ⟨_, rfl⟩
  obtain ⟨L, hL⟩ : ∃ L, L = c.encL := ⟨_, rfl⟩
  obtain ⟨CS, hCS⟩ : ∃ CS, CS = c.cs := ⟨_, rfl⟩
  rw [← hr] at CEN
  rw [← hL] at CEN hel
  rw [← hCS] at CA HB0 HRG HZ0 hlen CEN ⊢
  have HLN := Lib.hid hlen; have HCEN := Lib.hid CEN; have HA := Lib.hid ha
  clear hrg hlen CEN hr hCS hL ha hc
  go_enter Try.func7, Try.ntmps7
  go_upto_region 1 with fail
  generalize w.alloc (.cells CS.toArray 26) = W at CA HB0 HRG HZ0 ⊢
  have u26 := Try.underlying26
  have i26 : (Try.prog.info? 26).map (·.size) = some CS.length := by rw [HLN.out]; kernel_rfl
  have HI := Lib.hid i26
  clear i26
  go_wp2_with fail
  with_reducible refine (CA.out).mono ?_
  rintro e1 w1 ⟨rfl, hb1⟩
  have HB1 := Lib.hid (HB0.out.trans (hb1.mono HB0.out.size))
  have HR1 := Lib.hid (range_below HRG.out hb1 HZ0)
  have hz1 : w.heap.size < w1.heap.size := Nat.lt_of_lt_of_le HZ0 hb1.size
  have C2 := Lib.hid (spare_any (HA.out.below HB1.out (Nat.le_refl _)) HB1.out.size (by omega))
  clear hb1 HB0 HRG CA
  go_wp2_with fail
  with_reducible refine (C2.out).mono ?_
  rintro e2 w2 ⟨gX, rfl, hgx, hox, hb2⟩
  have hz2 := hb2.size
  have hgx2 : gX < w2.heap.size := (own_lt hox (k := gX) rfl).2
  have K2 : Hid (K1 w gX a w2) := Lib.hid ⟨HB1.out.trans (hb2.mono HB1.out.size), hox.more HB1.out.size⟩
  have HR2 := Lib.hid (range_below HR1.out hb2 hz1)
  have C3 := Lib.hid (decode_any K2.out.bx (Nat.le_refl _))
  obtain ⟨DC, hDC⟩ : ∃ DC, DC = (decC a).cs.toArray := ⟨_, rfl⟩
  rw [← hDC] at C3
  clear hb2 hox C2 HR1 HB1 hDC
  go_wp2_with fail
  with_reducible refine (C3.out).mono ?_
  rintro e3 w3 ⟨rfl, hb3⟩
  have hz3 := hb3.size
  have K3 := Lib.hid (K2.out.below hb3)
  have HR3 := Lib.hid (range_below HR2.out hb3 (by omega))
  have D4 := Lib.hid (HCEN.out w3)
  clear hb3 C3 K2 HR2
  go_wp2_with (with_reducible refine wpList_load_mid rfl 26 (.tmp 3) rfl w.heap.size 0 rfl CS _ HR3.out u26 rfl HI.out ?_)
  with_reducible refine (D4.out).mono ?_
  rintro e4 w4 ⟨v4, rfl, ho4, hb4⟩
  have hz4 := hb4.size
  have K4 := Lib.hid (K3.out.below hb4)
  have HR4 := Lib.hid (range_below HR3.out hb4 (by omega))
  have HO4 := Lib.hid ho4
  obtain ⟨A4, c4, rfl⟩ := ho4.shape
  have D5 := Lib.hid (HCEN.out w4)
  clear hb4 ho4 D4 K3 HR3
  go_wp2_with (with_reducible refine wpList_load_mid rfl 26 (.tmp 3) rfl w.heap.size 0 rfl CS _ HR4.out u26 rfl HI.out ?_)
  with_reducible refine (D5.out).mono ?_
  rintro e5 w5 ⟨v5, rfl, ho5, hb5⟩
  have hz5 := hb5.size
  have K5 := Lib.hid (K4.out.below hb5)
  have hgx3 : gX < w3.heap.size := by omega
  have hpq := own_block_ne HO4.out ho5 (Nat.le_refl _)
  have h4 := HO4.out.below hb5 (Nat.le_refl _)
  obtain ⟨A5, c5, rfl⟩ := ho5.shape
  have HPQ := Lib.hid hpq
  have HO4 := Lib.hid h4; have HO5 := Lib.hid ho5
  have C6 := Lib.hid (kept_any K5.out.X.bs (HA.out.below K5.out.bel (Nat.le_refl _)) (by omega))
  have hgl := K5.out.geX
  clear hb5 ho5 D5 K4 HR4 hpq h4
  go_wp2_with fail
  with_reducible refine (C6.out).mono ?_
  rintro e6 w6 ⟨rfl, hd6⟩
  have hb6 := hd6.below w5.heap.size
  have K6 := Lib.hid (K5.out.below hb6)
  have H46 := Lib.hid (HO4.out.below hb6 (Nat.le_refl _))
  have H56 := Lib.hid (HO5.out.below hb6 (Nat.le_refl _))
  have C7 := Lib.hid (equal_same H46.out.bs H56.out.bs)
  have hz6 := hb6.size
  clear hd6 hb6 C6 K5
  go_wp2_with fail
  with_reducible refine (C7.out).mono ?_
  rintro e7 w7 ⟨rfl, hd7⟩
  have hb7 := hd7.below w6.heap.size
  have hz7 := hb7.size
  have K7 := Lib.hid (K6.out.below hb7)
  have H47 := Lib.hid (H46.out.below hb7 (Nat.le_refl _))
  have H57 := Lib.hid (H56.out.below hb7 (Nat.le_refl _))
  have h4x : ∀ j, (Value.slice A4 L.length c4).ownBlock = some j → gX < j := fun j hj => by have := (own_lt HO4.out hj).1; omega
  have h5x : ∀ j, (Value.slice A5 L.length c5).ownBlock = some j → gX < j := fun j hj => by have := (own_lt HO5.out hj).1; omega
  have CAP := (apart_new (ps := [(.slice (some ⟨gX, 0, none⟩) (a.length + 40) (a.length + 40), fullS a), (.slice A4 L.length c4, L), (.slice A5 L.length c5, L)]) (w := w7) (B := w.heap.size) (n := 3) rfl K7.out.bel.size (by omega) (by
      simp only [List.mem_cons, List.not_mem_nil, or_false]
      rintro p (rfl | rfl | rfl)
      · show (fullS a).length ≤ _; rw [fullS_len]; omega
      · show L.length ≤ _; omega
      · show L.length ≤ _; omega) (by
      simp only [List.mem_cons, List.not_mem_nil, or_false]
      rintro p (rfl | rfl | rfl)
      · exact K7.out.X
      · exact H47.out.more (by omega)
      · exact H57.out.more (by omega)) (by
      refine List.pairwise_cons.2 ⟨?_, List.pairwise_cons.2 ⟨?_, List.pairwise_singleton _ _⟩⟩
      all_goals simp only [List.mem_cons, List.not_mem_nil, or_false]
      · rintro p (rfl | rfl)
        · exact .inr (fun e => by have := h4x gX e.symm; omega)
        · exact .inr (fun e => by have := h5x gX e.symm; omega)
      · rintro p rfl
        exact HPQ.out))
  simp only [List.map_cons, List.map_nil] at CAP
  have CAP := Lib.hid CAP
  have HBF := Lib.hid K7.out.bel
  clear hd7 hb7 C7 K6 K7 H46 H56
  go_wp2_with fail
  with_reducible refine (CAP.out).mono ?_
  rintro e8 w8 ⟨rfl, hb8⟩
  go_wp2
  go_ret
  exact ⟨rfl, HBF.out.trans hb8⟩
end Go.Proofs.Yteonidpgplhplaa
