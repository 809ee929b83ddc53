/- Commands: marked and Check of the reference. -/
import Derived.Test.YteonidpgplhplaaN1
namespace Go.Proofs.Yteonidpgplhplaa
open Go.RowKit

set_option maxRecDepth 100000 in
set_option maxHeartbeats 4000000 in
theorem marked_any {c : Cm} (hc : c.ok) (w : World) :
    Calls Try.prog 35 #[.agg c.cs.toArray] w fun e w' => e = .returned (.bool (!c.mz)) ∧ Below w.heap.size w w' := by
  have hat := CmAt.of_range (range_new w c.cs 26)
  have HB0 := Lib.hid ((Below.refl w.heap.size w).alloc (Nat.le_refl _) (.cells c.cs.toArray 26))
  have HAT := Lib.hid hat
  obtain ⟨CS, hCS⟩ : ∃ CS, CS = c.cs.toArray := ⟨_, rfl⟩
  rw [← hCS] at HAT HB0 ⊢
  clear hat hCS
  go_enter Try.func35, Try.ntmps35
  go_upto_region 1 with fail
  generalize w.alloc (.cells CS 26) = W at HAT HB0 ⊢
  have HC := Lib.hid hc
  clear hc
  go_wp2
  go_loop [3] (fun i => ∃ k : Nat, k ≤ 16 ∧ i = .int .i64 k ∧ Hid (∀ j, j < k → c.m[j]? = some 0)) (fun i => 16 - (intOf i).toNat)
  case atStart => exact ⟨0, Nat.zero_le _, rfl, Lib.hid (fun j h => absurd h (by omega))⟩
  case round =>
    obtain ⟨k, hk, rfl, hz⟩ := hrel
    by_cases hlt : k < 16
    · obtain ⟨x, hx⟩ : ∃ x, c.m[k]? = some x := ⟨c.m[k]'(by rw [HC.out.m]; exact hlt), List.getElem?_eq_getElem _⟩
      have hcell := HAT.out.m k (vb x) (by simp [hx])
      rw [show 0 + 4 + k = 4 + k by omega] at hcell
      have hcell' : W.cell? ⟨w.heap.size, 4 + k, none⟩ = some (.int .u8 (x.toNat : Int)) := hcell
      have HX := Lib.hid hx
      clear hx hcell
      by_cases h0 : x = 0
      · subst h0
        go_wp2
        go_round
        case rel => exact ⟨k + 1, by omega, by go_num, Lib.hid (fun j h => by
          rcases Nat.lt_or_ge j k with hjk | hjk
          · exact hz.out j hjk
          · obtain rfl : j = k := by omega
            exact HX.out)⟩
        case measure => simp [intOf]; omega
      · have hne : ((x.toNat : Int) != 0) = true := by
          simp only [bne_iff_ne, ne_eq]
          intro h
          exact h0 (UInt8.toNat_inj.1 (by simpa using h))
        have hmz : c.mz = false := by
          rw [Cm.mz, decide_eq_false_iff_not]
          intro h
          have := HX.out
          rw [h, List.getElem?_replicate_of_lt hlt] at this
          exact h0 (Option.some.inj this).symm
        have HMZ := Lib.hid hmz
        clear hmz h0
        go_wp2
        go_ret
        exact ⟨ret_bool (by rw [HMZ.out]; rfl), HB0.out⟩
    · obtain rfl : k = 16 := by omega
      have hmz : c.mz = true := by
        rw [Cm.mz, decide_eq_true_eq]
        refine List.ext_getElem (by rw [HC.out.m]; simp) fun j h1 h2 => ?_
        have := hz.out j (by rw [HC.out.m] at h1; exact h1)
        rw [List.getElem?_eq_getElem h1] at this
        rw [Option.some.inj this, List.getElem_replicate]
      have HMZ := Lib.hid hmz
      clear hmz
      go_wp2
      go_ret
      exact ⟨ret_bool (by rw [HMZ.out]; rfl), HB0.out⟩

set_option maxRecDepth 100000 in
set_option maxHeartbeats 4000000 in
theorem refcheck_any {c : Cm} (hc : c.ok) (w : World) :
    Calls Try.prog 14 #[.agg c.cs.toArray] w fun e w' => e = .returned (.int .i64 c.chk) ∧ Below w.heap.size w w' := by
  obtain ⟨r, hr⟩ : ∃ r, r = c.chk := ⟨_, rfl⟩
  rw [← hr]
  have hat := CmAt.of_range (range_new w c.cs 26)
  have hrg := range_new w c.cs 26
  have HB0 := Lib.hid ((Below.refl w.heap.size w).alloc (Nat.le_refl _) (.cells c.cs.toArray 26))
  have HAT := Lib.hid hat; have HRG := Lib.hid hrg
  have HZ0 : w.heap.size < (w.alloc (.cells c.cs.toArray 26)).heap.size := by simp
  have hlen := Cm.len hc
  have CM := fun W => marked_any hc W
  obtain ⟨CS, hCS⟩ : ∃ CS, CS = c.cs := ⟨_, rfl⟩
  rw [← hCS] at HAT HB0 HRG HZ0 CM hlen ⊢
  have HLN := Lib.hid hlen; have HCM := Lib.hid CM
  clear hat hCS hrg hlen CM
  go_enter Try.func14, Try.ntmps14
  go_upto_region 1 with fail
  generalize w.alloc (.cells CS.toArray 26) = W at HAT HB0 HRG HZ0 ⊢
  have hk := HAT.out.k
  have hd := HAT.out.d
  have hn := HAT.out.n
  simp only [Nat.zero_add] at hk hd hn
  have CM := Lib.hid ((HCM.out W).mono (fun e w' ⟨h1, h2⟩ => (⟨h1, HB0.out.trans (h2.mono HB0.out.size), (h2.cell (p := ⟨w.heap.size, 2, none⟩) HZ0).trans hd⟩ : e = Ending.returned (.bool (!c.mz)) ∧ Below w.heap.size w w' ∧ w'.cell? ⟨w.heap.size, 2, none⟩ = some (Value.int IntKind.u32 (c.d : Int)))))
  have u26 := Try.underlying26
  have i26 : (Try.prog.info? 26).map (·.size) = some CS.length := by rw [HLN.out]; kernel_rfl
  have HI := Lib.hid i26
  clear i26 HCM
  obtain ⟨z, hz⟩ : ∃ z, z = c.mz := ⟨_, rfl⟩
  obtain ⟨k, hkk⟩ : ∃ k, k = c.k := ⟨_, rfl⟩
  obtain ⟨d, hdd⟩ : ∃ d, d = c.d := ⟨_, rfl⟩
  obtain ⟨n, hnn⟩ : ∃ n, n = c.n := ⟨_, rfl⟩
  have hd32 := hc.d; have hn64 := hc.n
  rw [← hz, ← hdd] at CM
  rw [← hkk] at hk
  rw [← hdd] at hd hd32
  rw [← hnn] at hn hn64
  rw [Cm.chk, ← hz, ← hkk, ← hdd, ← hnn] at hr
  have HR := Lib.hid hr
  clear hz hkk hdd hnn hr hc HAT
  by_cases hk1 : k < 1
  · have e : decide ((k : Int) < 1) = true := by simp; omega
    have hr : r = 1 := by rw [HR.out, if_pos (by omega)]
    subst hr
    go_wp2
    go_ret
    exact ⟨rfl, HB0.out⟩
  have e1 : decide ((k : Int) < 1) = false := by simp; omega
  by_cases hk4 : 4 < k
  · have e : decide ((4 : Int) < k) = true := by simp; omega
    have hr : r = 1 := by rw [HR.out, if_pos (by omega)]
    subst hr
    go_wp2
    go_ret
    exact ⟨rfl, HB0.out⟩
  have e4 : decide ((4 : Int) < (k : Int)) = false := by simp; omega
  have hr : r = _ := HR.out.trans (if_neg (by omega))
  clear HR
  have HR := Lib.hid hr
  clear hr
  have fin : ∀ b : Bool, decide ((1000000 : Int) < (d : Int)) = b → decide (1000000 < d) = b := by
    intro b h; rw [← h]; exact decide_eq_decide.2 (by omega)
  obtain ⟨bd, hbd⟩ : ∃ b, decide ((1000000 : Int) < (d : Int)) = b := ⟨_, rfl⟩
  have hbd' := fin bd hbd
  have HR2 : r = if (k = 1 ∧ n = 0) ∨ (k ≠ 1 ∧ n ≠ 0) ∨ (k ≠ 4 ∧ z = false) then 3 else if bd = true then 11 else 0 := by
    rw [HR.out, ← hbd']; simp only [decide_eq_true_eq]
  have HR3 := Lib.hid HR2
  clear fin hbd' HR HR2
  by_cases hn0 : n = 0
  · subst hn0
    rcases (by omega : k = 1 ∨ k = 2 ∨ k = 3 ∨ k = 4) with rfl | rfl | rfl | rfl
    · have hr : r = 3 := by rw [HR3.out, if_pos (by simp)]
      subst hr
      go_wp2
      go_ret
      exact ⟨rfl, HB0.out⟩
    · go_wp2_with ((with_reducible refine wpList_load_midG ?_ 26 (.tmp 1) rfl w.heap.size 0 rfl CS _ HRG.out u26 rfl HI.out ?_); (focus rfl))
      with_reducible refine (CM.out).mono ?_
      rintro e1 w1 ⟨rfl, hb1, hd'⟩
      have HB1 := Lib.hid hb1
      clear hb1
      cases z
      · have hr : r = 3 := by rw [HR3.out]; simp
        subst hr
        go_wp2
        go_ret
        exact ⟨rfl, HB1.out⟩
      · cases bd
        · have hr : r = 0 := by rw [HR3.out]; simp
          subst hr
          go_wp2
          go_ret
          exact ⟨rfl, HB1.out⟩
        · have hr : r = 11 := by rw [HR3.out]; simp
          subst hr
          go_wp2
          go_ret
          exact ⟨rfl, HB1.out⟩
    · go_wp2_with ((with_reducible refine wpList_load_midG ?_ 26 (.tmp 1) rfl w.heap.size 0 rfl CS _ HRG.out u26 rfl HI.out ?_); (focus rfl))
      with_reducible refine (CM.out).mono ?_
      rintro e1 w1 ⟨rfl, hb1, hd'⟩
      have HB1 := Lib.hid hb1
      clear hb1
      cases z
      · have hr : r = 3 := by rw [HR3.out]; simp
        subst hr
        go_wp2
        go_ret
        exact ⟨rfl, HB1.out⟩
      · cases bd
        · have hr : r = 0 := by rw [HR3.out]; simp
          subst hr
          go_wp2
          go_ret
          exact ⟨rfl, HB1.out⟩
        · have hr : r = 11 := by rw [HR3.out]; simp
          subst hr
          go_wp2
          go_ret
          exact ⟨rfl, HB1.out⟩
    · cases bd
      · have hr : r = 0 := by rw [HR3.out]; simp
        subst hr
        go_wp2
        go_ret
        exact ⟨rfl, HB0.out⟩
      · have hr : r = 11 := by rw [HR3.out]; simp
        subst hr
        go_wp2
        go_ret
        exact ⟨rfl, HB0.out⟩
  · have hn1 : ((n : Int) != 0) = true := by simp; omega
    have hn2 : ((n : Int) == 0) = false := by simp; omega
    rcases (by omega : k = 1 ∨ k = 2 ∨ k = 3 ∨ k = 4) with rfl | rfl | rfl | rfl
    · go_wp2_with ((with_reducible refine wpList_load_midG ?_ 26 (.tmp 1) rfl w.heap.size 0 rfl CS _ HRG.out u26 rfl HI.out ?_); (focus rfl))
      with_reducible refine (CM.out).mono ?_
      rintro e1 w1 ⟨rfl, hb1, hd'⟩
      have HB1 := Lib.hid hb1
      clear hb1
      cases z
      · have hr : r = 3 := by rw [HR3.out]; simp [hn0]
        subst hr
        go_wp2
        go_ret
        exact ⟨rfl, HB1.out⟩
      · cases bd
        · have hr : r = 0 := by rw [HR3.out]; simp [hn0]
          subst hr
          go_wp2
          go_ret
          exact ⟨rfl, HB1.out⟩
        · have hr : r = 11 := by rw [HR3.out]; simp [hn0]
          subst hr
          go_wp2
          go_ret
          exact ⟨rfl, HB1.out⟩
    · have hr : r = 3 := by rw [HR3.out, if_pos (by simp; omega)]
      subst hr
      go_wp2
      go_ret
      exact ⟨rfl, HB0.out⟩
    · have hr : r = 3 := by rw [HR3.out, if_pos (by simp; omega)]
      subst hr
      go_wp2
      go_ret
      exact ⟨rfl, HB0.out⟩
    · have hr : r = 3 := by rw [HR3.out, if_pos (by simp; omega)]
      subst hr
      go_wp2
      go_ret
      exact ⟨rfl, HB0.out⟩
end Go.Proofs.Yteonidpgplhplaa
