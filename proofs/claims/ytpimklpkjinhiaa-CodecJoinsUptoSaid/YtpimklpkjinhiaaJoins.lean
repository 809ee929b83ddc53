/- The law CodecJoins, walked: lists of bytes that are joined are one list, and cut at their lengths they are the old lists again. -/
import Derived.Test.YtpimklpkjinhiaaCutAll
namespace Go.Proofs.Ytpimklpkjinhiaa
open Go.RowKit

theorem equals_same {a : List (List UInt8)} {va vb : Value} {w : World} {B1 B2 : Nat} (ha : Rs w B1 va a) (hb : Rs w B2 vb a) :
    Calls Try.prog 25 #[va, vb] w fun e w' => e = .returned (.bool true) ∧ Drew w w' :=
  (equals_any ha hb).mono fun _ _ h => ⟨by rw [h.1]; simp, h.2⟩

set_option maxHeartbeats 800000 in
theorem joins_walk {ls : List (List UInt8)} {v : Value} {w : World} (hr : Rs w w.heap.size v ls) (hn : ls.length ≤ 1048576) (hsum : ls.flatten.length ≤ 1048576) (hs : ∀ l ∈ ls, l.length ≤ 1048576) :
    Calls Try.prog 5 #[v] w fun e w' => e = .returned (.bool true) ∧ Below w.heap.size w w' := by
  have HR := Lib.hid hr
  obtain ⟨A, c, rfl, h1, h2, h3⟩ := hr
  have H3 := Lib.hid h3; clear h3
  unfold maxLen at h2
  have HS := Lib.hid hs; clear hs
  obtain ⟨F, hF⟩ : ∃ F, F = ls.flatten := ⟨_, rfl⟩
  have HF := Lib.hid hF; clear hF
  have hsumF : F.length ≤ 1048576 := by rw [HF.out]; exact hsum
  go_enter Try.func5, Try.ntmps5
  go_wp2_with fail
  refine (awake_any w).mono ?_
  rintro e w1 ⟨rfl, hb1⟩
  have hr1 := HR.out.below hb1 (Nat.le_refl _)
  have hz1 := hb1.size
  go_wp2_with fail
  refine (copies_any hr1 (by omega) (by omega) (fun l hl => by have := HS.out l hl; omega)).mono ?_
  rintro e w2 ⟨u2, rfl, ho2, hb2⟩
  have hb2' := hb1.trans (hb2.mono hz1)
  have hz2 := hb2'.size
  go_wp2_with fail
  refine (join_any ho2.rs (Nat.le_refl _) (by omega)).mono ?_
  rintro e w3 ⟨u3, rfl, ho3, hb3⟩
  rw [← HF.out] at ho3
  have hb3' := hb2'.trans (hb3.mono hz2)
  have hz3 := hb3'.size
  have hr3 := HR.out.below hb3' (Nat.le_refl _)
  clear hr1 ho2 hb2 hb2' hb1 hb3
  go_wp2_with fail
  refine (refjoin_any hr3 (by omega) (by omega)).mono ?_
  rintro e w4 ⟨u4, rfl, ho4, hb4⟩
  rw [← HF.out] at ho4
  have ho34 := ho3.below hb4 (Nat.le_refl _)
  go_wp2_with fail
  refine (equal_same ho34.bs ho4.bs).mono ?_
  rintro e w5 ⟨rfl, hd5⟩
  have hb5 := (hb3'.trans (hb4.mono hz3)).trans (hd5.below _)
  have hb35 : Below w3.heap.size w3 w5 := hb4.trans (hd5.below _)
  have HO3 := Lib.hid (ho3.below hb35 (Nat.le_refl _))
  obtain ⟨A3, c3, rfl⟩ := ho3.shape
  have hz35 := hb35.size
  clear ho3 ho4 ho34 hr3 hb4 hb3' hd5 hz1 hz2
  go_wp2
  go_loopw [4, 21] (fun s i wr => ∃ k : Nat, k ≤ ls.length ∧ i = .int .i64 k ∧ Below w.heap.size w wr ∧ Hid (Below w5.heap.size w5 wr) ∧ Hid (OwnIs wr w5.heap.size s ((lens ls).take k))) (fun _ i _ => ls.length - (intOf i).toNat)
  case atStart => exact ⟨0, Nat.zero_le _, rfl, hb5, Below.refl _ _, OwnIs.nil w5 w5.heap.size⟩
  case round =>
    obtain ⟨k, hk, rfl, hbel, hb5w, hown⟩ := hrel
    by_cases hlt : k < ls.length
    · obtain ⟨b, off, rfl, hbB, hc⟩ := H3.out (by omega)
      obtain ⟨u, hu, hbs⟩ := hc k hlt
      have hu' := (hbel.cell (p := ⟨b, off + k, none⟩) (by show b < _; omega)).trans hu
      obtain ⟨Au, cu, rfl⟩ := hbs.shape
      have hlen := HS.out _ (List.getElem_mem hlt)
      have hO := hown.out
      have hlk : ((lens ls).take k).length = k := by simp [lens]; omega
      obtain ⟨As, cs, es⟩ := hO.shape
      rw [hlk] at es
      subst es
      have hOr := hO.1
      rw [hlk] at hOr
      have hsz := hbel.size
      have hsz5 := hb5w.out.size
      have hwf : (Lit.int .i64 (ls[k].length : Int)).wf = true := WalkArith.wf_i64 (by omega)
      have hOw := hO.2
      have HOW := Lib.hid hOw
      have hOr2 := hOr.alloc (.cells #[.int .i64 (ls[k].length : Int)] 3)
      have HOR := Lib.hid hOr2
      clear hc hu hbs hO hlk hOr hOr2 hown hOw
      go_wp2_with (at_builtin; refine wpList_appG rfl (.tmp 25) (.tmp 28) rfl Try.underlying46 int_info rfl (by omega) rfl HOR.out rfl (Cs.one wr 3 (.int .i64 (ls[k].length : Int))) (by simp [Value.oneCell']) (by simp; omega) (by simp; omega) ?_)
      intro v' w' hown' hg _
      have hcat : (lens ls).take (k + 1) = (lens ls).take k ++ [(ls[k].length : Int)] := by
        rw [List.take_succ_eq_append_getElem (by simpa [lens] using hlt)]
        simp [lens]
      have hO2 : OwnIs w' w5.heap.size v' ((lens ls).take (k + 1)) := by
        refine ⟨?_, ?_⟩
        · rw [hcat, List.map_append, List.length_append]
          have e1 : ((lens ls).take k).length = k := by simp [lens]; omega
          rw [List.map_take, e1]
          exact hown'
        · rw [hcat]
          intro x hx
          rcases List.mem_append.1 hx with h | h
          · exact HOW.out x h
          · obtain rfl : x = (ls[k].length : Int) := by simpa using h
            exact hwf
      have hgb : Below w5.heap.size w5 w' := grown_below (hb5w.out.alloc (by omega) _) hg (by simp; omega) HOR.out
      have hb' : Below w.heap.size w w' := hb5.trans (hgb.mono (by have := hb5.size; omega))
      have HG := Lib.hid hgb
      have HO2 := Lib.hid hO2
      clear hown' hg hO2 hgb hcat
      go_wp2
      go_roundw
      case rel => exact ⟨k + 1, by omega, by go_num, hb', HG, HO2⟩
      case measure => simp [intOf]; omega
    · have hO := hown.out
      have hlk : (lens ls).take k = lens ls := List.take_of_length_le (by simp [lens]; omega)
      rw [hlk] at hO
      have hlen : (lens ls).length = ls.length := by simp [lens]
      obtain ⟨hE, hR⟩ := cut_lens ls
      rw [← HF.out] at hE hR
      have ho3w := HO3.out.bs.below hb5w.out (Nat.le_refl _)
      have hszw := hb5w.out.size
      have hszb := hbel.size
      have cc := cut_all (xs := lens ls) (l := F) hO.is (Nat.le_refl _) ho3w (by omega) (by omega) (by omega)
      rw [hE, hR] at cc
      have CC := Lib.hid cc
      clear cc hE hR hlen hlk hown
      go_wp2_with fail
      refine (CC.out).mono ?_
      rintro e w6 ⟨r6, rfl, ho6, hb6⟩
      have hb6' := hbel.trans (hb6.mono hszb)
      have hr6 := HR.out.below hb6' (Nat.le_refl _)
      go_wp2_with fail
      refine (equals_same ho6.rs hr6).mono ?_
      rintro e w7 ⟨rfl, hd7⟩
      go_wp2
      go_ret
      exact ⟨rfl, hb6'.trans (hd7.below _)⟩
end Go.Proofs.Ytpimklpkjinhiaa
