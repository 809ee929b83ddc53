/- The law CodecCuts, walked: bytes are cut into just the pieces that are asked for, which joined are the bytes again, or the call says why it can't. -/
import Derived.Test.YtpimklpkjinhiaaJoins
namespace Go.Proofs.Ytpimklpkjinhiaa
open Go.RowKit

theorem Is.lit (w : World) (xs : List Int) (hl : xs.length ≤ maxLen) (hw : ∀ x ∈ xs, (Lit.int .i64 x).wf = true) : Is (w.alloc (.cells (xs.map (Value.int .i64)).toArray 3)) (w.heap.size + 1) (.slice (some ⟨w.heap.size, 0, none⟩) xs.length xs.length) xs :=
  ⟨_, _, rfl, Nat.le_refl _, hl, fun _ => ⟨_, 0, rfl, by omega, fun j hj => ⟨by
    rw [Nat.zero_add, cell_of_row _ _ j _ 3 (0, 0) (heap_alloc_new w _)]
    simp [hj], hw _ (List.getElem_mem hj)⟩⟩⟩

theorem cutE_123 : cutE [1, 2, 3] [1, 0, 2] = 0 := by decide
theorem cutR_123 : cutR [1, 2, 3] [1, 0, 2] = [[1], [], [2, 3]] := by decide

set_option maxHeartbeats 800000 in
theorem cuts_walk {l : List UInt8} {xs : List Int} {va vb : Value} {w : World} (ha : Bs w w.heap.size va l) (hx : Is w w.heap.size vb xs) (hl : l.length ≤ 1048576) (hn : xs.length ≤ 1048576) :
    Calls Try.prog 6 #[va, vb] w fun e w' => e = .returned (.bool true) ∧ Below w.heap.size w w' := by
  obtain ⟨E, hE⟩ : ∃ E, cutE l xs = E := ⟨_, rfl⟩
  obtain ⟨R, hR⟩ : ∃ R, cutR l xs = R := ⟨_, rfl⟩
  have hflat : E = 0 → R.flatten = l := fun h => by rw [← hR]; exact cutR_flatten (by rw [hE]; exact h)
  have HE := Lib.hid hE; have HR := Lib.hid hR; have HF := Lib.hid hflat
  have HA := Lib.hid ha; have HX := Lib.hid hx
  obtain ⟨Aa, ca, rfl⟩ := ha.shape
  obtain ⟨Ax, cx, hvx, _⟩ := hx
  subst hvx
  clear ha hE hR hflat
  have W1 : Bs ((w.alloc (.cells #[.int .u8 1, .int .u8 2, .int .u8 3] 5)).alloc (.cells #[.int .i64 1, .int .i64 0, .int .i64 2] 3)) (w.heap.size + 1) (.slice (some ⟨w.heap.size, 0, none⟩) 3 3) [1, 2, 3] := (Bs.lit w [1, 2, 3] (by unfold maxLen; simp)).alloc (by simp) _
  have W2 : Is ((w.alloc (.cells #[.int .u8 1, .int .u8 2, .int .u8 3] 5)).alloc (.cells #[.int .i64 1, .int .i64 0, .int .i64 2] 3)) (w.heap.size + 1 + 1) (.slice (some ⟨w.heap.size + 1, 0, none⟩) 3 3) [1, 0, 2] := by
    have h := Is.lit (w.alloc (.cells #[.int .u8 1, .int .u8 2, .int .u8 3] 5)) [1, 0, 2] (by unfold maxLen; simp) (by intro x hx; simp at hx; rcases hx with rfl | rfl | rfl <;> decide)
    simpa using h
  have c0 := cut_all W2 (by simp) W1 (by simp) (by simp) (by simp)
  rw [cutE_123, cutR_123] at c0
  have C0 := Lib.hid c0
  have hb0 : Below w.heap.size w ((w.alloc (.cells #[.int .u8 1, .int .u8 2, .int .u8 3] 5)).alloc (.cells #[.int .i64 1, .int .i64 0, .int .i64 2] 3)) := ((Below.refl _ _).alloc (Nat.le_refl _) _).alloc (by simp) _
  clear c0 W1 W2
  go_enter Try.func6, Try.ntmps6
  go_wp2_with fail
  refine (C0.out).mono ?_
  rintro e w1 ⟨r1, rfl, ho1, hbb1⟩
  have hb1 : Below w.heap.size w w1 := hb0.trans (hbb1.mono hb0.size)
  have hz1 := hb1.size
  clear hb0 hbb1
  have p1 : Bs (w1.alloc (.cells #[.int .u8 1] 5)) (w1.heap.size + 1) (.slice (some ⟨w1.heap.size, 0, none⟩) 1 1) [1] := Bs.lit w1 [1] (by unfold maxLen; simp)
  have p2 : Bs ((w1.alloc (.cells #[.int .u8 1] 5)).alloc (.cells #[] 5)) (w1.heap.size + 1 + 1) (.slice (some ⟨w1.heap.size + 1, 0, none⟩) 0 0) [] := by
    have h := Bs.lit (w1.alloc (.cells #[.int .u8 1] 5)) [] (by unfold maxLen; simp)
    simpa [vb] using h
  have p3 : Bs (((w1.alloc (.cells #[.int .u8 1] 5)).alloc (.cells #[] 5)).alloc (.cells #[.int .u8 2, .int .u8 3] 5)) (w1.heap.size + 1 + 1 + 1) (.slice (some ⟨w1.heap.size + 1 + 1, 0, none⟩) 2 2) [2, 3] := by
    have h := Bs.lit ((w1.alloc (.cells #[.int .u8 1] 5)).alloc (.cells #[] 5)) [2, 3] (by unfold maxLen; simp)
    simpa [vb] using h
  have p4 : Rs ((((w1.alloc (.cells #[.int .u8 1] 5)).alloc (.cells #[] 5)).alloc (.cells #[.int .u8 2, .int .u8 3] 5)).alloc (.cells #[.slice (some ⟨w1.heap.size, 0, none⟩) 1 1, .slice (some ⟨w1.heap.size + 1, 0, none⟩) 0 0, .slice (some ⟨w1.heap.size + 1 + 1, 0, none⟩) 2 2] 24)) (w1.heap.size + 1 + 1 + 1 + 1) (.slice (some ⟨w1.heap.size + 1 + 1 + 1, 0, none⟩) 3 3) [[1], [], [2, 3]] := by
    have h := Rs.lit (((w1.alloc (.cells #[.int .u8 1] 5)).alloc (.cells #[] 5)).alloc (.cells #[.int .u8 2, .int .u8 3] 5)) [.slice (some ⟨w1.heap.size, 0, none⟩) 1 1, .slice (some ⟨w1.heap.size + 1, 0, none⟩) 0 0, .slice (some ⟨w1.heap.size + 1 + 1, 0, none⟩) 2 2] [[1], [], [2, 3]] rfl (by unfold maxLen; simp) (fun j h h' => by
      match j, h, h' with
      | 0, _, _ => exact ((p1.alloc (by simp) _).alloc (by simp) _).more (by simp)
      | 1, _, _ => exact (p2.alloc (by simp) _).more (by simp)
      | 2, _, _ => exact p3.more (by simp))
    simpa using h
  have hb2 : Below w.heap.size w ((((w1.alloc (.cells #[.int .u8 1] 5)).alloc (.cells #[] 5)).alloc (.cells #[.int .u8 2, .int .u8 3] 5)).alloc (.cells #[.slice (some ⟨w1.heap.size, 0, none⟩) 1 1, .slice (some ⟨w1.heap.size + 1, 0, none⟩) 0 0, .slice (some ⟨w1.heap.size + 1 + 1, 0, none⟩) 2 2] 24)) :=
    (((hb1.alloc hz1 _).alloc (by simp; omega) _).alloc (by simp; omega) _).alloc (by simp; omega) _
  have c2 := equals_same ((((ho1.rs.alloc (Nat.le_refl _) (.cells #[.int .u8 1] 5)).alloc (by simp) (.cells #[] 5)).alloc (by simp; omega) (.cells #[.int .u8 2, .int .u8 3] 5)).alloc (by simp; omega) (.cells #[.slice (some ⟨w1.heap.size, 0, none⟩) 1 1, .slice (some ⟨w1.heap.size + 1, 0, none⟩) 0 0, .slice (some ⟨w1.heap.size + 1 + 1, 0, none⟩) 2 2] 24)) p4
  have C2 := Lib.hid c2
  clear c2 p1 p2 p3 p4 ho1 hb1
  go_wp2_with fail
  refine (C2.out).mono ?_
  rintro e w3 ⟨rfl, hd3⟩
  have hb3 := hb2.trans (hd3.below _)
  have hz3 := hb3.size
  clear hb2 hd3 hz1
  go_wp2_with fail
  refine (awake_any w3).mono ?_
  rintro e w4 ⟨rfl, hbb4⟩
  have hb4 := hb3.trans (hbb4.mono hz3)
  have hz4 := hb4.size
  clear hb3 hbb4
  go_wp2_with fail
  refine (copy_any (HA.out.below hb4 (Nat.le_refl _)) hz4 (by omega)).mono ?_
  rintro e w5 ⟨u5, rfl, ho5, hbb5⟩
  have hb5 := hb4.trans (hbb5.mono hz4)
  have hz5 := hb5.size
  have hem := OwnIs.empty w5 w5.heap.size (Nat.le_refl _)
  have hxw : Cs (w5.alloc (.cells #[] 3)) w.heap.size (.slice Ax xs.length cx) (xs.map (Value.int .i64)) := (HX.out.below (hb5.alloc hz5 _) (Nat.le_refl _)).cs
  have HM := Lib.hid hem.1; have HXW := Lib.hid hxw
  clear hem hxw hb4
  go_wp2_with (at_builtin; refine wpList_appG rfl (.tmp 33) (.tmp 34) rfl Try.underlying46 int_info rfl (by omega) rfl HM.out rfl HXW.out (ints_one _) (by simp; omega) (by simp) ?_)
  intro v' w6 hown6 hg6 _
  have hgb : Below w5.heap.size w5 w6 := grown_below ((Below.refl _ _).alloc (Nat.le_refl _) _) hg6 (by simp) HM.out
  have hb6 := hb5.trans (hgb.mono hz5)
  have hz6 := hb6.size
  have ho6 : OwnIs w6 w5.heap.size v' xs := ⟨by simpa using hown6, fun x hx' => by
    obtain ⟨A', c', _, _, _, h3⟩ := HX.out
    obtain ⟨j, hj, rfl⟩ := List.getElem_of_mem hx'
    obtain ⟨b, off, _, _, hc⟩ := h3 (by omega)
    exact (hc j hj).2⟩
  have ho56 := (ho5.below hgb (Nat.le_refl _))
  have k6 := cut_all ho6.is (Nat.le_refl _) ho56.bs (Nat.le_refl _) (by omega) (by omega)
  rw [HE.out, HR.out] at k6
  have K6 := Lib.hid k6
  clear k6 ho56 ho6 hown6 hg6 hgb hbb5 ho5 hb5
  go_wp2_with fail
  refine (K6.out).mono ?_
  rintro e w7 ⟨r7, rfl, ho7, hbb7⟩
  have hb7 := hb6.trans (hbb7.mono hz6)
  have hz7 := hb7.size
  have k7 := refcut_all (HX.out.below hb7 (Nat.le_refl _)) hz7 (HA.out.below hb7 (Nat.le_refl _)) hz7 (by omega) (by omega)
  rw [HE.out, HR.out] at k7
  have K7 := Lib.hid k7
  clear k7 hbb7 hb6
  go_wp2_with fail
  refine (K7.out).mono ?_
  rintro e w8 ⟨r8, rfl, ho8, hbb8⟩
  have hb8 := hb7.trans (hbb8.mono hz7)
  have hz8 := hb8.size
  have ho78 := ho7.below hbb8 (Nat.le_refl _)
  have hne : (E != E) = false := by simp
  go_wp2_with fail
  refine (equals_same ho78.rs ho8.rs).mono ?_
  rintro e w9 ⟨rfl, hd9⟩
  have hb9 := hb8.trans (hd9.below _)
  have hr9 := hd9.rs ho78.rs
  have hz9 : w8.heap.size ≤ w9.heap.size := (hd9.below (B := 0)).size
  clear ho7 ho8 ho78 hbb8 hb7 hb8 hne
  by_cases hE0 : E = 0
  · subst hE0
    have hfl := HF.out rfl
    have j9 := join_any hr9 (by omega) (by rw [hfl]; omega)
    rw [hfl] at j9
    have J9 := Lib.hid j9
    clear j9 hfl
    go_wp2_with fail
    refine (J9.out).mono ?_
    rintro e w10 ⟨u10, rfl, ho10, hbb10⟩
    have hb10 := hb9.trans (hbb10.mono (by omega))
    go_wp2_with fail
    refine (equal_same ho10.bs (HA.out.below hb10 (Nat.le_refl _))).mono ?_
    rintro e w11 ⟨rfl, hd11⟩
    go_wp2
    go_ret
    exact ⟨rfl, hb10.trans (hd11.below _)⟩
  · have hne : (E != 0) = true := by rw [bne_iff_ne]; exact hE0
    clear hE0
    go_wp2
    go_ret
    exact ⟨rfl, hb9⟩
end Go.Proofs.Ytpimklpkjinhiaa
