/- The law CodecXors, walked: any number of lists are turned by one another place by place, and with the answer among them all of them come to noughts. -/
import Derived.Test.YtpimklpkjinhiaaXor
namespace Go.Proofs.Ytpimklpkjinhiaa
open Go.RowKit

theorem xorAt_app (ls : List (List UInt8)) (x : List UInt8) (j : Nat) : ∀ k, k ≤ ls.length → xorAt (ls ++ [x]) j k = xorAt ls j k
  | 0, _ => rfl
  | k + 1, h => by
    have e : (ls ++ [x]).getD k [] = ls.getD k [] := by
      have hk : k < ls.length := by omega
      simp [hk, List.getElem?_append_left]
    rw [xorAt, xorAt, xorAt_app ls x j k (by omega), e]
theorem xorR_of {ms : List (List UInt8)} {n : Nat} (ho : xorOk ms) (h0 : (ms.getD 0 []).length = n) : xorR ms = (List.range n).map fun j => xorAt ms j ms.length := by
  unfold xorR
  rw [if_pos ho, h0]
theorem xor_self {ls : List (List UInt8)} (h : xorE ls = 0) : xorE (ls ++ [xorR ls]) = 0 ∧ xorR (ls ++ [xorR ls]) = List.replicate (xorR ls).length 0 := by
  have ho : xorOk ls := by
    unfold xorE at h
    by_cases ho : xorOk ls
    · exact ho
    · rw [if_neg ho] at h; exact absurd h (by decide)
  obtain ⟨n, hn⟩ : ∃ n, (ls.getD 0 []).length = n := ⟨_, rfl⟩
  have hR : xorR ls = (List.range n).map fun j => xorAt ls j ls.length := by unfold xorR; rw [if_pos ho, hn]
  have hlen : (xorR ls).length = n := by rw [hR]; simp
  have h0 : ((ls ++ [xorR ls]).getD 0 []).length = n := by
    rcases ls with _ | ⟨l, r⟩
    · simpa using hlen
    · simpa using hn
  have ho2 : xorOk (ls ++ [xorR ls]) := by
    intro l hl
    rw [h0]
    rcases List.mem_append.1 hl with h1 | h1
    · rw [ho l h1, hn]
    · obtain rfl : l = xorR ls := by simpa using h1
      exact hlen
  refine ⟨if_pos ho2, ?_⟩
  have hx : xorR (ls ++ [xorR ls]) = (List.range n).map fun j => xorAt (ls ++ [xorR ls]) j (ls.length + 1) := by
    rw [xorR_of ho2 h0]
    simp
  rw [hx, hlen]
  apply List.ext_getElem (by simp)
  intro j h1 h2
  have hj : j < n := by simpa using h1
  have e1 : ((ls ++ [xorR ls]).getD ls.length []).getD j 0 = xorAt ls j ls.length := by
    have e2 : (ls ++ [xorR ls]).getD ls.length [] = xorR ls := by simp
    rw [e2, hR]
    simp [hj]
  have e3 : xorAt (ls ++ [xorR ls]) j (ls.length + 1) = 0 := by
    rw [xorAt, xorAt_app ls (xorR ls) j ls.length (Nat.le_refl _), e1]
    simp
  simpa using e3
theorem xorE_12 : xorE [[1, 2], [3, 2]] = 0 := by decide
theorem xorR_12 : xorR [[1, 2], [3, 2]] = [2, 0] := by decide

set_option maxHeartbeats 800000 in
theorem xors_walk {ls : List (List UInt8)} {v : Value} {w : World} (hr : Rs w w.heap.size v ls) (hl : ls.length ≤ 5864062014634) (hs : ∀ l ∈ ls, l.length ≤ 140737488351232) :
    Calls Try.prog 7 #[v] w fun e w' => e = .returned (.bool true) ∧ Below w.heap.size w w' := by
  obtain ⟨E, hE⟩ : ∃ E, xorE ls = E := ⟨_, rfl⟩
  obtain ⟨R, hR⟩ : ∃ R, xorR ls = R := ⟨_, rfl⟩
  have hself : E = 0 → xorE (ls ++ [R]) = 0 ∧ xorR (ls ++ [R]) = List.replicate R.length 0 := fun h => by
    have h1 := xor_self (ls := ls) (by rw [hE]; exact h)
    rw [hR] at h1
    exact h1
  have hRl : R.length ≤ 140737488351232 := by
    rw [← hR]
    unfold xorR
    split
    · rcases ls with _ | ⟨l, r⟩
      · simp
      · have := hs l (by simp)
        simpa using this
    · simp
  have HE := Lib.hid hE; have HR := Lib.hid hR; have HF := Lib.hid hself; have HS := Lib.hid hs
  have HX := Lib.hid hr
  obtain ⟨Ax, cx, hvx, _⟩ := hr
  subst hvx
  clear hE hR hself hs
  have q1 : Bs ((w.alloc (.cells #[.int .u8 1, .int .u8 2] 5)).alloc (.cells #[.int .u8 3, .int .u8 2] 5)) (w.heap.size + 1) (.slice (some ⟨w.heap.size, 0, none⟩) 2 2) [1, 2] := (Bs.lit w [1, 2] (by unfold maxLen; simp)).alloc (by simp) _
  have q2 : Bs ((w.alloc (.cells #[.int .u8 1, .int .u8 2] 5)).alloc (.cells #[.int .u8 3, .int .u8 2] 5)) (w.heap.size + 1 + 1) (.slice (some ⟨w.heap.size + 1, 0, none⟩) 2 2) [3, 2] := by
    have h := Bs.lit (w.alloc (.cells #[.int .u8 1, .int .u8 2] 5)) [3, 2] (by unfold maxLen; simp)
    simpa [vb] using h
  have q3 : Rs (((w.alloc (.cells #[.int .u8 1, .int .u8 2] 5)).alloc (.cells #[.int .u8 3, .int .u8 2] 5)).alloc (.cells #[.slice (some ⟨w.heap.size, 0, none⟩) 2 2, .slice (some ⟨w.heap.size + 1, 0, none⟩) 2 2] 24)) (w.heap.size + 1 + 1 + 1) (.slice (some ⟨w.heap.size + 1 + 1, 0, none⟩) 2 2) [[1, 2], [3, 2]] := by
    have h := Rs.lit ((w.alloc (.cells #[.int .u8 1, .int .u8 2] 5)).alloc (.cells #[.int .u8 3, .int .u8 2] 5)) [.slice (some ⟨w.heap.size, 0, none⟩) 2 2, .slice (some ⟨w.heap.size + 1, 0, none⟩) 2 2] [[1, 2], [3, 2]] rfl (by unfold maxLen; simp) (fun j h h' => by
      match j, h, h' with
      | 0, _, _ => exact q1.more (by simp)
      | 1, _, _ => exact q2.more (by simp))
    simpa using h
  have hb0 : Below w.heap.size w (((w.alloc (.cells #[.int .u8 1, .int .u8 2] 5)).alloc (.cells #[.int .u8 3, .int .u8 2] 5)).alloc (.cells #[.slice (some ⟨w.heap.size, 0, none⟩) 2 2, .slice (some ⟨w.heap.size + 1, 0, none⟩) 2 2] 24)) := (((Below.refl _ _).alloc (Nat.le_refl _) _).alloc (by simp) _).alloc (by simp; omega) _
  have c0 := xor_all q3 (by simp) (by simp)
  rw [xorE_12, xorR_12] at c0
  have C0 := Lib.hid c0
  clear q1 q2 q3 c0
  go_enter Try.func7, Try.ntmps7
  go_wp2_with fail
  refine (C0.out).mono ?_
  rintro e w1 ⟨u1, rfl, ho1, hbb1⟩
  have hb1 : Below w.heap.size w w1 := hb0.trans (hbb1.mono hb0.size)
  have hz1 := hb1.size
  have p1 : Bs (w1.alloc (.cells #[.int .u8 2, .int .u8 0] 5)) (w1.heap.size + 1) (.slice (some ⟨w1.heap.size, 0, none⟩) 2 2) [2, 0] := Bs.lit w1 [2, 0] (by unfold maxLen; simp)
  have c1 := equal_same (ho1.bs.alloc (Nat.le_refl _) (.cells #[.int .u8 2, .int .u8 0] 5)) p1
  have C1 := Lib.hid c1
  have hb1' : Below w.heap.size w (w1.alloc (.cells #[.int .u8 2, .int .u8 0] 5)) := hb1.alloc hz1 _
  clear c1 p1 ho1 hbb1 hb0
  go_wp2_with fail
  refine (C1.out).mono ?_
  rintro e w2 ⟨rfl, hd2⟩
  have hb2 := hb1'.trans (hd2.below _)
  have hz2 := hb2.size
  clear hb1 hb1' hd2 hz1
  go_wp2_with fail
  refine (copies_any (HX.out.below hb2 (Nat.le_refl _)) hz2 (by omega) (fun l hl => by have := HS.out l hl; omega)).mono ?_
  rintro e w3 ⟨u3, rfl, ho3, hbb3⟩
  have hb3 := hb2.trans (hbb3.mono hz2)
  have hz3 := hb3.size
  have c3 := xor_all ho3.rs (Nat.le_refl _) (fun l hl => by have := HS.out l hl; omega)
  rw [HE.out, HR.out] at c3
  have C3 := Lib.hid c3
  clear c3 ho3 hbb3 hb2
  go_wp2_with fail
  refine (C3.out).mono ?_
  rintro e w4 ⟨u4, rfl, ho4, hbb4⟩
  have hb4 := hb3.trans (hbb4.mono hz3)
  have hz4 := hb4.size
  have c4 := refxor_all (HX.out.below hb4 (Nat.le_refl _)) hz4 (fun l hl => by have := HS.out l hl; omega)
  rw [HE.out, HR.out] at c4
  have C4 := Lib.hid c4
  clear c4 hbb4
  go_wp2_with fail
  refine (C4.out).mono ?_
  rintro e w5 ⟨u5, rfl, ho5, hbb5⟩
  have hb5 := hb4.trans (hbb5.mono hz4)
  have hz5 := hb5.size
  have ho45 := ho4.below hbb5 (Nat.le_refl _)
  have c5 := told_any (x := E) (y := E) ho45.bs ho5.bs
  rw [show (decide (R = R) && E == E) = true by simp] at c5
  have C5 := Lib.hid c5
  clear c5 hbb5 ho5 hb4
  go_wp2_with fail
  refine (C5.out).mono ?_
  rintro e w6 ⟨rfl, hd6⟩
  have hb6 := hb5.trans (hd6.below _)
  have hz6 := hb6.size
  have ho6 := (hd6.own ho45).more hz3
  obtain ⟨A6, c6, rfl⟩ := ho6.shape
  clear ho4 ho45 hd6 hb5 hb3
  by_cases hE0 : E = 0
  · subst hE0
    obtain ⟨hz, hzr⟩ := HF.out rfl
    have HZ := Lib.hid hz; have HZR := Lib.hid hzr; clear hz hzr
    have k7 := copies_any (HX.out.below hb6 (Nat.le_refl _)) hz6 (by omega) (fun l hl => by have := HS.out l hl; omega)
    have K7 := Lib.hid k7
    clear k7
    have HO6 := Lib.hid ho6; clear ho6
    go_wp2_with fail
    refine (K7.out).mono ?_
    rintro e w7 ⟨u7, rfl, ho7, hbb7⟩
    have hb7 := hb6.trans (hbb7.mono hz6)
    have hz7 := hb7.size
    have ho7' := (ho7.more hz6).alloc (.cells #[.slice A6 R.length c6] 24)
    have hx7 := (HO6.out.below hbb7 (Nat.le_refl _)).alloc (.cells #[.slice A6 R.length c6] 24)
    have H7 := Lib.hid ho7'; have HX7 := Lib.hid hx7
    clear ho7' hx7 ho7
    go_wp2_with (at_builtin; refine wpList_appR rfl (.tmp 44) (.tmp 46) rfl rfl H7.out ⟨w7.heap.size, 0, none⟩ rfl (cell_new _ _ _) HX7.out (by omega) (by simp; omega) ?_)
    intro v8 w8 hown8 hbb8
    have hb8 : Below w.heap.size w w8 := (hb7.alloc hz7 _).trans hbb8
    have hz8 := hb8.size
    have k8 := xor_all (hown8.rs) (Nat.le_refl _) (fun l hl => by
      rcases List.mem_append.1 hl with h | h
      · have := HS.out l h; omega
      · obtain rfl : l = R := by simpa using h
        omega)
    rw [HZ.out, HZR.out] at k8
    have K8 := Lib.hid k8
    clear k8 hown8 hbb8 H7 HX7 hbb7 hb7
    go_wp2_with fail
    refine (K8.out).mono ?_
    rintro e w9 ⟨u9, rfl, ho9, hbb9⟩
    have hb9 := hb8.trans (hbb9.mono hz8)
    have hz9 := hb9.size
    have hmk := run_make_row' (P := Try.prog) 24 5 (.int .u8 0) 1 Try.underlying24 u8info rfl .i64 .i64 R.length (by omega) (by omega)
    have hrow := World.rowIs_made w9 (.int .u8 0) R.length 5
    have hz0 : Own (w9.alloc (.cells (madeCells #[Value.int .u8 0] R.length) 5)) w9.heap.size (.slice (some ⟨w9.heap.size, 0, none⟩) R.length R.length) (List.replicate R.length 0) :=
      Own.of_row (hrow.congr fun j hj => by simp [hj, vb]) (Nat.le_refl _) (by unfold maxLen; omega) (by simp)
    have c9 := equal_same (ho9.bs.alloc (Nat.le_refl _) (.cells (madeCells #[Value.int .u8 0] R.length) 5)) hz0.bs
    have C9 := Lib.hid c9
    have hb9' : Below w.heap.size w (w9.alloc (.cells (madeCells #[Value.int .u8 0] R.length) 5)) := hb9.alloc hz9 _
    clear c9 hz0 hrow ho9 hbb9 hb8
    go_wp2_with fail
    refine (C9.out).mono ?_
    rintro e w10 ⟨rfl, hd10⟩
    go_wp2
    go_ret
    exact ⟨rfl, hb9'.trans (hd10.below _)⟩
  · have hne : (E != 0) = true := by rw [bne_iff_ne]; exact hE0
    clear hE0 ho6
    go_wp2
    go_ret
    exact ⟨rfl, hb6⟩
end Go.Proofs.Ytpimklpkjinhiaa
