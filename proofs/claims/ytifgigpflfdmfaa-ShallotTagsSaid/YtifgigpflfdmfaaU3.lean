/- ShallotTags, walked. -/
import Derived.Test.YtifgigpflfdmfaaU2
import Derived.Deep.Cut
namespace Go.Proofs.Ytifgigpflfdmfaa
open Go.RowKit

set_option maxRecDepth 100000 in
set_option maxHeartbeats 4000000 in
theorem tags_walk {secret msg : List UInt8} {v u : Value} {w : World} {z : Int} (hs : Bs w w.heap.size v secret) (hm : Bs w w.heap.size u msg) (hsl : secret.length ≤ 140737488351232) (hml : msg.length ≤ 140737488351232) (hz : -9223372036854775808 ≤ z ∧ z ≤ 9223372036854775807) :
    Calls Try.prog 3 #[v, u, .int .i64 z] w fun e w' => e = .returned (.bool true) ∧ Below w.heap.size w w' := by
  obtain ⟨hz1, hz2⟩ := hz
  obtain ⟨ka, hka⟩ : ∃ ka, ka = deriveL secret sA := ⟨_, rfl⟩
  obtain ⟨kb, hkb⟩ : ∃ kb, kb = deriveL secret sB := ⟨_, rfl⟩
  have hkal : ka.length = 32 := by rw [hka]; exact deriveL_len _ _
  have hkbl : kb.length = 32 := by rw [hkb]; exact deriveL_len _ _
  obtain ⟨AS, cS, rfl⟩ := hs.shape
  obtain ⟨AM, cM, rfl⟩ := hm.shape
  have hal : Below w.heap.size w (w.alloc (.cells #[.string ⟨#[97]⟩, .string ⟨#[98]⟩] 9)) := (Below.refl _ _).alloc (Nat.le_refl _) _
  have C1 : Hid (Calls Try.prog 8 #[.slice AS secret.length cS, .slice (some ⟨w.heap.size, 0, none⟩) 2 2] (w.alloc (.cells #[.string ⟨#[97]⟩, .string ⟨#[98]⟩] 9)) fun e w' => ∃ g, e = .returned (.slice (some ⟨g, 0, none⟩) 2 2) ∧ w.heap.size < g ∧ Ky w' g ka kb ∧ Below w.heap.size w w') := Lib.hid (by
    have h := derive_any (ss := [sA, sB]) (B := w.heap.size + 1) ((hs.below hal (Nat.le_refl _)).more (by omega)) (cs_two w) (by simp) hsl (by simp) (by intro s hs; simp only [List.mem_cons, List.not_mem_nil, or_false] at hs; rcases hs with rfl | rfl <;> decide)
    refine h.mono ?_
    rintro e w' ⟨g, h1, h2, h3, h4, h5⟩
    have hg1 : w.heap.size < g := by
      have h2' : (w.alloc (.cells #[.string sA, .string sB] 9)).heap.size ≤ g := h2
      rw [World.size_alloc] at h2'
      omega
    refine ⟨g, h1, hg1, ⟨hkal, hkbl, ?_⟩, alloc_below h5⟩
    rw [hka, hkb, ← rowK_two]
    exact h4)
  have HM := Lib.hid hm
  clear hs hm hal hka hkb
  go_enter Try.func3, Try.ntmps3
  go_wp2_with fail
  with_reducible refine (C1.out).mono ?_
  rintro e1 w1 ⟨g0, rfl, hg0, hky1, hb1⟩
  have HKY1 := Lib.hid hky1
  have C2 : Hid (Calls Try.prog 9 #[.slice none 0 0, .slice (some ⟨w1.heap.size, 0, none⟩) 1 1, .slice none 0 0] (w1.alloc (.cells #[.int .u8 1] 5)) fun e w' => e = .returned (.bool false) ∧ Below w1.heap.size w1 w') := Lib.hid (by
    have h := check_any (key := []) (tag := [1]) (ls := []) (B := w1.heap.size + 1) (v := .slice none 0 0) (u := .slice none 0 0) (Bs.nil _ _) (Bs.one w1 1) (Rs.nil _ _) (by simp) (by simp) (by simp)
    rw [shortL_ne1] at h
    exact h.mono fun e w' h => ⟨h.1, alloc_below h.2⟩)
  have HB1 := Lib.hid hb1
  clear hky1 hb1 C1
  go_wp2_with fail
  with_reducible refine (C2.out).mono ?_
  rintro e2 w2 ⟨rfl, hb2⟩
  have HB2 := Lib.hid (HB1.out.trans (hb2.mono HB1.out.size))
  have HKY2 := Lib.hid (HKY1.out.below hb2 HKY1.out.lt)
  have hM2 := HM.out.up HB2.out
  obtain ⟨M, hMM⟩ : ∃ M, M = msg.take 2000 := ⟨_, rfl⟩
  have hMl : M.length ≤ 2000 := by rw [hMM, List.length_take]; omega
  obtain ⟨n, hnn⟩ : ∃ n, n = msg.length := ⟨_, rfl⟩
  rw [← hnn] at hml ⊢
  have HMM := Lib.hid hMM; have HM2 := Lib.hid hM2; have HNN := Lib.hid hnn
  clear hb2 hM2 hMM hnn C2 HKY1 HB1
  go_upto_if 33 with fail
  go_cut [1] (fun s wr => Cut2 M w2 s wr)
  case first =>
    by_cases hlong : 2000 < n
    · have hI : (2000 : Int) < (n : Int) := by omega
      have h2 := HM2.out
      rw [← HNN.out] at h2
      have hnc : n ≤ cM := by obtain ⟨A', c', hv, h1, _⟩ := HM2.out; simp only [Value.slice.injEq] at hv; have := HNN.out; omega
      obtain ⟨D, hD, hrun⟩ := h2.head (k := 2000) (by omega)
      rw [← HMM.out] at hD
      have hM2 : M.length = 2000 := by
        have h3 : msg.length = n := HNN.out.symm
        rw [HMM.out, List.length_take, h3]; omega
      have HD := Lib.hid hD; have HML := Lib.hid hM2
      have hrun' : ∀ W, (Instr.slice 22 (.slice AM n cM) none (some (.int .i64 2000)) none).run Try.prog W = .ok (.slice D 2000 cM) W := hrun
      clear hD hrun h2 hnc hM2
      go_wp2_with fail
      go_meet
      with_reducible exact cut2_of HML.out HD.out
    · have hI : ¬ (2000 : Int) < (n : Int) := by omega
      have hM' : M = msg := by rw [HMM.out, List.take_of_length_le (by have := HNN.out; omega)]
      have hB' : Bs w2 w2.heap.size (.slice AM M.length cM) M := by rw [hM']; exact HM2.out
      have HBM := Lib.hid hB'
      have HML : Hid (M.length = n) := Lib.hid (by rw [hM', HNN.out])
      clear hM' hB'
      go_wp2_with fail
      go_meet
      exact ⟨rfl, AM, cM, by rw [HML.out], by rw [← HML.out]; exact HBM.out⟩
  case rest =>
    obtain ⟨hwr, A1, c1, rfl, hM⟩ := hcut
    subst hwr
    clear hml HM HNN HMM HM2
    obtain ⟨m, hm⟩ : ∃ m, m = M.length := ⟨_, rfl⟩
    rw [← hm] at hM hMl ⊢
    obtain ⟨S, hS⟩ : ∃ S, S = trnL ka 0 M := ⟨_, rfl⟩
    have hSl : S.length = m := by rw [hS, trnL_len, hm]
    have hcA : ∀ W, (Instr.sliceAt 29 (.pointer (some ⟨g0, 0, none⟩)) none none none).run Try.prog W = .ok (.slice (some ⟨g0, 0, none⟩) 32 32) W := fun W => cut32_at W
    have hcB : ∀ W, (Instr.sliceAt 29 (.pointer (some ⟨g0, 32, none⟩)) none none none).run Try.prog W = .ok (.slice (some ⟨g0, 32, none⟩) 32 32) W := fun W => cut32_at W
    have C3 := turn_ok (HKY2.out.a.al (.cells #[.slice A1 m c1] 22)) (rs1 hM) (by simp) hkal (by simp; omega)
    rw [show [M].flatten = M by simp, ← hS] at C3
    have C3 := Lib.hid C3; have HS := Lib.hid hS; have HMN := Lib.hid hm; have HM2 := Lib.hid hM; have HSL := Lib.hid hSl
    clear hS hm hM hSl
    go_wp2_with fail
    with_reducible refine (C3.out).mono ?_
    rintro e3 w3 ⟨u3, rfl, ho3, hb3⟩
    obtain ⟨A3, c3, rfl⟩ := ho3.shapeN (n := m) HSL.out
    have hb3' := alloc_below hb3
    have HKY3 := Lib.hid (HKY2.out.below hb3' HKY2.out.lt)
    have HB3 := Lib.hid (HB2.out.trans (hb3'.mono HB2.out.size))
    have HM3 := Lib.hid (HM2.out.up hb3')
    have hS3 := ho3.bs
    have C4 := short_any (HKY3.out.b.al (.cells #[.slice A3 m c3] 22)) (rs1 hS3) (by simp) (by rw [hkbl]; omega) (by simp [HSL.out]; omega)
    rw [show [S].flatten = S by simp] at C4
    have C4 := Lib.hid C4; have HS3 := Lib.hid hS3
    clear C3 ho3 hb3 hb3' hS3 HKY2 HB2 HM2
    go_wp2_with fail
    with_reducible refine (C4.out).mono ?_
    rintro e4 w4 ⟨u4, rfl, ho4, hb4⟩
    obtain ⟨T, hT⟩ : ∃ T, T = shortL kb S := ⟨_, rfl⟩
    have hTl : T.length = 16 := by rw [hT, shortL_len]
    rw [← hT] at ho4
    obtain ⟨A4, c4, rfl⟩ := ho4.shapeN (n := 16) hTl
    have hb4' := alloc_below hb4
    have HKY4 := Lib.hid (HKY3.out.below hb4' HKY3.out.lt)
    have HB4 := Lib.hid (HB3.out.trans (hb4'.mono HB3.out.size))
    have HM4 := Lib.hid (HM3.out.up hb4')
    have HS4 := Lib.hid (HS3.out.up hb4')
    have HT4 := Lib.hid ho4.bs
    have C5 := Lib.hid (newTagger_any HKY4.out.b (Nat.le_refl _) (by rw [hkbl]; omega))
    have HT := Lib.hid hT; have HTL := Lib.hid hTl
    clear C4 ho4 hb4 hb4' hT hTl HKY3 HB3 HM3 HS3
    go_wp2_with fail
    with_reducible refine (C5.out).mono ?_
    rintro e5 w5 ⟨g5, rfl, hg5, hh5, hb5⟩
    have HH5 : Hid (Hashed w5 g5 41 ((outerL kb).map vb) (innerL kb ++ S.take 0)) := Lib.hid (by simpa using hh5)
    have HB5 := Lib.hid hb5
    have HSZ5 : Hid (w4.heap.size ≤ w5.heap.size) := Lib.hid hb5.size
    clear C5 hh5 hb5
    go_wp2_with fail
    go_loopw [66] (fun i wr => ∃ k : Nat, k ≤ m ∧ i = .int .i64 k ∧ Hid (Hashed wr g5 41 ((outerL kb).map vb) (innerL kb ++ S.take k)) ∧ Hid (Below w4.heap.size w4 wr)) (fun i _ => m - (intOf i).toNat)
    case atStart => exact ⟨0, Nat.zero_le _, rfl, HH5, HB5⟩
    case round =>
      obtain ⟨k, hk, rfl, hhash, hbe⟩ := hrel
      clear HB5 HH5 HSZ5
      by_cases hlt : k < m
      · have hkS : k < S.length := by rw [HSL.out]; exact hlt
        have hbs := HS4.out.below hbe.out (Nat.le_refl _)
        obtain ⟨A', c', hv, -, -, h3⟩ := hbs
        simp only [Value.slice.injEq] at hv
        obtain ⟨rfl, -, -⟩ := hv
        obtain ⟨b, off, rfl, hbB, hc⟩ := h3 (by omega)
        have hcell := hc k hkS
        obtain ⟨y, hy⟩ : ∃ y, y = S[k] := ⟨_, rfl⟩
        rw [← hy] at hcell
        have hF1 : S.take (k + 1) = S.take k ++ [y] := by
          rw [List.take_add_one, List.getElem?_eq_getElem hkS, hy]
          rfl
        have hbo : Below wr.heap.size wr (wr.alloc (.cells #[.int .u8 (y.toNat : Int)] 5)) := (Below.refl _ _).alloc (Nat.le_refl _) _
        have hgl := hhash.out.lt
        have CW := write_one (P := [y]) (hhash.out.below hbo hgl) (Bs.one wr y) (by simp) (by intro _ h; simp only [Value.ownBlock, Option.some.injEq] at h; omega) (by
          have h1 := innerL_len kb
          rw [List.length_append, h1, List.length_take]; simp; omega)
        rw [List.append_assoc, ← hF1] at CW
        have HBO := Lib.hid hbo
        clear hc h3 hy hF1 hbo hgl
        rw [World.size_alloc] at CW
        have CW := Lib.hid CW
        go_wp2_with fail
        with_reducible refine (CW.out).mono ?_
        rintro e6 w6 ⟨rfl, hh6, hg6⟩
        have hb6 := (hbe.out.trans (HBO.out.mono hbe.out.size)).grown hg6 (Nat.le_trans hbe.out.size HBO.out.size) (fun j hj => by simp only [Option.some.injEq] at hj; omega)
        have HH6 := Lib.hid hh6; have HB6 := Lib.hid hb6
        clear hh6 hg6 hb6 CW HBO hhash hbe
        go_wp2
        go_roundw
        case rel => exact ⟨k + 1, by omega, by go_num, HH6, HB6⟩
        case measure => simp [intOf]; omega
      · have hkm : k = m := by omega
        have HH6 : Hid (Hashed wr g5 41 ((outerL kb).map vb) (innerL kb ++ S)) := Lib.hid (by
          have h := hhash.out
          rwa [hkm, List.take_of_length_le (by rw [HSL.out]; omega)] at h)
        have HKY6 := Lib.hid (HKY4.out.below hbe.out HKY4.out.lt)
        have HM6 := Lib.hid (HM4.out.up hbe.out); have HS6 := Lib.hid (HS4.out.up hbe.out); have HT6 := Lib.hid (HT4.out.up hbe.out)
        have HB6 := Lib.hid (HB4.out.trans (hbe.out.mono HB4.out.size))
        have c7 := check_any (HKY6.out.b.al (.cells #[.slice A3 m c3] 22)) (HT6.out.al _) (rs1 HS6.out) (by simp) (by rw [hkbl]; omega) (by simp [HSL.out]; omega)
        rw [show [S].flatten = S by simp, ← HT.out, decide_eq_true (rfl : T = T)] at c7
        have C7 := Lib.hid c7
        clear c7 hkm hhash hbe HKY4 HM4 HS4 HT4 HB4
        go_wp2_with fail
        with_reducible refine (C7.out).mono ?_
        rintro e7 w7 ⟨rfl, hb7⟩
        have hb7' := alloc_below hb7
        have HH7 := Lib.hid (HH6.out.below hb7' HH6.out.lt)
        have HKY7 := Lib.hid (HKY6.out.below hb7' HKY6.out.lt)
        have HM7 := Lib.hid (HM6.out.up hb7'); have HS7 := Lib.hid (HS6.out.up hb7'); have HT7 := Lib.hid (HT6.out.up hb7')
        have HB7 := Lib.hid (HB6.out.trans (hb7'.mono HB6.out.size))
        have c8 := fits_any HH7.out (outerL_len kb) (by rw [List.length_append, innerL_len, HSL.out]; omega) HT7.out (Nat.le_refl _)
        rw [show decide (T = (sumL (outerL kb ++ sumL (innerL kb ++ S))).take 16) = true from decide_eq_true HT.out] at c8
        have C8 := Lib.hid c8
        clear c8 C7 hb7 hb7' HH6 HKY6 HM6 HS6 HT6 HB6
        go_wp2_with fail
        with_reducible refine (C8.out).mono ?_
        rintro e8 w8 ⟨rfl, hb8⟩
        have HKY8 := Lib.hid (HKY7.out.below hb8 HKY7.out.lt)
        have HM8 := Lib.hid (HM7.out.up hb8); have HS8 := Lib.hid (HS7.out.up hb8); have HT8 := Lib.hid (HT7.out.up hb8)
        have HB8 := Lib.hid (HB7.out.trans (hb8.mono HB7.out.size))
        have C9 := Lib.hid (new_ok HKY8.out.a (Nat.le_refl _) hkal)
        clear C8 hb8 HH7 HKY7 HM7 HS7 HT7 HB7
        go_wp2_with fail
        with_reducible refine (C9.out).mono ?_
        rintro e9 w9 ⟨rfl, hf9, hb9⟩
        obtain ⟨g9, hg9⟩ : ∃ g, g = w8.heap.size := ⟨_, rfl⟩
        have hg9' : w8.heap.size ≤ g9 := by omega
        rw [← hg9] at hf9 ⊢
        clear hg9
        have HF9 := Lib.hid hf9; have HB9 := Lib.hid hb9
        obtain ⟨h, hh⟩ : ∃ h, h = m / 2 := ⟨_, rfl⟩
        have hhm : h ≤ m := by omega
        have hdiv : (m : Int).tdiv 2 = (h : Int) := by rw [hh]; rfl
        obtain ⟨D, hD, hrunD⟩ := (HS8.out.up hb9).head hhm
        have hthl : (S.take h).length = h := by rw [List.length_take, HSL.out]; omega
        have c10 := fturn_ok (hf9.below ((Below.refl w9.heap.size w9).alloc (Nat.le_refl _) (.cells #[.slice D h c3] 22)) hf9.lt) (rs1 hD) (by simp) (by simp [hthl]; omega)
        rw [show [S.take h].flatten = S.take h by simp] at c10
        have C10 := Lib.hid c10; have HTH := Lib.hid hthl
        clear c10 hthl hD hf9 hb9 hh C9
        go_wp2_with fail
        with_reducible refine (C10.out).mono ?_
        rintro e10 w10 ⟨u10, rfl, ho10, hf10, hg10⟩
        obtain ⟨A10, c10, rfl⟩ := ho10.shapeN (n := h) (by rw [trnL_len]; exact HTH.out)
        rw [HTH.out, Nat.zero_add] at hf10
        have hz9 := HB9.out.size
        have hg9l : g9 < w9.heap.size := HF9.out.lt
        have HB10 : Hid (Below w8.heap.size w8 w10) := Lib.hid ((HB9.out.alloc hz9 (.cells #[.slice D h c3] 22)).grown hg10 (by rw [World.size_alloc]; omega) (fun j hj => by simp only [Option.some.injEq] at hj; omega))
        have hz10 : w9.heap.size + 1 ≤ w10.heap.size := by have h1 := hg10.size; rw [World.size_alloc] at h1; exact h1
        rw [World.size_alloc] at ho10
        have HO10 := Lib.hid ho10; have HF10 := Lib.hid hf10
        obtain ⟨E, hE, hrunE⟩ := (HS8.out.up HB10.out).tail hhm
        have hdhl : (S.drop h).length = m - h := by rw [List.length_drop, HSL.out]
        have c11 := fturn_ok (hf10.below ((Below.refl w10.heap.size w10).alloc (Nat.le_refl _) (.cells #[.slice E (m - h) (c3 - h)] 22)) hf10.lt) (rs1 hE) (by simp) (by simp [HSL.out]; omega)
        rw [show [S.drop h].flatten = S.drop h by simp] at c11
        have C11 := Lib.hid c11; have HDH := Lib.hid hdhl
        clear c11 hE ho10 hf10 hg10 C10 hdhl HF9
        go_wp2_with fail
        with_reducible refine (C11.out).mono ?_
        rintro e11 w11 ⟨u11, rfl, ho11, hf11, hg11⟩
        obtain ⟨A11, c11, rfl⟩ := ho11.shapeN (n := m - h) (by rw [trnL_len]; exact HDH.out)
        have HB11 : Hid (Below w8.heap.size w8 w11) := Lib.hid ((HB10.out.alloc HB10.out.size (.cells #[.slice E (m - h) (c3 - h)] 22)).grown hg11 (by rw [World.size_alloc]; have := HB10.out.size; omega) (fun j hj => by simp only [Option.some.injEq] at hj; omega))
        have HO10 : Hid (Own w11 (w9.heap.size + 1) (.slice A10 h c10) (trnL ka 0 (S.take h))) := Lib.hid ((HO10.out.alloc _).kept hg11 (own_ne2 (HO10.out.alloc (.cells #[.slice E (m - h) (c3 - h)] 22)) (by omega)))
        have HO11 := Lib.hid ho11
        have HBW11 := Lib.hid (HB8.out.trans (HB11.out.mono HB8.out.size))
        have hk8 := HKY8.out.lt
        have HKY11 := Lib.hid (HKY8.out.below HB11.out hk8)
        have HM11 := Lib.hid (HM8.out.up HB11.out); have HS11 := Lib.hid (HS8.out.up HB11.out); have HT11 := Lib.hid (HT8.out.up HB11.out)
        obtain ⟨P, hP⟩ : ∃ P, P = trnL ka 0 (S.take h) := ⟨_, rfl⟩
        obtain ⟨Q, hQ⟩ : ∃ Q, Q = trnL ka h (S.drop h) := ⟨_, rfl⟩
        have hPQ : P ++ Q = M := by rw [hP, hQ, trnL_parts _ _ (by rw [HSL.out]; exact hhm), HS.out, trnL_twice]
        have hPl : P.length = h := by rw [hP, trnL_len]; exact HTH.out
        have hQl : Q.length = m - h := by rw [hQ, trnL_len]; exact HDH.out
        rw [← hP] at HO10
        rw [← hQ] at HO11
        have HE12 := Lib.hid (Own.empty w11 w11.heap.size (Nat.le_refl _))
        have HP12 := Lib.hid (HO10.out.bs.al (.cells #[] 5))
        have HPQ := Lib.hid hPQ; have HQ11 := Lib.hid HO11.out.bs
        clear hP hQ hf11 hg11 ho11 C11 HF10 HKY8 HM8 HS8 HT8 HB8 HB9 HB10 HO10 HO11 HTH HDH hrunD hrunE hdiv hPQ hk8 hg9l hg9'
        go_wp2_with (at_builtin; refine wpList_appGd rfl (.tmp 138) (.tmp 139) rfl rfl HE12.out rfl HP12.out (by simp [hPl]; omega) (by simp) ?_)
        intro v12 w12 ho12 hg12
        obtain ⟨A12, c12, rfl⟩ := ho12.shapeN (n := h) hPl
        have hb12 : Below w11.heap.size w11 w12 := grown_below ((Below.refl _ _).alloc (Nat.le_refl _) _) hg12 (by simp) HE12.out
        have HB12 := Lib.hid hb12; have HO12 := Lib.hid ho12
        have HQ12 := Lib.hid (HQ11.out.up hb12)
        clear hg12 hb12 ho12 HE12 HP12 HQ11
        go_wp2_with (at_builtin; refine wpList_appGd rfl (.tmp 140) (.tmp 141) rfl rfl HO12.out rfl HQ12.out (by omega) HB12.out.size ?_)
        intro v13 w13 ho13 hg13
        obtain ⟨A13, c13, rfl⟩ := ho13.shapeN (n := m) (by rw [List.length_append]; omega)
        have hb13 : Below w11.heap.size w11 w13 := HB12.out.grown hg13 HB12.out.size (own_ge HO12.out)
        have HKY13 := Lib.hid (HKY11.out.below hb13 HKY11.out.lt)
        have HM13 := Lib.hid (HM11.out.up hb13); have HS13 := Lib.hid (HS11.out.up hb13); have HT13 := Lib.hid (HT11.out.up hb13)
        have HB13 := Lib.hid (HBW11.out.trans (hb13.mono HBW11.out.size))
        have c14 := samebytes_any ho13.bs HM13.out
        rw [decide_eq_true HPQ.out] at c14
        have C14 := Lib.hid c14
        clear c14 ho13 hg13 hb13 HKY11 HM11 HS11 HT11 HBW11 HB12 HO12 HQ12 HPQ hPl hQl
        go_wp2_with fail
        with_reducible refine (C14.out).mono ?_
        rintro e14 w14 ⟨rfl, hw14⟩
        subst hw14
        clear C14
        by_cases hz0 : z < 0
        · go_wp2
          go_ret
          exact ⟨rfl, HB13.out⟩
        · by_cases hz8 : 8 * (m : Int) ≤ z
          · go_wp2
            go_ret
            exact ⟨rfl, HB13.out⟩
          · have HE15 := Lib.hid (Own.empty w13 w13.heap.size (Nat.le_refl _))
            have HS15 := Lib.hid (HS13.out.al (.cells #[] 5))
            go_wp2_with (at_builtin; refine wpList_app rfl (.tmp 156) (.tmp 157) rfl rfl HE15.out rfl HS15.out (by simp [HSL.out]; omega) (by simp) ?_)
            intro v15 w15 ho15 hg15 _
            obtain ⟨A15, c15, rfl⟩ := ho15.shapeN (n := m) HSL.out
            have hb15 : Below w13.heap.size w13 w15 := grown_below ((Below.refl _ _).alloc (Nat.le_refl _) _) hg15 (by simp) HE15.out
            obtain ⟨q, rfl⟩ : ∃ q : Nat, z = q := ⟨z.toNat, by omega⟩
            obtain ⟨j, hj⟩ : ∃ j, j = q / 8 := ⟨_, rfl⟩
            have hjm : j < m := by omega
            have hdv : (q : Int).tdiv 8 = (j : Int) := by rw [hj]; rfl
            have hdv2 : (q : Int) / 8 = (j : Int) := by omega
            have hjI : (j : Int) < (m : Int) := by omega
            have hjI0 : (0 : Int) ≤ (j : Int) := by omega
            obtain ⟨r, hr⟩ : ∃ r, r = q % 8 := ⟨_, rfl⟩
            have hmd2 : (q : Int) % 8 = (r : Int) := by omega
            have hr80 : (0 : Int) ≤ (r : Int) := by omega
            have hwj : IntKind.i64.wrap (j : Int) = (j : Int) := IntWalk.i64_in _ (by omega)
            have hwr : IntKind.i64.wrap (r : Int) = (r : Int) := IntWalk.i64_in _ (by omega)
            have hr8 : r < 8 := by omega
            have hmd : (q : Int).tmod 8 = (r : Int) := by rw [hr]; rfl
            obtain ⟨g15, rfl, hge, hgl, hcell, hfr, hset⟩ := ho15.at_ (j := j) (by rw [HSL.out]; exact hjm)
            have HB15 := Lib.hid hb15; have HSET := Lib.hid hset
            obtain ⟨y, hy⟩ : ∃ y, y = S[j]'(by rw [HSL.out]; exact hjm) := ⟨_, rfl⟩
            rw [← hy] at hcell
            obtain ⟨y2, hy2⟩ := flip_val y hr8
            have hq2 : (q : Int) ≤ 9223372036854775807 := hz2
            have hq8 : (q : Int) < 8 * (m : Int) := by omega
            clear hset hb15 ho15 hg15 hy hj hr HE15 HS15 hz1 hz2 hz0 hz8
            go_wp2_with fail
            go_still_tail 10, (by kernel_rfl)
            show wpList _ _ _ _ _ w15.drew
            have HO16 := Lib.hid (HSET.out y2)
            have HB16 : Hid (Below w13.heap.size w13 (w15.setCell ⟨g15, j, none⟩ (.int .u8 (y2.toNat : Int)))) := Lib.hid (HB15.out.setCell (p := ⟨g15, j, none⟩) hge _)
            clear hwj hwr hdv hdv2 hmd hmd2 HSET HB15
            go_wp2_with fail
            generalize hw16 : w15.setCell ⟨g15, j, none⟩ (.int .u8 (y2.toNat : Int)) = w16 at HO16 HB16 ⊢
            clear hw16 hcell hfr hy2
            obtain ⟨X, hX⟩ : ∃ X, X = S.set j y2 := ⟨_, rfl⟩
            rw [← hX] at HO16
            have hXl : X.length = m := by rw [hX, List.length_set, HSL.out]
            have HKY16 := Lib.hid (HKY13.out.below HB16.out HKY13.out.lt)
            have HT16 := Lib.hid (HT13.out.up HB16.out)
            have HBW16 := Lib.hid (HB13.out.trans (HB16.out.mono HB13.out.size))
            have HX16 := Lib.hid HO16.out.bs
            obtain ⟨bb, hbb⟩ : ∃ bb, bb = decide (T = shortL kb X) := ⟨_, rfl⟩
            have hbb2 : decide (shortL kb X = T) = bb := by rw [hbb]; exact dec_sym _ _
            have c17 := check_any (drew2_bs (HKY16.out.b.al (.cells #[.slice (some ⟨g15, 0, none⟩) m c15] 22))) (drew2_bs (HT16.out.al _)) (drew2_rs (rs1 HX16.out)) (by simp [World.size_drew]) (by rw [hkbl]; omega) (by simp [hXl]; omega)
            rw [show [X].flatten = X by simp, ← hbb] at c17
            have C17 := Lib.hid c17; have HXL := Lib.hid hXl; have HBB2 := Lib.hid hbb2
            clear c17 hX hXl hbb hbb2 HO16 HB16 HKY13 HM13 HS13 HT13 HB13
            go_region_held3 (fun _ => True) (exact trivial) (first
              | (go_at_call 9; with_reducible refine (C17.out).mono ?_; rintro e17 w17 ⟨rfl, hb17⟩; have hb17' := drew2_below hb17; have HKY17 := HKY16.out.below hb17' HKY16.out.lt; have HT17 := HT16.out.up hb17'; have C18 := refShort_any HKY17.b (Nat.le_refl _) (HX16.out.up hb17') (Nat.le_refl _) (by rw [hkbl]; omega) (by rw [HXL.out]; omega))
              | (go_at_call 18; with_reducible refine C18.mono ?_; rintro e18 w18 ⟨x18, rfl, ho18, hb18⟩; obtain ⟨A18, c18, rfl⟩ := ho18.shapeN (n := 16) (shortL_len _ _); have C19 := samebytes_any ho18.bs (HT17.up hb18); rw [HBB2.out] at C19)
              | (go_at_call 17; with_reducible refine C19.mono ?_; rintro e19 w19 ⟨rfl, hw19⟩; subst hw19)
              | fail)
            have HBE := Lib.hid (HBW16.out.trans ((hb17'.trans (hb18.mono hb17'.size)).mono HBW16.out.size))
            clear hb17 hb18 hb17' C17 C18 C19
            go_wp2
            go_ret
            exact ⟨ret_bool (by simp), HBE.out⟩
end Go.Proofs.Ytifgigpflfdmfaa
