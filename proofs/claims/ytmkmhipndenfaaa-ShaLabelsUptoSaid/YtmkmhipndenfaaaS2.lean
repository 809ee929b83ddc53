/- ShaLabels, walked. -/
import Derived.Test.YtmkmhipndenfaaaS1
import Derived.Test.YtmkmhipndenfaaaShaAwake
namespace Go.Proofs.Ytmkmhipndenfaaa
open Go.RowKit

/-- an operation that yields is taken first, its slot written out -/
theorem takeD {P : Program} {ops : Array Oper} {Q : Exit → Act → World → Prop} {md : Region.Mode} {S : World → Prop} {i : Nat} {oi : Oper} {d : Option Nat} {v : Value} {fuel : Nat} {listed : Array Bool} {a : Act} {w : World} (hi : ops[i]? = some oi) (hd : oi.dst = d)
    (hs : Region.noSelect ops = true) (hf : Region.free md ops listed i = true) (hr : (Region.ready md ops listed).contains i = true)
    (hQ : ∀ c a w, Q (.panic c) (a.put d v) w → Q (.panic c) a w) (hy : YieldsIf P ops S oi v a) (hS : S w)
    (h : wpAnyH P md ops Q S fuel (listed.setIfInBounds i true) (a.put d v) w) : wpAnyH P md ops Q S (fuel + 1) listed a w := by
  subst hd
  exact wpAnyH_take hi hs hf hr hQ hy hS h

theorem undrew1 {W w' : World} (h : Below W.drew.heap.size W.drew w') : Below W.heap.size W w' := by
  rw [World.size_drew] at h
  exact ((Below.refl W.heap.size W).drew).trans h
set_option maxRecDepth 100000 in
set_option maxHeartbeats 4000000 in
theorem name_any {s : ByteArray} {w : World} {g : Nat} {T : TypeId} {L : List UInt8} (h : Hashed w g T [.string s] L) :
    Calls Try.prog 25 #[.pointer (some ⟨g, 0, none⟩)] w fun e w' => e = .returned (.string s) ∧ w' = w := by
  obtain ⟨st, rest, ⟨hh, h8, h64⟩, _⟩ := h
  have hc : w.cell? ⟨g, 73, none⟩ = some (.string s) := by
    rw [cell_of_row w g 73 _ _ _ hh]
    simp [cellsH, h8, h64]
  clear hh h8 h64
  go_enter Try.func25, Try.ntmps25
  go_wp2
  go_ret
  exact ⟨rfl, rfl⟩
theorem labAB : ((labL ⟨#[97, 98]⟩).length : Int) = 3 := rfl

set_option maxRecDepth 100000 in
set_option maxHeartbeats 4000000 in
theorem labels_walk {s : ByteArray} {ls : List (List UInt8)} {u : Value} {w : World} (hr : Rs w w.heap.size u ls) (hs : s.size ≤ 1048576) (hn : ls.length ≤ 1048576) (hf : ls.flatten.length ≤ 1048576) (hl : ∀ l ∈ ls, l.length ≤ 1048576) :
    Calls Try.prog 5 #[.string s, u] w fun e w' => e = .returned (.bool true) ∧ Below w.heap.size w w' := by
  have C0 := Lib.hid (label_ok (s := ⟨#[97, 98]⟩) (by decide) w)
  obtain ⟨F, hF⟩ : ∃ F, F = ls.flatten := ⟨_, rfl⟩
  rw [← hF] at hf
  have HF := Lib.hid hF
  obtain ⟨AR, cR, hRe, hr1, hr2, hr3⟩ := hr
  have HR : Hid (Rs w w.heap.size u ls) := Lib.hid ⟨AR, cR, hRe, hr1, hr2, hr3⟩
  subst hRe
  have HL := Lib.hid hl
  clear hF hl hr3
  go_enter Try.func5, Try.ntmps5
  go_wp2_with fail
  with_reducible refine (C0.out).mono ?_
  rintro e0 w0 ⟨rfl, hh0, hb0⟩
  have C1 := len_any hh0
  rw [labAB] at C1
  have HC1 := Lib.hid C1; have HN1 := Lib.hid (name_any hh0); have HB0 := Lib.hid hb0
  clear C0 C1 hh0 hb0
  go_wp2_with fail
  with_reducible refine (HC1.out).mono ?_
  rintro e1 w1 ⟨rfl, rfl⟩
  go_wp2_with fail
  with_reducible refine (HN1.out).mono ?_
  rintro e2 w2 ⟨rfl, rfl⟩
  clear HC1 HN1
  by_cases hbig : 255 < s.size
  · have C2 := Lib.hid (label_no hbig hs w2)
    have hd : decide ((255 : Int) < (s.size : Int)) = true := by simp; omega
    go_wp2_with fail
    with_reducible refine (C2.out).mono ?_
    rintro e3 w3 ⟨rfl, rfl⟩
    go_wp2
    go_ret
    exact ⟨rfl, HB0.out⟩
  · have C2 := Lib.hid (label_ok (s := s) (by omega) w2)
    have hd : decide ((255 : Int) < (s.size : Int)) = false := by simp; omega
    go_wp2_with fail
    with_reducible refine (C2.out).mono ?_
    rintro e3 w3 ⟨rfl, hh3, hb3⟩
    obtain ⟨g, hg⟩ : ∃ g, g = w2.heap.size := ⟨_, rfl⟩
    rw [← hg] at hh3 ⊢
    have hgw : w.heap.size ≤ g := by rw [hg]; exact HB0.out.size
    have hg3 : g < w3.heap.size := hh3.lt
    have HB3 := Lib.hid (HB0.out.trans (hb3.mono HB0.out.size))
    have HH3 := Lib.hid hh3
    have CC : Hid (Calls Try.prog 11 #[.slice AR ls.length cR] w3.drew fun e w' => ∃ u, e = .returned u ∧ OwnRs w' w3.heap.size u ls ∧ Below w3.heap.size w3 w') := Lib.hid ((copies_any (w := w3.drew) ((HR.out.below HB3.out (Nat.le_refl _)).drewN 1) HB3.out.size (by omega) (fun l hl => by have := HL.out l hl; omega)).mono (fun e w' ⟨u, h1, h2, h3⟩ => ⟨u, h1, h2, undrew1 h3⟩))
    clear C2 hh3 hb3 hg HB0
    go_upto_region 9 with fail
    go_wp2_with fail
    refine wp_region_held_drew (S := fun _ => True) (by kernel_rfl) ?_ (fun hHeld => ?_)
    · exact trivial
    refine takeD (i := 0) (oi := _) (d := some 51) (v := ?_) rfl (by kernel_rfl) (by kernel_rfl) (by kernel_rfl) (by kernel_rfl) (fun _ _ _ h => h) (Or.inl ⟨by kernel_rfl, ?_⟩) (by assumption) ?_
    rotate_left
    focus (intro w' hSw; (try dsimp only at hSw); go_simp <;> with_reducible rfl)
    try simp only [Act.put, List.setIfInBounds_toArray, List.set_cons_zero, List.set_cons_succ]
    refine takeD (i := 1) (oi := _) (d := some 52) (v := ?_) rfl (by kernel_rfl) (by kernel_rfl) (by kernel_rfl) (by kernel_rfl) (fun _ _ _ h => h) (Or.inl ⟨by kernel_rfl, ?_⟩) (by assumption) ?_
    rotate_left
    focus (intro w' hSw; (try dsimp only at hSw); go_simp <;> with_reducible rfl)
    try simp only [Act.put, List.setIfInBounds_toArray, List.set_cons_zero, List.set_cons_succ]
    refine takeD (i := 2) (oi := _) (d := some 53) (v := ?_) rfl (by kernel_rfl) (by kernel_rfl) (by kernel_rfl) (by kernel_rfl) (fun _ _ _ h => h) (Or.inl ⟨by kernel_rfl, ?_⟩) (by assumption) ?_
    rotate_left
    focus (intro w' hSw; (try dsimp only at hSw); go_simp <;> with_reducible rfl)
    try simp only [Act.put, List.setIfInBounds_toArray, List.set_cons_zero, List.set_cons_succ]
    refine takeD (i := 3) (oi := _) (d := some 54) (v := ?_) rfl (by kernel_rfl) (by kernel_rfl) (by kernel_rfl) (by kernel_rfl) (fun _ _ _ h => h) (Or.inl ⟨by kernel_rfl, ?_⟩) (by assumption) ?_
    rotate_left
    focus (intro w' hSw; (try dsimp only at hSw); go_simp <;> with_reducible rfl)
    try simp only [Act.put, List.setIfInBounds_toArray, List.set_cons_zero, List.set_cons_succ]
    refine wpAnyH_ready (rs := [4]) (by kernel_rfl) (by simp) ?_
    refine AllReadyH.cons (o := _) rfl (fun K hK => ?_) AllReadyH.nil
    go_simp
    with_reducible refine (CC.out).mono ?_
    rintro e5 w5 ⟨u5, rfl, ho5, hb5⟩
    obtain ⟨A5, c5, rfl⟩ := ho5.shape
    have HB5 := Lib.hid (HB3.out.trans (hb5.mono HB3.out.size))
    have HH5 := Lib.hid (HH3.out.below hb5 (by omega))
    have hz5 := hb5.size
    have CW := Lib.hid (write_any HH5.out (ho5.rg hg3) (by rw [labL_len, ← HF.out]; omega))
    clear ho5 hb5
    refine hK.out _ _ ?_ (fun hHeld => ?_)
    · exact trivial
    clear hK K
    try simp only [Act.put, List.setIfInBounds_toArray, List.set_cons_zero, List.set_cons_succ]
    refine wpAnyH_ready (rs := [5]) (by kernel_rfl) (by simp) ?_
    refine AllReadyH.cons (o := _) rfl (fun K hK => ?_) AllReadyH.nil
    go_simp
    with_reducible refine (CW.out).mono ?_
    rintro e6 w6 ⟨rfl, hh6, hg6⟩
    have HH6 := Lib.hid hh6
    have HB6 := Lib.hid (HB5.out.grown hg6 HB5.out.size (fun j hj => by simp only [Option.some.injEq] at hj; omega))
    have hz6 := hg6.size
    clear hh6 hg6
    refine hK.out _ _ ?_ (fun hHeld => ?_)
    · exact trivial
    clear hK K
    try simp only [Act.put, List.setIfInBounds_toArray, List.set_cons_zero, List.set_cons_succ]
    refine wpAnyH_done (by kernel_rfl) ?_ _
    obtain ⟨x, hx⟩ : ∃ x, x = UInt8.ofNat s.size := ⟨_, rfl⟩
    have hxv : (s.size : Int) = (x.toNat : Int) := by rw [hx]; simp; omega
    have hw8 : IntKind.u8.wrap (s.size : Int) = (s.size : Int) := by rw [IntKind.wrap_u8]; omega
    obtain ⟨i0, hi0, hz0', hz1', hz2'⟩ := info_parts u8info
    have HI0 := Lib.hid hi0; have HZ0 := Lib.hid hz0'; have HZ1 := Lib.hid hz1'; have HZ2 := Lib.hid hz2'
    have HO6 : Hid (Own (w6.alloc (.cells #[.int .u8 (s.size : Int)] 5)) w6.heap.size (.slice (some ⟨w6.heap.size, 0, none⟩) 1 1) [x]) := Lib.hid (by
      rw [hxv]
      exact Own.of_cells (cs := [.int .u8 (x.toNat : Int)]) (heap_alloc_new w6 _) (Nat.le_refl _) (by unfold maxLen; simp) rfl)
    have HR6 : Hid ((w6.alloc (.cells #[.int .u8 (s.size : Int)] 5)).ownsRow w6.heap.size 5 1 (.slice (some ⟨w6.heap.size, 0, none⟩) 1 1) 1 [vb x]) := Lib.hid HO6.out
    have hb6 : Hid (Below w6.heap.size w6 (w6.alloc (.cells #[.int .u8 (s.size : Int)] 5))) := Lib.hid ((Below.refl _ _).alloc (Nat.le_refl _) _)
    have h63 : Hid (1 + s.size ≤ maxLen) := Lib.hid (by unfold maxLen; omega)
    have h64 : Hid (1 + s.size ≤ 140737488355328) := Lib.hid (by omega)
    have HX := Lib.hid hx
    have hg6 : g < w6.heap.size := by omega
    clear hx hxv hi0 hz0' hz1' hz2'
    go_wp2_with (at_builtin; with_reducible refine Lib.wpList_append_own_string _ rfl (.tmp 60) (.tmp 61) 22 9 rfl w6.heap.size 5 i0 Try.underlying22 Try.underlying9 HI0.out HZ0.out HZ1.out HZ2.out (.slice (some ⟨w6.heap.size, 0, none⟩) 1 1) 1 [vb x] rfl HR6.out s rfl h63.out h64.out hb6.out.size ?_)
    intro v7 w7 ho7 hg7 _
    have HO7 : Hid (Own w7 w6.heap.size v7 (labL s)) := Lib.hid (by
      unfold Own
      rw [labL_len, labL, ← HX.out, List.map_cons, Nat.add_comm]
      exact ho7)
    have hlt6 : ∀ j, (Value.slice (some ⟨w6.heap.size, 0, none⟩) 1 1).ownBlock = some j → w6.heap.size ≤ j := fun j hj => (World.ownsRow.lt HO6.out j hj).1
    have hb7 := hb6.out.grown hg7 hb6.out.size hlt6
    have HB7 := Lib.hid (HB6.out.trans (hb7.mono HB6.out.size))
    have HH7 := Lib.hid (HH6.out.below hb7 hg6)
    have hz7 := hb7.size
    obtain ⟨A7, c7, hv7⟩ := HO7.out.shape
    rw [labL_len] at hv7
    subst hv7
    have CJ := refjoin_any (HR.out.below HB7.out (Nat.le_refl _)) HB7.out.size (by rw [← HF.out]; omega)
    rw [← HF.out] at CJ
    have HCJ := Lib.hid CJ
    clear ho7 hg7 hlt6 hb7 CJ HO6 hb6 HB6 HH6
    go_wp2_with fail
    with_reducible refine (HCJ.out).mono ?_
    rintro e8 w8 ⟨u8, rfl, ho8, hb8⟩
    obtain ⟨A8, c8, rfl⟩ := ho8.shape
    have HB8 := Lib.hid (HB7.out.trans (hb8.mono HB7.out.size))
    have HH8 := Lib.hid (HH7.out.below hb8 (by omega))
    have HO8 := Lib.hid (HO7.out.below hb8 (Nat.le_refl _))
    have HJ8 := Lib.hid ho8.bs
    have hz8 := hb8.size
    have h65 : Hid ((labL s).length + F.length ≤ 140737488355328) := Lib.hid (by rw [labL_len]; omega)
    have hz68 : Hid (w6.heap.size ≤ w8.heap.size) := Lib.hid (by omega)
    clear ho8 hb8 HCJ HB7 HH7 HO7
    go_wp2_with (at_builtin; with_reducible refine wpList_app rfl (.tmp 63) (.tmp 65) rfl rfl HO8.out rfl HJ8.out h65.out hz68.out ?_)
    intro v9 w9 ho9 hg9 _
    obtain ⟨Q, hQ⟩ : ∃ Q, Q = labL s ++ F := ⟨_, rfl⟩
    rw [← hQ] at ho9
    have hQl : Q.length ≤ 2097408 := by rw [hQ, List.length_append, labL_len]; omega
    have hlt8 : ∀ j, (Value.slice A7 (s.size + 1) c7).ownBlock = some j → w6.heap.size ≤ j := fun j hj => (World.ownsRow.lt HO8.out j hj).1
    have hb9 : Below w6.heap.size w8 w9 := (Below.refl _ _).grown hg9 hz68.out hlt8
    have HB9 := Lib.hid (HB8.out.trans (hb9.mono (Nat.le_trans HB3.out.size (by omega))))
    have HH9 := HH8.out.below hb9 hg6
    rw [← HF.out, ← hQ] at HH9
    have HH9 := Lib.hid HH9
    have hz9 := hb9.size
    obtain ⟨A9, c9, rfl⟩ := ho9.shape
    have HQ := Lib.hid hQ
    have HA9 := Lib.hid ho9
    have hrs := Rs.lit w9 [.slice A9 Q.length c9] [Q] rfl (by unfold maxLen; simp) (by
      intro j h1 h2
      obtain rfl : j = 0 := by simpa using h1
      exact HA9.out.bs)
    have hal9 : Below w9.heap.size w9 (w9.alloc (.cells #[.slice A9 Q.length c9] 22)) := (Below.refl _ _).alloc (Nat.le_refl _) _
    have hs9 : (w9.alloc (.cells #[.slice A9 Q.length c9] 22)).heap.size = w9.heap.size + 1 := by simp
    have CN := new_any (w := w9.alloc (.cells #[.slice A9 Q.length c9] 22)) (ls := [Q]) (v := .slice (some ⟨w9.heap.size, 0, none⟩) 1 1) (hrs.more (by rw [hs9]; exact Nat.le_refl _)) (by simp; omega)
    rw [show [Q].flatten = Q by simp, hs9] at CN
    have HCN := Lib.hid CN
    have HS9 := Lib.hid hs9
    clear hQ ho9 hg9 hlt8 hb9 hrs CN hs9 HB8 HH8 HO8 HJ8
    go_wp2_with fail
    with_reducible refine (HCN.out).mono ?_
    rintro e10 w10 ⟨rfl, hq10, hb10⟩
    have hb910 : Below w9.heap.size w9 w10 := hal9.trans (hb10.mono (by omega))
    have HB10 := Lib.hid (HB9.out.trans (hb910.mono HB9.out.size))
    have HH10 := Lib.hid (HH9.out.below hb910 (by omega))
    have HQ10 := Lib.hid hq10
    have HA10 := Lib.hid (HA9.out.below hb910 (Nat.le_refl _))
    have hgl10 : g < w10.heap.size := HH10.out.lt
    have hql10 : w9.heap.size + 1 < w10.heap.size := hq10.lt
    have hz10 := hb910.size
    have hAl : Q.length ≤ 140737488355128 := by omega
    have hAm : Q.length ≤ 1152921504606846000 := by omega
    obtain ⟨SC, hS⟩ : ∃ SC, arr32 (sumL Q) = .agg SC := ⟨_, rfl⟩
    have EQS : ∀ W, (Op.equalIn 10000 40 (.agg SC) (.agg SC)).run Try.prog W = .ok true W := fun W => by rw [← hS]; exact eq_arr32 _ (sumL_len _) W
    have HS := Lib.hid hS
    have hss : (s == s) = true := by rw [beq_toListBytes]; simp
    have D1 : Hid (Calls Try.prog 19 #[.pointer (some ⟨g, 0, none⟩)] w10.drew fun e w' => e = .returned (.agg SC) ∧ Below w10.heap.size w10 w') := Lib.hid (by
      rw [← hS]
      exact (sum_any (w := w10.drew) (HH10.out.below ((Below.refl w10.heap.size w10).drew) hgl10) hAm).mono (fun e w' ⟨h1, h2⟩ => ⟨h1, undrew1 h2⟩))
    clear hS hq10 hb10 hb910 hal9 HCN HB9 HH9 HA9
    go_upto_region 13 with fail
    go_wp2_with fail
    refine wp_region_held_drew (S := fun _ => True) (by kernel_rfl) ?_ (fun hHeld => ?_)
    · exact trivial
    refine takeD (i := 0) (oi := _) (d := some 70) (v := ?_) rfl (by kernel_rfl) (by kernel_rfl) (by kernel_rfl) (by kernel_rfl) (fun _ _ _ h => h) (Or.inl ⟨by kernel_rfl, ?_⟩) (by assumption) ?_
    rotate_left
    focus (intro w' hSw; (try dsimp only at hSw); go_simp <;> with_reducible rfl)
    try simp only [Act.put, List.setIfInBounds_toArray, List.set_cons_zero, List.set_cons_succ]
    refine takeD (i := 1) (oi := _) (d := some 71) (v := ?_) rfl (by kernel_rfl) (by kernel_rfl) (by kernel_rfl) (by kernel_rfl) (fun _ _ _ h => h) (Or.inl ⟨by kernel_rfl, ?_⟩) (by assumption) ?_
    rotate_left
    focus (intro w' hSw; (try dsimp only at hSw); go_simp <;> with_reducible rfl)
    try simp only [Act.put, List.setIfInBounds_toArray, List.set_cons_zero, List.set_cons_succ]
    refine takeD (i := 2) (oi := _) (d := some 72) (v := ?_) rfl (by kernel_rfl) (by kernel_rfl) (by kernel_rfl) (by kernel_rfl) (fun _ _ _ h => h) (Or.inl ⟨by kernel_rfl, ?_⟩) (by assumption) ?_
    rotate_left
    focus (intro w' hSw; (try dsimp only at hSw); go_simp <;> with_reducible rfl)
    try simp only [Act.put, List.setIfInBounds_toArray, List.set_cons_zero, List.set_cons_succ]
    refine takeD (i := 4) (oi := _) (d := some 74) (v := ?_) rfl (by kernel_rfl) (by kernel_rfl) (by kernel_rfl) (by kernel_rfl) (fun _ _ _ h => h) (Or.inl ⟨by kernel_rfl, ?_⟩) (by assumption) ?_
    rotate_left
    focus (intro w' hSw; (try dsimp only at hSw); go_simp <;> with_reducible rfl)
    try simp only [Act.put, List.setIfInBounds_toArray, List.set_cons_zero, List.set_cons_succ]
    refine wpAnyH_ready (rs := [3]) (by kernel_rfl) (by simp) ?_
    refine AllReadyH.cons (o := _) rfl (fun K hK => ?_) AllReadyH.nil
    go_simp
    with_reducible refine (D1.out).mono ?_
    rintro e11 w11 ⟨rfl, hb11⟩
    have HB11 := Lib.hid (HB10.out.trans (hb11.mono HB10.out.size))
    have HH11 := Lib.hid (HH10.out.below hb11 hgl10)
    have HQ11 := Lib.hid (HQ10.out.below hb11 hql10)
    have hz11 := hb11.size
    have D2 := refSum_any (HA10.out.bs.below hb11 (Nat.le_refl _)) hb11.size hAl
    rw [HS.out] at D2
    have D2 := Lib.hid D2
    clear hb11
    refine hK.out _ _ ?_ (fun hHeld => ?_)
    · exact trivial
    clear hK K
    try simp only [Act.put, List.setIfInBounds_toArray, List.set_cons_zero, List.set_cons_succ]
    refine wpAnyH_ready (rs := [5]) (by kernel_rfl) (by simp) ?_
    refine AllReadyH.cons (o := _) rfl (fun K hK => ?_) AllReadyH.nil
    go_simp
    with_reducible refine (D2.out).mono ?_
    rintro e12 w12 ⟨rfl, hb12⟩
    have HB12 := Lib.hid (HB11.out.trans (hb12.mono HB11.out.size))
    have HH12 := Lib.hid (HH11.out.below hb12 (by omega))
    have HQ12 := Lib.hid (HQ11.out.below hb12 (by omega))
    have hz12 := hb12.size
    have D3 := sum_any HH12.out hAm
    rw [HS.out] at D3
    have D3 := Lib.hid D3
    clear hb12
    refine hK.out _ _ ?_ (fun hHeld => ?_)
    · exact trivial
    clear hK K
    try simp only [Act.put, List.setIfInBounds_toArray, List.set_cons_zero, List.set_cons_succ]
    refine takeD (i := 6) (oi := _) (d := some 76) (v := ?_) rfl (by kernel_rfl) (by kernel_rfl) (by kernel_rfl) (by kernel_rfl) (fun _ _ _ h => h) (Or.inl ⟨by kernel_rfl, ?_⟩) (by assumption) ?_
    rotate_left
    focus (intro w' hSw; (try dsimp only at hSw); go_simp <;> with_reducible rfl)
    try simp only [Act.put, List.setIfInBounds_toArray, List.set_cons_zero, List.set_cons_succ]
    refine takeD (i := 7) (oi := _) (d := some 77) (v := ?_) rfl (by kernel_rfl) (by kernel_rfl) (by kernel_rfl) (by kernel_rfl) (fun _ _ _ h => h) (Or.inl ⟨by kernel_rfl, ?_⟩) (by assumption) ?_
    rotate_left
    focus (intro w' hSw; (try dsimp only at hSw); go_simp <;> with_reducible rfl)
    try simp only [Act.put, List.setIfInBounds_toArray, List.set_cons_zero, List.set_cons_succ]
    refine takeD (i := 8) (oi := _) (d := some 78) (v := ?_) rfl (by kernel_rfl) (by kernel_rfl) (by kernel_rfl) (by kernel_rfl) (fun _ _ _ h => h) (Or.inl ⟨by kernel_rfl, ?_⟩) (by assumption) ?_
    rotate_left
    focus (intro w' hSw; (try dsimp only at hSw); go_simp <;> with_reducible rfl)
    try simp only [Act.put, List.setIfInBounds_toArray, List.set_cons_zero, List.set_cons_succ]
    refine takeD (i := 9) (oi := _) (d := some 79) (v := ?_) rfl (by kernel_rfl) (by kernel_rfl) (by kernel_rfl) (by kernel_rfl) (fun _ _ _ h => h) (Or.inl ⟨by kernel_rfl, ?_⟩) (by assumption) ?_
    rotate_left
    focus (intro w' hSw; (try dsimp only at hSw); go_simp <;> with_reducible rfl)
    try simp only [Act.put, List.setIfInBounds_toArray, List.set_cons_zero, List.set_cons_succ]
    refine takeD (i := 10) (oi := _) (d := some 80) (v := ?_) rfl (by kernel_rfl) (by kernel_rfl) (by kernel_rfl) (by kernel_rfl) (fun _ _ _ h => h) (Or.inl ⟨by kernel_rfl, ?_⟩) (by assumption) ?_
    rotate_left
    focus (intro w' hSw; (try dsimp only at hSw); go_simp <;> with_reducible rfl)
    try simp only [Act.put, List.setIfInBounds_toArray, List.set_cons_zero, List.set_cons_succ]
    refine takeD (i := 12) (oi := _) (d := some 82) (v := ?_) rfl (by kernel_rfl) (by kernel_rfl) (by kernel_rfl) (by kernel_rfl) (fun _ _ _ h => h) (Or.inl ⟨by kernel_rfl, ?_⟩) (by assumption) ?_
    rotate_left
    focus (intro w' hSw; (try dsimp only at hSw); go_simp <;> with_reducible rfl)
    try simp only [Act.put, List.setIfInBounds_toArray, List.set_cons_zero, List.set_cons_succ]
    refine takeD (i := 13) (oi := _) (d := some 83) (v := ?_) rfl (by kernel_rfl) (by kernel_rfl) (by kernel_rfl) (by kernel_rfl) (fun _ _ _ h => h) (Or.inl ⟨by kernel_rfl, ?_⟩) (by assumption) ?_
    rotate_left
    focus (intro w' hSw; (try dsimp only at hSw); go_simp <;> with_reducible rfl)
    try simp only [Act.put, List.setIfInBounds_toArray, List.set_cons_zero, List.set_cons_succ]
    refine takeD (i := 14) (oi := _) (d := some 84) (v := ?_) rfl (by kernel_rfl) (by kernel_rfl) (by kernel_rfl) (by kernel_rfl) (fun _ _ _ h => h) (Or.inl ⟨by kernel_rfl, ?_⟩) (by assumption) ?_
    rotate_left
    focus (intro w' hSw; (try dsimp only at hSw); go_simp <;> with_reducible rfl)
    try simp only [Act.put, List.setIfInBounds_toArray, List.set_cons_zero, List.set_cons_succ]
    refine wpAnyH_ready (rs := [11]) (by kernel_rfl) (by simp) ?_
    refine AllReadyH.cons (o := _) rfl (fun K hK => ?_) AllReadyH.nil
    go_simp
    with_reducible refine (D3.out).mono ?_
    rintro e13 w13 ⟨rfl, hb13⟩
    have HB13 := Lib.hid (HB12.out.trans (hb13.mono HB12.out.size))
    have HH13 := Lib.hid (HH12.out.below hb13 (by omega))
    have HQ13 := Lib.hid (HQ12.out.below hb13 (by omega))
    have hz13 := hb13.size
    have D4 := sum_any HH13.out hAm
    rw [HS.out] at D4
    have D4 := Lib.hid D4
    clear hb13
    refine hK.out _ _ ?_ (fun hHeld => ?_)
    · exact trivial
    clear hK K
    try simp only [Act.put, List.setIfInBounds_toArray, List.set_cons_zero, List.set_cons_succ]
    refine wpAnyH_ready (rs := [15]) (by kernel_rfl) (by simp) ?_
    refine AllReadyH.cons (o := _) rfl (fun K hK => ?_) AllReadyH.nil
    go_simp
    with_reducible refine (D4.out).mono ?_
    rintro e14 w14 ⟨rfl, hb14⟩
    have HB14 := Lib.hid (HB13.out.trans (hb14.mono HB13.out.size))
    have HH14 := Lib.hid (HH13.out.below hb14 (by omega))
    have HQ14 := Lib.hid (HQ13.out.below hb14 (by omega))
    have hz14 := hb14.size
    have D5 := Lib.hid (len_any HH14.out)
    clear hb14
    refine hK.out _ _ ?_ (fun hHeld => ?_)
    · exact trivial
    clear hK K
    try simp only [Act.put, List.setIfInBounds_toArray, List.set_cons_zero, List.set_cons_succ]
    refine takeD (i := 16) (oi := _) (d := some 86) (v := ?_) rfl (by kernel_rfl) (by kernel_rfl) (by kernel_rfl) (by kernel_rfl) (fun _ _ _ h => h) (Or.inl ⟨by kernel_rfl, ?_⟩) (by assumption) ?_
    rotate_left
    focus (intro w' hSw; (try dsimp only at hSw); go_simp <;> with_reducible rfl)
    try simp only [Act.put, List.setIfInBounds_toArray, List.set_cons_zero, List.set_cons_succ]
    refine takeD (i := 17) (oi := _) (d := some 87) (v := ?_) rfl (by kernel_rfl) (by kernel_rfl) (by kernel_rfl) (by kernel_rfl) (fun _ _ _ h => h) (Or.inl ⟨by kernel_rfl, ?_⟩) (by assumption) ?_
    rotate_left
    focus (intro w' hSw; (try dsimp only at hSw); go_simp <;> with_reducible rfl)
    try simp only [Act.put, List.setIfInBounds_toArray, List.set_cons_zero, List.set_cons_succ]
    refine takeD (i := 18) (oi := _) (d := some 88) (v := ?_) rfl (by kernel_rfl) (by kernel_rfl) (by kernel_rfl) (by kernel_rfl) (fun _ _ _ h => h) (Or.inl ⟨by kernel_rfl, ?_⟩) (by assumption) ?_
    rotate_left
    focus (intro w' hSw; (try dsimp only at hSw); go_simp <;> with_reducible rfl)
    try simp only [Act.put, List.setIfInBounds_toArray, List.set_cons_zero, List.set_cons_succ]
    refine takeD (i := 19) (oi := _) (d := some 89) (v := ?_) rfl (by kernel_rfl) (by kernel_rfl) (by kernel_rfl) (by kernel_rfl) (fun _ _ _ h => h) (Or.inl ⟨by kernel_rfl, ?_⟩) (by assumption) ?_
    rotate_left
    focus (intro w' hSw; (try dsimp only at hSw); go_simp <;> with_reducible rfl)
    try simp only [Act.put, List.setIfInBounds_toArray, List.set_cons_zero, List.set_cons_succ]
    refine takeD (i := 20) (oi := _) (d := some 90) (v := ?_) rfl (by kernel_rfl) (by kernel_rfl) (by kernel_rfl) (by kernel_rfl) (fun _ _ _ h => h) (Or.inl ⟨by kernel_rfl, ?_⟩) (by assumption) ?_
    rotate_left
    focus (intro w' hSw; (try dsimp only at hSw); go_simp <;> with_reducible rfl)
    try simp only [Act.put, List.setIfInBounds_toArray, List.set_cons_zero, List.set_cons_succ]
    refine takeD (i := 21) (oi := _) (d := some 91) (v := ?_) rfl (by kernel_rfl) (by kernel_rfl) (by kernel_rfl) (by kernel_rfl) (fun _ _ _ h => h) (Or.inl ⟨by kernel_rfl, ?_⟩) (by assumption) ?_
    rotate_left
    focus (intro w' hSw; (try dsimp only at hSw); go_simp <;> with_reducible rfl)
    try simp only [Act.put, List.setIfInBounds_toArray, List.set_cons_zero, List.set_cons_succ]
    refine takeD (i := 23) (oi := _) (d := some 93) (v := ?_) rfl (by kernel_rfl) (by kernel_rfl) (by kernel_rfl) (by kernel_rfl) (fun _ _ _ h => h) (Or.inl ⟨by kernel_rfl, ?_⟩) (by assumption) ?_
    rotate_left
    focus (intro w' hSw; (try dsimp only at hSw); go_simp <;> with_reducible rfl)
    try simp only [Act.put, List.setIfInBounds_toArray, List.set_cons_zero, List.set_cons_succ]
    refine takeD (i := 24) (oi := _) (d := some 94) (v := ?_) rfl (by kernel_rfl) (by kernel_rfl) (by kernel_rfl) (by kernel_rfl) (fun _ _ _ h => h) (Or.inl ⟨by kernel_rfl, ?_⟩) (by assumption) ?_
    rotate_left
    focus (intro w' hSw; (try dsimp only at hSw); go_simp <;> with_reducible rfl)
    try simp only [Act.put, List.setIfInBounds_toArray, List.set_cons_zero, List.set_cons_succ]
    refine wpAnyH_ready (rs := [22]) (by kernel_rfl) (by simp) ?_
    refine AllReadyH.cons (o := _) rfl (fun K hK => ?_) AllReadyH.nil
    go_simp
    with_reducible refine (D5.out).mono ?_
    rintro e15 w15 ⟨rfl, rfl⟩
    have D6 := Lib.hid (name_any HH14.out)
    refine hK.out _ _ ?_ (fun hHeld => ?_)
    · exact trivial
    clear hK K
    try simp only [Act.put, List.setIfInBounds_toArray, List.set_cons_zero, List.set_cons_succ]
    refine takeD (i := 25) (oi := _) (d := some 95) (v := ?_) rfl (by kernel_rfl) (by kernel_rfl) (by kernel_rfl) (by kernel_rfl) (fun _ _ _ h => h) (Or.inl ⟨by kernel_rfl, ?_⟩) (by assumption) ?_
    rotate_left
    focus (intro w' hSw; (try dsimp only at hSw); go_simp <;> with_reducible rfl)
    try simp only [Act.put, List.setIfInBounds_toArray, List.set_cons_zero, List.set_cons_succ]
    refine takeD (i := 26) (oi := _) (d := some 96) (v := ?_) rfl (by kernel_rfl) (by kernel_rfl) (by kernel_rfl) (by kernel_rfl) (fun _ _ _ h => h) (Or.inl ⟨by kernel_rfl, ?_⟩) (by assumption) ?_
    rotate_left
    focus (intro w' hSw; (try dsimp only at hSw); go_simp <;> with_reducible rfl)
    try simp only [Act.put, List.setIfInBounds_toArray, List.set_cons_zero, List.set_cons_succ]
    refine takeD (i := 27) (oi := _) (d := some 97) (v := ?_) rfl (by kernel_rfl) (by kernel_rfl) (by kernel_rfl) (by kernel_rfl) (fun _ _ _ h => h) (Or.inl ⟨by kernel_rfl, ?_⟩) (by assumption) ?_
    rotate_left
    focus (intro w' hSw; (try dsimp only at hSw); go_simp <;> with_reducible rfl)
    try simp only [Act.put, List.setIfInBounds_toArray, List.set_cons_zero, List.set_cons_succ]
    refine takeD (i := 28) (oi := _) (d := some 98) (v := ?_) rfl (by kernel_rfl) (by kernel_rfl) (by kernel_rfl) (by kernel_rfl) (fun _ _ _ h => h) (Or.inl ⟨by kernel_rfl, ?_⟩) (by assumption) ?_
    rotate_left
    focus (intro w' hSw; (try dsimp only at hSw); go_simp <;> with_reducible rfl)
    try simp only [Act.put, List.setIfInBounds_toArray, List.set_cons_zero, List.set_cons_succ]
    refine takeD (i := 30) (oi := _) (d := some 100) (v := ?_) rfl (by kernel_rfl) (by kernel_rfl) (by kernel_rfl) (by kernel_rfl) (fun _ _ _ h => h) (Or.inl ⟨by kernel_rfl, ?_⟩) (by assumption) ?_
    rotate_left
    focus (intro w' hSw; (try dsimp only at hSw); go_simp <;> with_reducible rfl)
    try simp only [Act.put, List.setIfInBounds_toArray, List.set_cons_zero, List.set_cons_succ]
    refine wpAnyH_ready (rs := [29]) (by kernel_rfl) (by simp) ?_
    refine AllReadyH.cons (o := _) rfl (fun K hK => ?_) AllReadyH.nil
    go_simp
    with_reducible refine (D6.out).mono ?_
    rintro e16 w16 ⟨rfl, rfl⟩
    have D7 := Lib.hid (twin_any HH14.out)
    refine hK.out _ _ ?_ (fun hHeld => ?_)
    · exact trivial
    clear hK K
    try simp only [Act.put, List.setIfInBounds_toArray, List.set_cons_zero, List.set_cons_succ]
    refine takeD (i := 31) (oi := _) (d := some 101) (v := ?_) rfl (by kernel_rfl) (by kernel_rfl) (by kernel_rfl) (by kernel_rfl) (fun _ _ _ h => h) (Or.inl ⟨by kernel_rfl, ?_⟩) (by assumption) ?_
    rotate_left
    focus (intro w' hSw; (try dsimp only at hSw); go_simp <;> with_reducible rfl)
    try simp only [Act.put, List.setIfInBounds_toArray, List.set_cons_zero, List.set_cons_succ]
    refine takeD (i := 32) (oi := _) (d := some 102) (v := ?_) rfl (by kernel_rfl) (by kernel_rfl) (by kernel_rfl) (by kernel_rfl) (fun _ _ _ h => h) (Or.inl ⟨by kernel_rfl, ?_⟩) (by assumption) ?_
    rotate_left
    focus (intro w' hSw; (try dsimp only at hSw); go_simp <;> with_reducible rfl)
    try simp only [Act.put, List.setIfInBounds_toArray, List.set_cons_zero, List.set_cons_succ]
    refine takeD (i := 33) (oi := _) (d := some 103) (v := ?_) rfl (by kernel_rfl) (by kernel_rfl) (by kernel_rfl) (by kernel_rfl) (fun _ _ _ h => h) (Or.inl ⟨by kernel_rfl, ?_⟩) (by assumption) ?_
    rotate_left
    focus (intro w' hSw; (try dsimp only at hSw); go_simp <;> with_reducible rfl)
    try simp only [Act.put, List.setIfInBounds_toArray, List.set_cons_zero, List.set_cons_succ]
    refine takeD (i := 34) (oi := _) (d := some 104) (v := ?_) rfl (by kernel_rfl) (by kernel_rfl) (by kernel_rfl) (by kernel_rfl) (fun _ _ _ h => h) (Or.inl ⟨by kernel_rfl, ?_⟩) (by assumption) ?_
    rotate_left
    focus (intro w' hSw; (try dsimp only at hSw); go_simp <;> with_reducible rfl)
    try simp only [Act.put, List.setIfInBounds_toArray, List.set_cons_zero, List.set_cons_succ]
    refine takeD (i := 35) (oi := _) (d := some 105) (v := ?_) rfl (by kernel_rfl) (by kernel_rfl) (by kernel_rfl) (by kernel_rfl) (fun _ _ _ h => h) (Or.inl ⟨by kernel_rfl, ?_⟩) (by assumption) ?_
    rotate_left
    focus (intro w' hSw; (try dsimp only at hSw); go_simp <;> with_reducible rfl)
    try simp only [Act.put, List.setIfInBounds_toArray, List.set_cons_zero, List.set_cons_succ]
    refine takeD (i := 36) (oi := _) (d := some 106) (v := ?_) rfl (by kernel_rfl) (by kernel_rfl) (by kernel_rfl) (by kernel_rfl) (fun _ _ _ h => h) (Or.inl ⟨by kernel_rfl, ?_⟩) (by assumption) ?_
    rotate_left
    focus (intro w' hSw; (try dsimp only at hSw); go_simp <;> with_reducible rfl)
    try simp only [Act.put, List.setIfInBounds_toArray, List.set_cons_zero, List.set_cons_succ]
    refine takeD (i := 39) (oi := _) (d := some 109) (v := ?_) rfl (by kernel_rfl) (by kernel_rfl) (by kernel_rfl) (by kernel_rfl) (fun _ _ _ h => h) (Or.inl ⟨by kernel_rfl, ?_⟩) (by assumption) ?_
    rotate_left
    focus (intro w' hSw; (try dsimp only at hSw); go_simp <;> with_reducible rfl)
    try simp only [Act.put, List.setIfInBounds_toArray, List.set_cons_zero, List.set_cons_succ]
    refine wpAnyH_ready (rs := [37]) (by kernel_rfl) (by simp) ?_
    refine AllReadyH.cons (o := _) rfl (fun K hK => ?_) AllReadyH.nil
    go_simp
    with_reducible refine (D7.out).mono ?_
    rintro e17 w17 ⟨rfl, hh17, hb17, hs17⟩
    have HB17 := Lib.hid (HB14.out.trans (hb17.mono HB14.out.size))
    have HQ17 := Lib.hid (HQ14.out.below hb17 (by omega))
    have hz17 := hb17.size
    have D8 := sum_any hh17 hAm
    rw [HS.out] at D8
    have D8 := Lib.hid D8
    clear hh17 hb17
    refine hK.out _ _ ?_ (fun hHeld => ?_)
    · exact trivial
    clear hK K
    try simp only [Act.put, List.setIfInBounds_toArray, List.set_cons_zero, List.set_cons_succ]
    refine wpAnyH_ready (rs := [38]) (by kernel_rfl) (by simp) ?_
    refine AllReadyH.cons (o := _) rfl (fun K hK => ?_) AllReadyH.nil
    go_simp
    with_reducible refine (D8.out).mono ?_
    rintro e18 w18 ⟨rfl, hb18⟩
    have HB18 := Lib.hid (HB17.out.trans (hb18.mono HB17.out.size))
    have HQ18 := HQ17.out.below hb18 (by omega)
    have D9 := sum_any HQ18 hAm
    rw [HS.out] at D9
    have D9 := Lib.hid D9
    clear hb18 HQ18
    refine hK.out _ _ ?_ (fun hHeld => ?_)
    · exact trivial
    clear hK K
    try simp only [Act.put, List.setIfInBounds_toArray, List.set_cons_zero, List.set_cons_succ]
    refine wpAnyH_ready (rs := [40]) (by kernel_rfl) (by simp) ?_
    refine AllReadyH.cons (o := _) rfl (fun K hK => ?_) AllReadyH.nil
    go_simp
    with_reducible refine (D9.out).mono ?_
    rintro e19 w19 ⟨rfl, hb19⟩
    have HB19 := Lib.hid (HB18.out.trans (hb19.mono HB18.out.size))
    clear hb19
    refine hK.out _ _ ?_ (fun hHeld => ?_)
    · exact trivial
    clear hK K
    try simp only [Act.put, List.setIfInBounds_toArray, List.set_cons_zero, List.set_cons_succ]
    refine takeD (i := 41) (oi := _) (d := some 111) (v := ?_) rfl (by kernel_rfl) (by kernel_rfl) (by kernel_rfl) (by kernel_rfl) (fun _ _ _ h => h) (Or.inl ⟨by kernel_rfl, ?_⟩) (by assumption) ?_
    rotate_left
    focus (intro w' hSw; (try dsimp only at hSw); go_simp <;> with_reducible rfl)
    try simp only [Act.put, List.setIfInBounds_toArray, List.set_cons_zero, List.set_cons_succ]
    refine takeD (i := 42) (oi := _) (d := some 112) (v := ?_) rfl (by kernel_rfl) (by kernel_rfl) (by kernel_rfl) (by kernel_rfl) (fun _ _ _ h => h) (Or.inl ⟨by kernel_rfl, ?_⟩) (by assumption) ?_
    rotate_left
    focus (intro w' hSw; (try dsimp only at hSw); go_simp <;> with_reducible rfl)
    try simp only [Act.put, List.setIfInBounds_toArray, List.set_cons_zero, List.set_cons_succ]
    refine takeD (i := 43) (oi := _) (d := some 4) (v := ?_) rfl (by kernel_rfl) (by kernel_rfl) (by kernel_rfl) (by kernel_rfl) (fun _ _ _ h => h) (Or.inl ⟨by kernel_rfl, ?_⟩) (by assumption) ?_
    rotate_left
    focus (intro w' hSw; (try dsimp only at hSw); go_simp <;> with_reducible rfl)
    try simp only [Act.put, List.setIfInBounds_toArray, List.set_cons_zero, List.set_cons_succ]
    refine wpAnyH_done (by kernel_rfl) ?_ _
    go_wp2
    go_ret
    exact ⟨rfl, HB19.out⟩
end Go.Proofs.Ytmkmhipndenfaaa
