/- The law TapeAcks, walked: an acknowledgement is known from its tick on, and the first of several counts. -/
import Derived.Test.YtllajjlhdjhmfaaT14
namespace Go.Proofs.Ytllajjlhdjhmfaa
open Go.RowKit

theorem Own2.lt_size {w : World} {B : Nat} {e : TypeId} {v : Value} {xs : List (Value × Value)} (h : Own2 w B e v xs) : ∀ k, v.ownBlock = some k → B ≤ k ∧ k < w.heap.size := by
  intro k hk
  rcases h.2 with ⟨rfl, _⟩ | ⟨g, cap, cur, rfl, hg, hh, _⟩
  · simp [Value.ownBlock] at hk
  · simp only [Value.ownBlock, Option.some.injEq] at hk
    subst hk
    exact ⟨hg, (Array.getElem?_eq_some_iff.1 hh).1⟩
theorem Own2.shapeL {w : World} {B n : Nat} {e : TypeId} {v : Value} {xs : List (Value × Value)} (h : Own2 w B e v xs) (hn : xs.length = n) : ∃ A c, v = .slice A n c := by
  subst hn
  exact h.shape
theorem P2.any {w : World} {S : Nat → Prop} {v : Value} {xs : List (Value × Value)} (h : P2 w S v xs) : ∃ A n c, v = .slice A n c := by
  obtain ⟨A, c, hv⟩ := h.shape
  exact ⟨A, _, c, hv⟩
theorem Own2.below {w w' : World} {B : Nat} {e : TypeId} {v : Value} {xs : List (Value × Value)} (h : Own2 w B e v xs) (hb : Below w.heap.size w w') : Own2 w' B e v xs := by
  obtain ⟨h1, h2⟩ := h
  refine ⟨h1, ?_⟩
  rcases h2 with h2 | ⟨g, cap, cur, hv, hg, hh, r⟩
  · exact .inl h2
  · exact .inr ⟨g, cap, cur, hv, hg, (hb.block g (Array.getElem?_eq_some_iff.1 hh).1).trans hh, r⟩
theorem one_cell_block {w : World} {b : Nat} {x : Value} {T : TypeId} (h : w.heap[b]? = some (.cells #[x] T (0, 0))) : w.cell? ⟨b, 0, none⟩ = some x := by rw [cell_of_row w b _ _ _ _ h]; rfl

set_option maxRecDepth 100000 in
set_option maxHeartbeats 16000000 in
theorem acks_walk {xs : List (Int × Int)} {ids : List Int} {u0 v0 : Value} {w : World} {now : Int} (hx : P2 w (fun b => b < w.heap.size) u0 (av xs)) (hn : xs.length ≤ 8796093022206) (hi : Cs w w.heap.size v0 (ids.map (Value.int .u64))) :
    Calls Try.prog 5 #[u0, v0, .int .i64 now] w fun e w' => e = .returned (.bool true) ∧ Below w.heap.size w w' := by
  have hp0 : P2 (w.alloc (.cells #[.int .i64 5, .int .u64 1, .int .i64 3, .int .u64 1] 76)) (fun _ => True) (.slice (some ⟨w.heap.size, 0, none⟩) 2 2) (av [(5, 1), (3, 1)]) :=
    ⟨_, 2, rfl, Nat.le_refl _, by unfold maxLen; omega, fun _ => ⟨_, 0, rfl, by simp, trivial, fun j hj => by
      rw [cell_of_row _ _ _ _ 76 (0, 0) (heap_alloc_new w _), cell_of_row _ _ _ _ 76 (0, 0) (heap_alloc_new w _)]
      have hj2 : j < 2 := hj
      rcases (by omega : j = 0 ∨ j = 1) with rfl | rfl <;> exact ⟨rfl, rfl⟩⟩⟩
  have C0 := Lib.hid (newacks_any hp0 (by simp))
  have HX := Lib.hid hx; have HI := Lib.hid hi
  have hb0 : Below w.heap.size w (w.alloc (.cells #[.int .i64 5, .int .u64 1, .int .i64 3, .int .u64 1] 76)) := (Below.refl _ _).alloc (Nat.le_refl _) _
  obtain ⟨A0, c0, rfl⟩ := hx.lenA
  obtain ⟨Ai, ci, hvi, hi1, hi2, hi3⟩ := hi
  rw [List.length_map] at hvi hi1
  subst hvi
  unfold maxLen at hi2
  clear hp0 hx hi3
  go_enter Try.func5, Try.ntmps5
  go_wp2_with fail
  refine (C0.out).mono ?_
  rintro e w1 ⟨v1, he1, hp1, hbb1⟩
  have hk0 : ackE [(5, 1), (3, 1)] = 0 := by decide
  rw [hk0] at he1
  rw [keptA, if_pos hk0] at hp1
  subst he1
  have hb1 := hb0.trans (hbb1.mono hb0.size)
  have hz1 := hb1.size
  obtain ⟨A1, n1, c1, rfl⟩ := hp1.any
  have HP1 := Lib.hid (hp1.al (.cells #[.slice A1 n1 c1] 71))
  have HB1 := Lib.hid (hb1.alloc hz1 (.cells #[.slice A1 n1 c1] 71))
  have HG1 := Lib.hid (heap_alloc_new w1 (.cells #[.slice A1 n1 c1] 71))
  have C1 := Lib.hid (acked_any (id := 1) (now := 2) HP1.out (by simp))
  rw [show ((firstL [(5, 1), (3, 1)] 1).2 && decide ((firstL [(5, 1), (3, 1)] 1).1 ≤ 2)) = false by decide] at C1
  obtain ⟨g, hg⟩ : ∃ g, g = w1.heap.size := ⟨_, rfl⟩
  have HGE := Lib.hid hg
  clear hp1 hbb1 hb0 C0 hb1 hk0 hg
  go_wp2_with fail
  with_reducible refine (C1.out).mono ?_
  rintro e w2 ⟨rfl, hb2⟩
  have HP2 := Lib.hid (HP1.out.below hb2 (Nat.le_refl _))
  have HB2 := Lib.hid (HB1.out.trans (hb2.mono HB1.out.size))
  have HG2 := Lib.hid ((hb2.block w1.heap.size (by simp)).trans HG1.out)
  have C2 := Lib.hid (acked_any (id := 1) (now := 3) HP2.out (by simp))
  rw [show ((firstL [(5, 1), (3, 1)] 1).2 && decide ((firstL [(5, 1), (3, 1)] 1).1 ≤ 3)) = true by decide] at C2
  have k2 := one_cell_block HG2.out
  clear hb2 C1 HP1 HB1 HG1
  go_wp2_with fail
  with_reducible refine (C2.out).mono ?_
  rintro e w3 ⟨rfl, hb3⟩
  have HB3 := Lib.hid (HB2.out.trans (hb3.mono HB2.out.size))
  have HG3 := Lib.hid ((hb3.block w1.heap.size (Array.getElem?_eq_some_iff.1 HG2.out).1).trans HG2.out)
  have C3 := Lib.hid (lawacks_any (HX.out.below HB3.out (Nat.le_refl _)) hn)
  clear hb3 C2 HP2 HB2 HG2 k2
  go_wp2_with fail
  with_reducible refine (C3.out).mono ?_
  rintro e w4 ⟨u4, rfl, ho4, hb4⟩
  have HB4 := Lib.hid (HB3.out.trans (hb4.mono HB3.out.size))
  have hg3 := (Array.getElem?_eq_some_iff.1 HG3.out).1
  have HG4 := Lib.hid ((hb4.block w1.heap.size hg3).trans HG3.out)
  have HO4 := Lib.hid ho4
  have C4 := Lib.hid (newacks_any ho4.p2 (by omega))
  have HL3 : Hid (w1.heap.size < w3.heap.size) := Lib.hid hg3
  have HZ34 := Lib.hid hb4.size
  obtain ⟨A4, c4, rfl⟩ := ho4.shapeL (av_len xs)
  clear hb4 C3 HB3 HG3 ho4 hg3
  go_wp2_with fail
  with_reducible refine (C4.out).mono ?_
  rintro e w5 ⟨v5, rfl, hp5, hb5⟩
  obtain ⟨ek, hek⟩ : ∃ ek, ackE xs = ek := ⟨_, rfl⟩
  have HEK := Lib.hid hek
  rw [hek]
  have HB5 := Lib.hid (HB4.out.trans (hb5.mono HB4.out.size))
  have HG5 := Lib.hid ((hb5.block w1.heap.size (Array.getElem?_eq_some_iff.1 HG4.out).1).trans HG4.out)
  have HO5 := Lib.hid (HO4.out.below hb5)
  obtain ⟨A5, n5, c5, rfl⟩ := hp5.any
  have hr5 := HG5.out
  have k5 := one_cell_block hr5
  have f5 := frozen_of_row w5 w1.heap.size 0 _ _ hr5
  have hr6 : (w5.setCell ⟨w1.heap.size, 0, none⟩ (.slice A5 n5 c5)).heap[w1.heap.size]? = some (.cells #[.slice A5 n5 c5] 71 (0, 0)) := by
    rw [heap_setCell_same w5 w1.heap.size 0 _ _ _ hr5]; rfl
  have HG6 := Lib.hid hr6
  have HB6 := Lib.hid (below_set HB5.out hz1 0 (.slice A5 n5 c5))
  have HP6 := Lib.hid (hp5.set w1.heap.size 0 (.slice A5 n5 c5) (fun b hb => by have := HL3.out; have := HO4.out; have h4 := HB4.out; have := Nat.lt_of_lt_of_le HL3.out HZ34.out; omega))
  have HO6 : Hid (Own2 (w5.setCell ⟨w1.heap.size, 0, none⟩ (.slice A5 n5 c5)) w3.heap.size 76 (.slice A4 xs.length c4) (av xs)) := Lib.hid (World.ownsRow.kept HO5.out (set_grew w5 w1.heap.size 0 _) (by
    cases hq : (Value.slice A4 xs.length c4).ownBlock with
    | none => exact .inl rfl
    | some k => right; intro e; simp only [Option.some.injEq] at e; have := (HO5.out.lt_size k hq).1; have := HL3.out; omega))
  have HLT6 : Hid (∀ k, (Value.slice A4 xs.length c4).ownBlock = some k → w1.heap.size < k ∧ w.heap.size ≤ k ∧ k < w4.heap.size) := Lib.hid (fun k hk => by have h := HO4.out.lt_size k hk; have := HL3.out; exact ⟨by omega, by omega, h.2⟩)
  clear hr5 hr6 hp5 hb5 C4 HB5 HG5 HO5 HO4 HG4
  go_wp2_with fail
  generalize w5.setCell ⟨w1.heap.size, 0, none⟩ (.slice A5 n5 c5) = W6 at HG6 HB6 HP6 HO6 ⊢
  clear k5 f5
  obtain ⟨n, hnn⟩ : ∃ n, n = xs.length := ⟨_, rfl⟩
  have HNN := Lib.hid hnn
  rw [← hnn] at hn HO6 HLT6 ⊢
  clear hnn
  clear hek
  go_loopw [45] (fun i wr => ∃ (k : Nat), k ≤ n ∧ i = .int .i64 k ∧ Hid (∃ zs : List (Int × Int), zs.length = n ∧ Own2 wr w3.heap.size 76 (.slice A4 n c4) (av zs)) ∧ Hid (W6.grownBy wr (Value.slice A4 n c4).ownBlock)) (fun i _ => n - (intOf i).toNat)
  case atStart => exact ⟨0, Nat.zero_le _, rfl, Lib.hid ⟨xs, HNN.out.symm, HO6.out⟩, Lib.hid (World.grownBy.refl W6 _)⟩
  case round =>
    obtain ⟨k, hk, rfl, hown, hgr⟩ := hrel
    by_cases hlt : k < n
    · obtain ⟨zs, hzl, ho⟩ := hown.out
      obtain ⟨g4, rfl, hg4, hg4l, e0, e1, f0, f1, hset⟩ := ho.at2 (j := k) (by rw [av_len]; omega)
      rw [av_at] at e0 e1
      have hset2 : ∀ z : Int, ∃ zs : List (Int × Int), zs.length = n ∧ Own2 ((wr.setCell ⟨g4, k * 2, none⟩ (.int .i64 1)).setCell ⟨g4, k * 2 + 1, none⟩ (.int .u64 z)) w3.heap.size 76 (.slice (some ⟨g4, 0, none⟩) n c4) (av zs) := fun z => ⟨zs.set k (1, z), by simpa using hzl, by
        have h := hset (.int .i64 1) (.int .u64 z)
        have e : av (zs.set k (1, z)) = (av zs).set k (.int .i64 1, .int .u64 z) := by simp [av, List.map_set]
        rw [e]; exact h⟩
      have hgr2 : ∀ z : Int, W6.grownBy ((wr.setCell ⟨g4, k * 2, none⟩ (.int .i64 1)).setCell ⟨g4, k * 2 + 1, none⟩ (.int .u64 z)) (some g4) := fun z => grew_trans (grew_trans hgr.out (set_grew _ _ _ _)) (set_grew _ _ _ _)
      have HS2 := Lib.hid hset2; have HG2 := Lib.hid hgr2
      obtain ⟨p, hp⟩ : ∃ p, (zs[k]'(by omega)).1 = p := ⟨_, rfl⟩
      obtain ⟨q, hq⟩ : ∃ q, (zs[k]'(by omega)).2 = q := ⟨_, rfl⟩
      have e0' : wr.cell? ⟨g4, k * 2, none⟩ = some (.int .i64 p) := by rw [← hp]; exact e0
      have e1' : wr.cell? ⟨g4, k * 2 + 1, none⟩ = some (.int .u64 q) := by rw [← hq]; exact e1
      have i0 : (0 : Int) ≤ (k : Int) := by omega
      have i1 : (k : Int) < (n : Int) := by omega
      clear hset hset2 hgr2 ho hown hgr e0 e1 hp hq hzl
      go_wp2
      go_roundw
      case rel => exact ⟨k + 1, by omega, by go_num, Lib.hid (HS2.out _), Lib.hid (HG2.out _)⟩
      case measure => simp [intOf]; omega
    · obtain ⟨wo, rfl⟩ : ∃ wo : World, wo = wr := ⟨_, rfl⟩
      have hne : ∀ b, w4.heap.size ≤ b → (Value.slice A4 n c4).ownBlock ≠ some b := fun b hb e => by have := (HLT6.out b e).2.2; omega
      have HP7 := Lib.hid (HP6.out.grown hgr.out hne)
      have HB7 := Lib.hid (HB6.out.grown hgr.out HB6.out.size (fun j hj => (HLT6.out j hj).2.1))
      have HG7 := Lib.hid (keep_block hgr.out HG6.out (fun e => by have := (HLT6.out _ e).1; omega))
      have C7 := Lib.hid (refacks_any (HX.out.below HB7.out (Nat.le_refl _)) (by have := HNN.out; omega))
      rw [HEK.out, ← HNN.out] at C7
      have hkk : (ek != ek) = false := by simp
      clear hne hgr hown
      go_wp2_with fail
      with_reducible refine (C7.out).mono ?_
      rintro e w7 ⟨rfl, rfl⟩
      clear C7
      go_wp2_with fail
      go_loopw [66] (fun i W => ∃ (k : Nat), k ≤ ids.length ∧ i = .int .i64 k ∧ Hid (Below wo.heap.size wo W)) (fun i _ => ids.length - (intOf i).toNat)
      case atStart => exact ⟨0, Nat.zero_le _, rfl, Lib.hid (Below.refl _ _)⟩
      case round =>
        obtain ⟨q, hq, rfl, hbe⟩ := hrel
        by_cases hlq : q < ids.length
        · obtain ⟨A', c', hv', _, _, hic⟩ := HI.out
          obtain ⟨bi, oi, rfl, hbi, hcell⟩ := hic (by rw [List.length_map]; omega)
          simp only [Value.slice.injEq] at hv'
          obtain ⟨rfl, hj1, rfl⟩ := hv'
          have hbw := HB7.out.trans (hbe.out.mono HB7.out.size)
          have k0 := (hbw.cell (p := ⟨bi, oi + q, none⟩) hbi).trans (hcell q (by rw [List.length_map]; omega))
          rw [List.getElem_map] at k0
          obtain ⟨id, hid⟩ : ∃ id, ids[q] = id := ⟨_, rfl⟩
          rw [hid] at k0
          clear hid hj1 hcell
          have HBW := Lib.hid hbw
          have hgl := (Array.getElem?_eq_some_iff.1 HG7.out).1
          have HGW := Lib.hid ((hbe.out.block w1.heap.size hgl).trans HG7.out)
          have HPW := Lib.hid (HP7.out.below hbe.out (Nat.le_refl _))
          have g0 := one_cell_block HGW.out
          by_cases hz : ek = 0
          · have hkp : keptA xs = xs := if_pos (by rw [HEK.out]; exact hz)
            have hp8 := HPW.out
            rw [hkp] at hp8
            have HP8 := Lib.hid hp8
            have he1 : (ek != 0) = false := by simp [hz]
            obtain ⟨⟨m, f⟩, hmf⟩ : ∃ p, firstL xs id = p := ⟨_, rfl⟩
            have HMF := Lib.hid hmf
            have c8 := first_acks (id := id) hp8 (by have := HNN.out; omega)
            rw [hmf] at c8
            have C8 := Lib.hid c8
            clear hkp hp8 hz hmf c8 hbw
            go_wp2_with fail
            with_reducible refine (C8.out).mono ?_
            rintro e w8 ⟨rfl, hb8⟩
            have c9 := reffirst_any (id := id) (HX.out.below (HBW.out.trans (hb8.mono HBW.out.size)) (Nat.le_refl _)) (by have := HNN.out; omega)
            rw [HMF.out, ← HNN.out] at c9
            have C9 := Lib.hid c9
            have hmm : (m != m) = false := by simp
            have HG8 := Lib.hid ((hb8.block w1.heap.size (Array.getElem?_eq_some_iff.1 HGW.out).1).trans HGW.out)
            have HB8 := Lib.hid (hbe.out.trans (hb8.mono hbe.out.size))
            have g8 := one_cell_block HG8.out
            have c10 := acked_any (id := id) (now := now) (HP8.out.below hb8 (Nat.le_refl _)) (by have := HNN.out; omega)
            rw [HMF.out] at c10
            have C10 := Lib.hid c10
            clear hb8 c9 c10 C8
            cases f
            · go_wp2_with fail
              with_reducible refine (C9.out).mono ?_
              rintro e w9 ⟨rfl, rfl⟩
              go_wp2_with fail
              with_reducible refine (C10.out).mono ?_
              rintro e w10 ⟨rfl, hb10⟩
              have HB10 := Lib.hid (HB8.out.trans (hb10.mono HB8.out.size))
              clear hb10
              go_wp2
              go_roundw
              case rel => exact ⟨q + 1, by omega, by go_num, HB10⟩
              case measure => simp [intOf]; omega
            · by_cases hmn : m ≤ now
              · have hmd : decide (m ≤ now) = true := by simpa using hmn
                rw [hmd] at C10
                go_wp2_with fail
                with_reducible refine (C9.out).mono ?_
                rintro e w9 ⟨rfl, rfl⟩
                go_wp2_with fail
                with_reducible refine (C10.out).mono ?_
                rintro e w10 ⟨rfl, hb10⟩
                have HB10 := Lib.hid (HB8.out.trans (hb10.mono HB8.out.size))
                clear hb10
                go_wp2
                go_roundw
                case rel => exact ⟨q + 1, by omega, by go_num, HB10⟩
                case measure => simp [intOf]; omega
              · have hmd : decide (m ≤ now) = false := by simpa using hmn
                rw [hmd] at C10
                go_wp2_with fail
                with_reducible refine (C9.out).mono ?_
                rintro e w9 ⟨rfl, rfl⟩
                go_wp2_with fail
                with_reducible refine (C10.out).mono ?_
                rintro e w10 ⟨rfl, hb10⟩
                have HB10 := Lib.hid (HB8.out.trans (hb10.mono HB8.out.size))
                clear hb10
                go_wp2
                go_roundw
                case rel => exact ⟨q + 1, by omega, by go_num, HB10⟩
                case measure => simp [intOf]; omega
          · have hkp : keptA xs = [] := if_neg (by rw [HEK.out]; exact hz)
            have hp8 := HPW.out
            rw [hkp] at hp8
            have HP8 := Lib.hid hp8
            have he1 : (ek != 0) = true := by rw [bne_iff_ne]; exact hz
            have c8 := first_acks (id := id) hp8 (by simp)
            rw [show firstL [] id = (0, false) from rfl] at c8
            have C8 := Lib.hid c8
            clear hkp hp8 hz c8 hbw
            go_wp2_with fail
            with_reducible refine (C8.out).mono ?_
            rintro e w8 ⟨rfl, hb8⟩
            have c9 := reffirst_any (id := id) (HX.out.below (HBW.out.trans (hb8.mono HBW.out.size)) (Nat.le_refl _)) (by have := HNN.out; omega)
            rw [← HNN.out] at c9
            obtain ⟨⟨m, f⟩, hmf⟩ : ∃ p, firstL xs id = p := ⟨_, rfl⟩
            rw [hmf] at c9
            have C9 := Lib.hid c9
            have HG8 := Lib.hid ((hb8.block w1.heap.size (Array.getElem?_eq_some_iff.1 HGW.out).1).trans HGW.out)
            have HB8 := Lib.hid (hbe.out.trans (hb8.mono hbe.out.size))
            have g8 := one_cell_block HG8.out
            have c10 := acked_any (id := id) (now := now) (HP8.out.below hb8 (Nat.le_refl _)) (by simp)
            rw [show ((firstL [] id).2 && decide ((firstL [] id).1 ≤ now)) = false from rfl] at c10
            have C10 := Lib.hid c10
            clear hb8 c9 c10 C8 hmf
            go_wp2_with fail
            with_reducible refine (C9.out).mono ?_
            rintro e w9 ⟨rfl, rfl⟩
            go_wp2_with fail
            with_reducible refine (C10.out).mono ?_
            rintro e w10 ⟨rfl, hb10⟩
            have HB10 := Lib.hid (HB8.out.trans (hb10.mono HB8.out.size))
            clear hb10
            go_wp2
            go_roundw
            case rel => exact ⟨q + 1, by omega, by go_num, HB10⟩
            case measure => simp [intOf]; omega
        · have HBF := Lib.hid (HB7.out.trans (hbe.out.mono HB7.out.size))
          go_wp2
          go_ret
          exact ⟨rfl, HBF.out⟩
end Go.Proofs.Ytllajjlhdjhmfaa
