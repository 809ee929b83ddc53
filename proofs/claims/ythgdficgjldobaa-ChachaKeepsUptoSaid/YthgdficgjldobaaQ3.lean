/- ChachaKeeps, walked. -/
import Derived.Test.YthgdficgjldobaaQ2
import Derived.Test.YthgdficgjldobaaDXC
import Derived.Test.YthgdficgjldobaaC4
import Derived.Test.YthgdficgjldobaaEqualsT
namespace Go.Proofs.Ythgdficgjldobaa
open Go.RowKit

theorem listsC_pos (a b : List UInt8) : 3 ≤ (listsC a b).length ∧ (listsC a b).length ≤ 5 := by
  unfold listsC
  split <;> simp
theorem OwnRs.keptBelow {w w' : World} {B : Nat} {v : Value} {ls : List (List UInt8)} {r : Option Nat} (h : OwnRs w B v ls) (hg : w.grownBy w' r) (hr : ∀ j, r = some j → j < B) : OwnRs w' B v ls := by
  have hne : ∀ (n : Nat) (e : TypeId) (x : Value) (xs : List Value), w.ownsRow B e 1 x n xs → x.ownBlock = none ∨ x.ownBlock ≠ r := by
    intro n e x xs hx
    cases hv : x.ownBlock with
    | none => exact .inl rfl
    | some j =>
      refine .inr (fun e => ?_)
      have h1 := (hx.lt j hv).1
      have h2 := hr j e.symm
      omega
  obtain ⟨xs, ho, hx, he⟩ := h
  exact ⟨xs, ho.kept hg (hne _ _ _ _ ho), hx, fun j h h' => (he j h h').kept hg (hne _ _ _ _ (he j h h'))⟩
theorem equals_same {ls : List (List UInt8)} {va vb : Value} {w : World} {B1 B2 : Nat} (ha : Rs w B1 va ls) (hb : Rs w B2 vb ls) :
    Calls Try.prog 31 #[va, vb] w fun e w' => e = .returned (.bool true) ∧ Drew w w' := by
  have C := equals_any ha hb
  rw [decide_eq_true rfl] at C
  exact C
theorem Dv.rs {w : World} {R B n : Nat} {v : Value} {ps : List (Value × List UInt8)} {ls : List (List UInt8)} (h : Dv w R B v n ps) (hR : B ≤ R) (hp : ps.map (·.2) = ls) : Rs w w.heap.size v ls := by
  rw [← hp]; exact (h.ownRs hR).rs
theorem Dv.upper {w : World} {R B n : Nat} {v : Value} {ps : List (Value × List UInt8)} (h : Dv w R B v n ps) : ∀ p ∈ ps, ∀ j, p.1.ownBlock = some j → j < w.heap.size := fun p hp j hj => (ownLt (h.acc.own p hp) hj).2
theorem mem_of_map {ps : List (Value × List UInt8)} {ls : List (List UInt8)} (h : ps.map (·.2) = ls) {p : Value × List UInt8} (hp : p ∈ ps) : p.2 ∈ ls := by
  rw [← h]; exact List.mem_map_of_mem hp

set_option maxRecDepth 100000 in
set_option maxHeartbeats 4000000 in
theorem chachakeeps_walk {a b : List UInt8} {u v : Value} {w : World} (ha : Bs w w.heap.size u a) (hb : Bs w w.heap.size v b) (hla : a.length ≤ 1048576) (hlb : b.length ≤ 1048576) :
    Calls Try.prog 8 #[u, v] w fun e w' => e = .returned (.bool true) ∧ Below w.heap.size w w' := by
  have CA := Lib.hid (awake_any w)
  obtain ⟨AA, cA, rfl⟩ := ha.shape
  obtain ⟨AB, cB, rfl⟩ := hb.shape
  have HA := Lib.hid ha; have HBB := Lib.hid hb
  clear ha hb
  go_enter Try.func8, Try.ntmps8
  go_wp2_with fail
  with_reducible refine (CA.out).mono ?_
  rintro e0 w0 ⟨rfl, hb0⟩
  have hz0 := hb0.size
  have HB0 := Lib.hid hb0
  have C1 := Lib.hid (spare_any (HA.out.below hb0 (Nat.le_refl _)) hz0 (by omega))
  clear hb0 CA
  go_wp2_with fail
  with_reducible refine (C1.out).mono ?_
  rintro e1 w1 ⟨gX, rfl, hgx, hox, hb1⟩
  have hz1 := hb1.size
  have hb01 := HB0.out.trans (hb1.mono hz0)
  have HX1 := Lib.hid hox
  have hgx1 : gX < w1.heap.size := (own_lt hox (k := gX) rfl).2
  have C2 := Lib.hid (spare_any (HBB.out.below hb01 (Nat.le_refl _)) (by omega) (by omega))
  have HB1 := Lib.hid hb01
  clear hox hb1 hb01 C1 HB0
  go_wp2_with fail
  with_reducible refine (C2.out).mono ?_
  rintro e2 w2 ⟨gY, rfl, hgy, hoy, hb2⟩
  have K2 : Hid (KX w gX gY a b w2) := Lib.hid ⟨HB1.out.trans (hb2.mono (by omega)), (HX1.out.below hb2 (Nat.le_refl _)).more (by omega), hoy.more (by omega)⟩
  have hxy : gX < gY := by omega
  have hgy2 : gY < w2.heap.size := K2.out.ltY
  have hgxw : w.heap.size ≤ gX := by omega
  have h02 : w.heap.size ≤ w2.heap.size := by omega
  have hlp := listsC_pos a b
  obtain ⟨CL, hCL⟩ : ∃ CL, CL = listsC a b := ⟨_, rfl⟩
  obtain ⟨N, hN⟩ : ∃ N, N = CL.length := ⟨_, rfl⟩
  have hNN : N = (listsC a b).length := by rw [hN, hCL]
  rw [← hNN] at hlp
  obtain ⟨hN3, hN5⟩ := hlp
  have HNN := Lib.hid hNN
  have c3 := lists_any hNN K2.out.bx K2.out.by_ hla hlb
  rw [← hCL] at c3
  have C3 := Lib.hid c3
  have HCL := Lib.hid hCL
  have HNC := Lib.hid hN
  have HCB : Hid (∀ l ∈ CL, l.length ≤ 3000000) := Lib.hid (by rw [hCL]; exact fun l hl => by have := listsC_le a b l hl; omega)
  clear hoy hb2 C2 HX1 HB1 hCL hN hNN c3
  -- one
  go_wp2_with fail
  with_reducible refine (C3.out).mono ?_
  rintro e3 w3 ⟨r1, p1, rfl, hd3, hp1, hb3⟩
  have hz3 := hb3.size
  obtain ⟨A1, c1, rfl⟩ := hd3.shape
  have HP1 := Lib.hid hp1
  have K3 := Lib.hid (K2.out.below hb3)
  have D3 := Lib.hid hd3
  have U1 := Lib.hid hd3.upper
  have C4 := Lib.hid (copies_any (hd3.rs (Nat.le_refl _) hp1) (Nat.le_refl _) (by have := HNC.out; omega) (fun l hl => by have := HCB.out l hl; omega))
  clear hd3 hp1 hb3 C3 K2
  -- want
  go_wp2_with fail
  with_reducible refine (C4.out).mono ?_
  rintro e4 w4 ⟨wa, rfl, how, hb4⟩
  have hz4 := hb4.size
  obtain ⟨Aw, cw, rfl⟩ := how.shape
  have K4 := Lib.hid (K3.out.below hb4)
  have D4 := Lib.hid (D3.out.below hb4)
  have W4 := Lib.hid how
  have C5 := lists_any HNN.out K4.out.bx K4.out.by_ hla hlb
  rw [← HCL.out] at C5
  have C5 := Lib.hid C5
  clear how hb4 C4 K3 D3
  -- two
  go_wp2_with fail
  with_reducible refine (C5.out).mono ?_
  rintro e5 w5 ⟨r2, p2, rfl, hd5, hp2, hb5⟩
  have hz5 := hb5.size
  obtain ⟨A2, c2, rfl⟩ := hd5.shape
  have HP2 := Lib.hid hp2
  have K5 := Lib.hid (K4.out.below hb5)
  have D5 := Lib.hid (D4.out.below hb5)
  have W5 := Lib.hid (W4.out.below hb5 (Nat.le_refl _))
  have E5 := Lib.hid hd5
  have U2 := Lib.hid hd5.upper
  have C6 := Lib.hid (equals_same (hd5.rs (Nat.le_refl _) hp2) W5.out.rs)
  clear hd5 hp2 hb5 C5 K4 D4 W4
  go_wp2_with fail
  with_reducible refine (C6.out).mono ?_
  rintro e6 w6 ⟨rfl, hr6⟩
  have hb6 := hr6.below w5.heap.size
  have hz6 := hb6.size
  have K6 := Lib.hid (K5.out.below hb6)
  have D6 := Lib.hid (D5.out.below hb6)
  have W6 := Lib.hid (W5.out.below hb6 (Nat.le_refl _))
  have E6 := Lib.hid (E5.out.below hb6)
  have C7 := Lib.hid (kept_any K6.out.X.bs (HA.out.below K6.out.bel (Nat.le_refl _)) (by omega))
  clear hr6 hb6 C6 K5 D5 W5 E5
  go_wp2_with fail
  with_reducible refine (C7.out).mono ?_
  rintro e7 w7 ⟨rfl, hr7⟩
  have hb7 := hr7.below w6.heap.size
  have hz7 := hb7.size
  have K7 := Lib.hid (K6.out.below hb7)
  have D7 := Lib.hid (D6.out.below hb7)
  have W7 := Lib.hid (W6.out.below hb7 (Nat.le_refl _))
  have E7 := Lib.hid (E6.out.below hb7)
  have C8 := Lib.hid (kept_any K7.out.Y.bs (HBB.out.below K7.out.bel (Nat.le_refl _)) (by omega))
  clear hr7 hb7 C7 K6 D6 W6 E6
  go_wp2_with fail
  with_reducible refine (C8.out).mono ?_
  rintro e8 w8 ⟨rfl, hr8⟩
  have hb8 := hr8.below w7.heap.size
  have hz8 := hb8.size
  have K8 := Lib.hid (K7.out.below hb8)
  have D8 := Lib.hid (D7.out.below hb8)
  have W8 := Lib.hid (W7.out.below hb8 (Nat.le_refl _))
  have E8 := Lib.hid (E7.out.below hb8)
  have C9 := Lib.hid (over_pre (n := a.length) K8.out.X (by rw [fullS_len]; omega) (by rw [fullS_len]; omega))
  clear hr8 hb8 C8 K7 D7 W7 E7
  go_wp2_with fail
  with_reducible refine (C9.out).mono ?_
  rintro e9 w9 ⟨rfl, ⟨lx, hlx, ho9⟩, hg9⟩
  rw [fullS_len] at hlx
  have hz9 := hg9.size
  have hB9 := K8.out.bel.grown hg9 K8.out.bel.size (fun j hj => by simp only [Option.some.injEq] at hj; omega)
  have hy9 := K8.out.Y.kept hg9 (.inr (by simp [Value.ownBlock]; omega))
  have lt9 : ∀ j, (some gX : Option Nat) = some j → j < w2.heap.size := fun j hj => by simp only [Option.some.injEq] at hj; omega
  have D9 := Lib.hid (D8.out.kept hg9 (fun j hj => ⟨lt9 j hj, fun e => by have := (D8.out.lt e).1; have := lt9 j hj; omega⟩))
  have W9 := Lib.hid (W8.out.keptBelow hg9 (fun j hj => by have := lt9 j hj; omega))
  have E9 := Lib.hid (E8.out.kept hg9 (fun j hj => ⟨by have := lt9 j hj; omega, fun e => by have := (E8.out.lt e).1; have := lt9 j hj; omega⟩))
  have HX9 := Lib.hid ho9; have HB9 := Lib.hid hB9
  have C9b := Lib.hid (over_pre (n := b.length) hy9 (by rw [fullS_len]; omega) (by rw [fullS_len]; omega))
  have HLX : Hid (lx.length = a.length + 40) := Lib.hid hlx
  clear hg9 hB9 hy9 lt9 ho9 C9 K8 D8 W8 E8 hlx
  go_wp2_with fail
  with_reducible refine (C9b.out).mono ?_
  rintro e10 w10 ⟨rfl, ⟨ly, hly, ho10⟩, hg10⟩
  rw [fullS_len] at hly
  have hz10 := hg10.size
  have hB10 := HB9.out.grown hg10 HB9.out.size (fun j hj => by simp only [Option.some.injEq] at hj; omega)
  have hx10 := HX9.out.kept hg10 (.inr (by simp [Value.ownBlock]; omega))
  have lt10 : ∀ j, (some gY : Option Nat) = some j → j < w2.heap.size := fun j hj => by simp only [Option.some.injEq] at hj; omega
  have D10 := Lib.hid (D9.out.kept hg10 (fun j hj => ⟨lt10 j hj, fun e => by have := (D9.out.lt e).1; have := lt10 j hj; omega⟩))
  have W10 := Lib.hid (W9.out.keptBelow hg10 (fun j hj => by have := lt10 j hj; omega))
  have E10 := Lib.hid (E9.out.kept hg10 (fun j hj => ⟨by have := lt10 j hj; omega, fun e => by have := (E9.out.lt e).1; have := lt10 j hj; omega⟩))
  have HX10 := Lib.hid hx10; have HY10 := Lib.hid ho10; have HB10 := Lib.hid hB10
  have HLY : Hid (ly.length = b.length + 40) := Lib.hid hly
  have C13 := Lib.hid (copy_any (HA.out.below hB10 (Nat.le_refl _)) hB10.size (by omega))
  clear hg10 hB10 hx10 lt10 ho10 C9b D9 W9 E9 hly HX9 HB9
  go_wp2_with fail
  with_reducible refine (C13.out).mono ?_
  rintro e13 w13 ⟨x13, rfl, ho13, hb13⟩
  have hz13 := hb13.size
  obtain ⟨A13, c13, rfl⟩ := ho13.shape
  have HO13 := Lib.hid ho13
  have HB13 := Lib.hid hb13
  have C14 := Lib.hid (copy_any (HBB.out.below (HB10.out.trans (hb13.mono HB10.out.size)) (Nat.le_refl _)) (by have := HB10.out.size; omega) (by omega))
  clear ho13 hb13 C13
  go_wp2_with fail
  with_reducible refine (C14.out).mono ?_
  rintro e14 w14 ⟨y14, rfl, ho14, hb14⟩
  have hz14 := hb14.size
  obtain ⟨A14, c14, rfl⟩ := ho14.shape
  have HB14 := Lib.hid (HB13.out.trans (hb14.mono (by omega)))
  have C15 := lists_any HNN.out ((HO13.out.below hb14 (Nat.le_refl _)).bs) ho14.bs hla hlb
  rw [← HCL.out] at C15
  have C15 := Lib.hid C15
  clear ho14 hb14 C14 HB13 HO13
  go_wp2_with fail
  with_reducible refine (C15.out).mono ?_
  rintro e15 w15 ⟨r3, p3, rfl, hd15, hp3, hb15⟩
  have hz15 := hb15.size
  obtain ⟨A3, c3, rfl⟩ := hd15.shape
  have hb10_15 := HB14.out.trans (hb15.mono (by omega))
  have HP3 := Lib.hid hp3
  have F15 := Lib.hid hd15
  have HB15 := Lib.hid hb10_15
  have C11 := Lib.hid (equals_same ((D10.out.below hb10_15).rs (Nat.le_refl _) HP1.out) (W10.out.below hb10_15 (Nat.le_refl _)).rs)
  clear hd15 hp3 hb15 hb10_15 C15 HB14
  go_wp2_with fail
  with_reducible refine (C11.out).mono ?_
  rintro e11 w11 ⟨rfl, hr11⟩
  have hb11 := hr11.below w15.heap.size
  have hz11 := hb11.size
  have HB11 := Lib.hid (HB15.out.trans (hb11.mono (by omega)))
  have F11 := Lib.hid (F15.out.below hb11)
  have C12 := Lib.hid (equals_same ((E10.out.below HB11.out).rs (Nat.le_refl _) HP2.out) (W10.out.below HB11.out (Nat.le_refl _)).rs)
  clear hr11 hb11 C11 F15 HB15
  go_wp2_with fail
  with_reducible refine (C12.out).mono ?_
  rintro e12 w12 ⟨rfl, hr12⟩
  have hb12 := hr12.below w11.heap.size
  have hz12 := hb12.size
  have HB12 := Lib.hid (HB11.out.trans (hb12.mono (by omega)))
  have F12 := Lib.hid (F11.out.below hb12)
  have C16 := Lib.hid (equals_same (F12.out.rs (by omega) HP3.out) (W10.out.below HB12.out (Nat.le_refl _)).rs)
  clear hr12 hb12 C12 F11 HB11
  go_wp2_with fail
  with_reducible refine (C16.out).mono ?_
  rintro e16 w16 ⟨rfl, hr16⟩
  have hb1216 := hr16.below w12.heap.size
  have hb16 := HB12.out.trans (hb1216.mono (by omega))
  have hz16 := hb16.size
  have F16' := F12.out.below hb1216
  have al : Below w16.heap.size w16 (w16.alloc (.cells #[.slice (some ⟨gX, 0, none⟩) (a.length + 40) (a.length + 40), .slice (some ⟨gY, 0, none⟩) (b.length + 40) (b.length + 40)] 28)) := (Below.refl _ _).alloc (Nat.le_refl _) _
  have hX16 := (HX10.out.below hb16 (Nat.le_refl _))
  have hY16 := (HY10.out.below hb16 (Nat.le_refl _))
  have accXY : Acc w16 w.heap.size [(.slice (some ⟨gX, 0, none⟩) (a.length + 40) (a.length + 40), lx), (.slice (some ⟨gY, 0, none⟩) (b.length + 40) (b.length + 40), ly)] := by
    refine ⟨fun p hp => ?_, List.pairwise_cons.2 ⟨fun p hp => ?_, List.pairwise_singleton _ _⟩⟩
    · simp only [List.mem_cons, List.not_mem_nil, or_false] at hp
      rcases hp with rfl | rfl
      · exact hX16
      · exact hY16
    · simp only [List.mem_cons, List.not_mem_nil, or_false] at hp
      subst hp
      intro j hj hk
      simp only [Value.ownBlock, Option.some.injEq] at hj hk
      omega
  have uXY : ∀ p ∈ [((.slice (some ⟨gX, 0, none⟩) (a.length + 40) (a.length + 40) : Value), lx), (.slice (some ⟨gY, 0, none⟩) (b.length + 40) (b.length + 40), ly)], ∀ j, p.1.ownBlock = some j → j < w2.heap.size := by
    intro p hp j hj
    simp only [List.mem_cons, List.not_mem_nil, or_false] at hp
    rcases hp with rfl | rfl
    all_goals
      simp only [Value.ownBlock, Option.some.injEq] at hj
      omega
  obtain ⟨XY, hXY⟩ : ∃ XY, XY = [((.slice (some ⟨gX, 0, none⟩) (a.length + 40) (a.length + 40) : Value), lx), (.slice (some ⟨gY, 0, none⟩) (b.length + 40) (b.length + 40), ly)] := ⟨_, rfl⟩
  have L16 : Dv (w16.alloc (.cells #[.slice (some ⟨gX, 0, none⟩) (a.length + 40) (a.length + 40), .slice (some ⟨gY, 0, none⟩) (b.length + 40) (b.length + 40)] 28)) w16.heap.size w.heap.size (.slice (some ⟨w16.heap.size, 0, none⟩) 2 2) 2 XY := by
    rw [hXY]
    exact Dv.lit accXY rfl (by unfold maxLen; omega)
  have LXY : Hid (∀ p ∈ XY, p.2.length ≤ 3000000) := Lib.hid (by
    rw [hXY]
    intro p hp
    simp only [List.mem_cons, List.not_mem_nil, or_false] at hp
    rcases hp with rfl | rfl
    · show lx.length ≤ _; rw [HLX.out]; omega
    · show ly.length ≤ _; rw [HLY.out]; omega)
  rw [← hXY] at uXY
  have hB16 := HB10.out.trans (hb16.mono HB10.out.size)
  have BA := Lib.hid (hB16.trans (al.mono hB16.size))
  have D16 := (D10.out.below hb16).below al
  have E16 := (E10.out.below hb16).below al
  have F16 := F16'.below al
  have u1lt : ∀ p ∈ XY ++ p1, ∀ j, p.1.ownBlock = some j → j < w4.heap.size := by
    intro p hp j hj
    rcases List.mem_append.1 hp with hp | hp
    · have := uXY p hp j hj; omega
    · have := U1.out p hp j hj; omega
  have u2lt : ∀ p ∈ (XY ++ p1) ++ p2, ∀ j, p.1.ownBlock = some j → j < w14.heap.size := by
    intro p hp j hj
    rcases List.mem_append.1 hp with hp | hp
    · have := u1lt p hp j hj; omega
    · have := U2.out p hp j hj; omega
  have AC1 := Lib.hid (L16.acc.app D16.acc uXY h02)
  have HD16 := Lib.hid D16; have HE16 := Lib.hid E16; have HF16 := Lib.hid F16; have HL16 := Lib.hid L16
  have V1 := Lib.hid u1lt; have V2 := Lib.hid u2lt
  have lt1 : ∀ j, (Value.slice A1 N c1).ownBlock = some j → j < w16.heap.size := fun j hj => ((D10.out.below hb16).lt hj).2
  have lt2 : ∀ j, (Value.slice A2 N c2).ownBlock = some j → j < w16.heap.size := fun j hj => ((E10.out.below hb16).lt hj).2
  have lt3 : ∀ j, (Value.slice A3 N c3).ownBlock = some j → j < w16.heap.size := fun j hj => (F16'.lt hj).2
  have LT1 := Lib.hid lt1; have LT2 := Lib.hid lt2; have LT3 := Lib.hid lt3
  clear hr16 hb16 al hX16 hY16 accXY uXY L16 D16 E16 F16 u1lt u2lt lt1 lt2 lt3 hXY hB16 C16 D10 E10 F12 HX10 HY10 W10 F16' hb1216 HB12
  go_wp2_with (at_builtin; with_reducible refine wpList_appD rfl (.tmp 76) (.tmp 77) rfl rfl HL16.out.row rfl HD16.out.row (by omega) AC1.out (by omega) (by simp) ?_)
  intro r17 w17 hd17 hg17
  have hz17 := hg17.size
  have D17 : Dv w17 w16.heap.size w.heap.size r17 (2 + N) (XY ++ p1) := hd17
  obtain ⟨A17, c17, rfl⟩ := D17.shape
  have E17 := HE16.out.rowGrown HL16.out hg17 LT2.out
  have F17 := HF16.out.rowGrown HL16.out hg17 LT3.out
  have BB := Lib.hid (BA.out.grown hg17 BA.out.size (fun j hj => by simp only [Value.ownBlock, Option.some.injEq] at hj; omega))
  have AC2 := Lib.hid (D17.acc.app E17.acc V1.out (by omega))
  have HD17 := Lib.hid D17; have HE17 := Lib.hid E17; have HF17 := Lib.hid F17
  clear hd17 hg17 D17 E17 F17 HL16 HD16 HE16 HF16 AC1 BA
  go_wp2_with (at_builtin; with_reducible refine wpList_appD rfl (.tmp 78) (.tmp 79) rfl rfl HD17.out.row rfl HE17.out.row (by omega) AC2.out (by omega) (by simp at hz17 ⊢; omega) ?_)
  intro r18 w18 hd18 hg18
  have hz18 := hg18.size
  have D18 : Dv w18 w16.heap.size w.heap.size r18 (2 + N + N) ((XY ++ p1) ++ p2) := by rw [List.append_assoc]; exact hd18
  obtain ⟨A18, c18, rfl⟩ := D18.shape
  have F18 := HF17.out.rowGrown HD17.out hg18 LT3.out
  have BC := Lib.hid (BB.out.grown hg18 BB.out.size (fun j hj => by have := (HD17.out.lt hj).1; omega))
  have AC3 := Lib.hid (D18.acc.app F18.acc V2.out (by omega))
  have HD18 := Lib.hid D18; have HF18 := Lib.hid F18
  clear hd18 hg18 D18 F18 HD17 HE17 HF17 AC2 BB
  go_wp2_with (at_builtin; with_reducible refine wpList_appD rfl (.tmp 80) (.tmp 81) rfl rfl HD18.out.row rfl HF18.out.row (by omega) AC3.out (by omega) (by simp at hz17; omega) ?_)
  intro r19 w19 hd19 hg19
  have hz19 := hg19.size
  have D19 : Dv w19 w16.heap.size w.heap.size r19 (2 + N + N + N) (((XY ++ p1) ++ p2) ++ p3) := by rw [List.append_assoc, List.append_assoc]; exact hd19
  have BD := Lib.hid (BC.out.grown hg19 BC.out.size (fun j hj => by have := (HD18.out.lt hj).1; omega))
  have CAP := Lib.hid (D19.apart (by omega) BD.out.size (by omega) (by
    intro p hp
    rcases List.mem_append.1 hp with hp | hp
    · rcases List.mem_append.1 hp with hp | hp
      · rcases List.mem_append.1 hp with hp | hp
        · have := LXY.out p hp; omega
        · have := HCB.out _ (mem_of_map HP1.out hp); omega
      · have := HCB.out _ (mem_of_map HP2.out hp); omega
    · have := HCB.out _ (mem_of_map HP3.out hp); omega))
  clear hd19 hg19 D19 HD18 HF18 AC3 BC
  go_wp2_with fail
  with_reducible refine (CAP.out).mono ?_
  rintro e20 w20 ⟨rfl, hb20⟩
  go_wp2
  go_ret
  exact ⟨rfl, BD.out.trans hb20⟩
end Go.Proofs.Ythgdficgjldobaa
