/- Parse of the program. -/
import Derived.Test.YtdaccdbehjhfgaaP5
import Derived.Test.YtdaccdbehjhfgaaLooksR
import Derived.Deep.Cut
namespace Go.Proofs.Ytdaccdbehjhfgaa
open Go.RowKit

theorem results_cell_tmp {P : Program} {fn : Func} {p q : Tmp} {ty : TypeId} (h : fn.results = #[.cell p ty, .tmp q]) (tmps : Array Value) (w : World) (g : Nat) (t : TypeId) (cs : Array Value) (fr : Nat × Nat) (d : TypeDesc) (v : Value)
    (hp : tmps.getD p undef = .pointer (some ⟨g, 0, none⟩)) (hq : tmps.getD q undef = v) (hg : w.heap[g]? = some (.cells cs t fr))
    (hu : P.underlying ty = some d) (hd : (match d with | .struct _ | .array _ _ => true | _ => false) = true) (hi : (P.info? ty).map (·.size) = some cs.size) :
    (results fn tmps).run P w = .ok (.tuple #[.agg cs, v]) w := by
  have hp' : tmps[p]?.getD undef = .pointer (some ⟨g, 0, none⟩) := by simpa using hp
  have hq' : tmps[q]?.getD undef = v := by simpa using hq
  simp [results, h, hp', hq', asAddr, run_loadVar_row w g t ty cs fr d hg hu hd hi]
/-- a part by its fields -/
structure Pt where
  k : Nat
  id : Nat
  i : Nat
  n : Nat
  d : List UInt8
def Pt.agg (p : Pt) (A : Option Addr) (c : Nat) : Value := .agg #[.int .u8 (p.k : Int), .int .u64 (p.id : Int), .int .i64 (p.i : Int), .int .i64 (p.n : Int), .slice A p.d.length c]
def Pt.chk (p : Pt) : Int := Proofs.Ytdaccdbehjhfgaa.chk p.k p.id (p.i : Int) (p.n : Int) p.d.length
def Pt.frm (p : Pt) : List UInt8 := if p.chk = 0 then frmL p.k p.id p.i p.n p.d else []
/-- what 480 bytes say -/
def rdP (l : List UInt8) : Pt := ⟨getP 2 1 l 16 1, getP 2 8 l 20 8, getP 2 1 l 17 1, getP 2 1 l 18 1, cutD l (getP 2 2 l 28 2)⟩
def eP (l : List UInt8) : Int := if l.length ≠ 480 then 2 else if l.take 16 ≠ zs 16 then 7 else if (rdP l).chk = 1 then 1 else if (rdP l).frm = l then 0 else 3
def parP (l : List UInt8) : Pt := if eP l = 0 then rdP l else ⟨0, 0, 0, 0, []⟩
theorem cutD_le (l : List UInt8) (N : Nat) : (cutD l N).length ≤ 450 := by
  unfold cutD
  split
  · rw [List.length_take]; omega
  · simp
theorem frame_any {p : Pt} {c B : Nat} {A : Option Addr} {w : World} (hd : Bs w B (.slice A p.d.length c) p.d) (hB : B ≤ w.heap.size) (hid : p.id < 18446744073709551616) (hL : p.d.length ≤ 281474976710656) :
    Calls Try.prog 14 #[p.agg A c] w fun e w' => ∃ A2 c2, e = .returned (.tuple #[.slice A2 p.frm.length c2, .int .i64 p.chk]) ∧ Own w' w.heap.size (.slice A2 p.frm.length c2) p.frm ∧ Below w.heap.size w w' := by
  unfold Pt.frm
  by_cases h : p.chk = 0
  · rw [if_pos h, h]
    refine (frame_ok hd hB hid h).mono ?_
    rintro e w' ⟨u, rfl, ho, hb⟩
    obtain ⟨A2, c2, rfl⟩ := ho.shape
    exact ⟨A2, c2, rfl, ho, hb⟩
  · rw [if_neg h]
    refine (frame_no hL h w).mono ?_
    rintro e w' ⟨rfl, hb⟩
    exact ⟨none, 0, rfl, Own.nil _ _, hb⟩
theorem five_below {B b : Nat} {w X : World} (h : Below B w X) (hb : B ≤ b) (v0 v1 v2 v3 v4 : Value) : Below B w (((((X.setCell ⟨b, 0, none⟩ v0).setCell ⟨b, 1, none⟩ v1).setCell ⟨b, 2, none⟩ v2).setCell ⟨b, 3, none⟩ v3).setCell ⟨b, 4, none⟩ v4) :=
  ((((h.setCell (p := ⟨b, 0, none⟩) hb _).setCell (p := ⟨b, 1, none⟩) hb _).setCell (p := ⟨b, 2, none⟩) hb _).setCell (p := ⟨b, 3, none⟩) hb _).setCell (p := ⟨b, 4, none⟩) hb _
theorem zero_end {l : List UInt8} {w X : World} {x : Int} (h : eP l = x) (hx : x ≠ 0) (hb : Below w.heap.size w X) :
    ∃ A c, (Ending.returned (.tuple #[.agg #[.int .u8 0, .int .u64 0, .int .i64 0, .int .i64 0, .slice none 0 0], .int .i64 x])) = .returned (.tuple #[(parP l).agg A c, .int .i64 (eP l)]) ∧ Own X w.heap.size (.slice A (parP l).d.length c) (parP l).d ∧ Below w.heap.size w X := by
  have e : parP l = ⟨0, 0, 0, 0, []⟩ := by unfold parP; rw [h, if_neg hx]
  rw [e, h]
  exact ⟨none, 0, rfl, Own.nil _ _, hb⟩
theorem bs16' (W : World) : Bs (W.alloc (.cells (madeCells #[Value.int .u8 0] 16) 5)) (W.heap.size + 1) (.slice (some ⟨W.heap.size, 0, none⟩) 16 16) (zs 16) := bs16 W
set_option maxRecDepth 100000 in
set_option maxHeartbeats 4000000 in
theorem parse_any {l : List UInt8} {v : Value} {w : World} {B : Nat} (hb : Bs w B v l) (hB : B ≤ w.heap.size) (hl : l.length ≤ 281474976710656) :
    Calls Try.prog 17 #[v] w fun e w' => ∃ A c, e = .returned (.tuple #[(parP l).agg A c, .int .i64 (eP l)]) ∧ Own w' w.heap.size (.slice A (parP l).d.length c) (parP l).d ∧ Below w.heap.size w w' := by
  obtain ⟨A, c, rfl⟩ := hb.shape
  obtain ⟨W0, hW0⟩ : ∃ W0, W0 = w.alloc (.cells #[.int .u8 0, .int .u64 0, .int .i64 0, .int .i64 0, .slice none 0 0] 25) := ⟨_, rfl⟩
  have hb0 : Below w.heap.size w W0 := by rw [hW0]; exact (Below.refl _ _).alloc (Nat.le_refl _) _
  have hp0 : Pz W0 w.heap.size := by rw [hW0]; exact heap_alloc_new w _
  have HL := Lib.hid (hb.below hb0 hB)
  have HRZ := Lib.hid (info25 0 0 0 0 (.slice none 0 0))
  obtain ⟨n, hn⟩ : ∃ n, n = l.length := ⟨_, rfl⟩
  rw [← hn] at HL hl ⊢
  have HP := Lib.hid hp0; have HB0 := Lib.hid hb0; have HN := Lib.hid hn; have HW0 := Lib.hid hW0
  clear hb hb0 hn hW0
  go_enter Try.func17, Try.ntmps17
  go_upto_region 1 with fail
  rw [← HW0.out]
  clear HW0
  by_cases h480 : n = 480
  · subst h480
    have hl480 : l.length = 480 := HN.out.symm
    have C1 := Lib.hid (newcursor_any HL.out (Nat.le_trans hB HB0.out.size) (by rw [hl480]; decide))
    clear hp0
    go_wp2_with fail
    with_reducible refine (C1.out).mono ?_
    rintro e1 w1 ⟨g, rfl, hcu, hb1⟩
    have hz0 : w.heap.size < W0.heap.size := (Array.getElem?_eq_some_iff.1 HP.out).1
    have hgw : w.heap.size < g := by obtain ⟨_, _, _, h1, _⟩ := hcu.cells; omega
    have HP1 : Hid (Pz w1 w.heap.size) := Lib.hid ((hb1.block _ hz0).trans HP.out)
    have HB1 := Lib.hid (HB0.out.trans (hb1.mono HB0.out.size))
    have HL1 := Lib.hid (HL.out.below hb1 (Nat.le_trans hB HB0.out.size))
    obtain ⟨E, hE⟩ : ∃ E, E = w1.heap.size := ⟨_, rfl⟩
    obtain ⟨Bc, hBc⟩ : ∃ Bc, Bc = W0.heap.size := ⟨_, rfl⟩
    rw [← hE, ← hBc] at hcu
    have C2 := take_ok (N := 16) hcu (by omega) (by omega)
    rw [List.drop_zero, Nat.zero_add] at C2
    have D2 : Hid (Calls Try.prog 43 #[.pointer (some ⟨g, 0, none⟩), .int .i64 16] w1 fun e w' => ∃ u, e = .returned (.tuple #[u, .int .i64 0]) ∧ Own w' w1.heap.size u (l.take 16) ∧ Cur w' Bc E g 94 [] l 16 ∧ w1.grownBy w' (some g)) := Lib.hid C2
    clear hcu hb1 hE hBc C2 C1 hz0 HL HB0 HP
    go_wp2_with fail
    with_reducible refine (D2.out).mono ?_
    rintro e2 w2 ⟨u2, rfl, ho2, hcu2, hg2⟩
    obtain ⟨A2, c2, rfl⟩ := ho2.shape
    have h16 : (l.take 16).length = 16 := by rw [List.length_take]; omega
    rw [h16] at ho2 ⊢
    have HP2 : Hid (Pz w2 w.heap.size) := Lib.hid ((hg2.block _ (Array.getElem?_eq_some_iff.1 HP1.out).1 (by simp; omega)).trans HP1.out)
    have HB2 := Lib.hid (HB1.out.grown hg2 HB1.out.size (fun j hj => by simp only [Option.some.injEq] at hj; omega))
    have HL2 : Hid (Bs w2 B (.slice A 480 c) l) := Lib.hid (by
      obtain ⟨A', c', hv, k1, k2, k3⟩ := HL1.out
      refine ⟨A', c', hv, k1, k2, fun hp => ?_⟩
      obtain ⟨b, off, rfl, hlt, hc⟩ := k3 hp
      refine ⟨b, off, rfl, hlt, fun j hj => ?_⟩
      rw [World.cell?_of_block (hg2.block b (by have := HB1.out.size; omega) (by simp; omega))]
      exact hc j hj)
    have HCU2 := Lib.hid hcu2
    have hmk := fun W => mk16 W
    have C3 := Lib.hid (same_any (ho2.bs.alloc (Nat.le_refl _) (.cells (madeCells #[Value.int .u8 0] 16) 5)) (bs16 w2))
    have hal2 : Below w2.heap.size w2 (w2.alloc (.cells (madeCells #[Value.int .u8 0] 16) 5)) := (Below.refl _ _).alloc (Nat.le_refl _) _
    have HAL2 := Lib.hid hal2
    clear ho2 hcu2 hg2 D2 h16 HP1 HB1 HL1 hal2
    go_wp2_with fail
    with_reducible refine (C3.out).mono ?_
    rintro e3 w3 ⟨rfl, hd3⟩
    have hb3 : Below w2.heap.size w2 w3 := HAL2.out.trans (hd3.below _)
    have hp3 : Pz w3 w.heap.size := (hb3.block _ (Array.getElem?_eq_some_iff.1 HP2.out).1).trans HP2.out
    have HP3 := Lib.hid hp3
    have HB3 := Lib.hid (HB2.out.trans (hb3.mono HB2.out.size))
    have HL3 := Lib.hid (HL2.out.below hb3 (Nat.le_trans hB HB2.out.size))
    have HCU3 := Lib.hid (HCU2.out.below hb3 (Nat.le_refl _))
    clear hb3 hd3 C3 HAL2 HP2 HB2 HL2 HCU2 hmk
    by_cases hzz : l.take 16 = zs 16
    · rw [decide_eq_true hzz]
      obtain ⟨P, hP⟩ : ∃ P, P = rdP l := ⟨_, rfl⟩
      obtain ⟨x, hx⟩ : ∃ x, x = P.chk := ⟨_, rfl⟩
      obtain ⟨F, hF⟩ : ∃ F, F = P.frm := ⟨_, rfl⟩
      have HEZ : Hid (eP l = if x = 1 then 1 else if F = l then 0 else 3) := Lib.hid (by
        unfold eP
        rw [if_neg (by rw [hl480]; simp), if_neg (by simp [hzz]), ← hP, ← hx, ← hF])
      have hidb : P.id < 18446744073709551616 := by rw [hP]; exact getP_lt 2 8 l 20 8
      have hdl : P.d.length ≤ 450 := by rw [hP]; exact cutD_le _ _
      have h4 : Calls Try.prog 45 #[.pointer (some ⟨g, 0, none⟩)] w3 fun e w' => ∃ A c, e = .returned (P.agg A c) ∧ Own w' w3.heap.size (.slice A P.d.length c) P.d ∧ w3.grownBy w' (some g) := by rw [hP]; exact fread_any HCU3.out hl480
      have h5 : ∀ (A : Option Addr) (c : Nat) (W : World), Bs W W.heap.size (.slice A P.d.length c) P.d → Calls Try.prog 14 #[P.agg A c] W fun e w' => ∃ A2 c2, e = .returned (.tuple #[.slice A2 F.length c2, .int .i64 x]) ∧ Own w' W.heap.size (.slice A2 F.length c2) F ∧ Below W.heap.size W w' := fun A c W hd => by rw [hF, hx]; exact frame_any hd (Nat.le_refl _) hidb (by omega)
      have HPP := Lib.hid hP
      clear hx hF hidb hP
      obtain ⟨k, id, i, n, d⟩ := P
      have HDL : Hid (d.length ≤ 450) := Lib.hid hdl
      have H4 : Hid (Calls Try.prog 45 #[.pointer (some ⟨g, 0, none⟩)] w3 fun e w' => ∃ A c, e = .returned (.agg #[.int .u8 (k : Int), .int .u64 (id : Int), .int .i64 (i : Int), .int .i64 (n : Int), .slice A d.length c]) ∧ Own w' w3.heap.size (.slice A d.length c) d ∧ w3.grownBy w' (some g)) := Lib.hid h4
      have H5 : Hid (∀ (A : Option Addr) (c : Nat) (W : World), Bs W W.heap.size (.slice A d.length c) d → Calls Try.prog 14 #[.agg #[.int .u8 (k : Int), .int .u64 (id : Int), .int .i64 (i : Int), .int .i64 (n : Int), .slice A d.length c]] W fun e w' => ∃ A2 c2, e = .returned (.tuple #[.slice A2 F.length c2, .int .i64 x]) ∧ Own w' W.heap.size (.slice A2 F.length c2) F ∧ Below W.heap.size W w') := Lib.hid h5
      have HZZ := Lib.hid hzz
      clear h4 h5 hdl hp3 hzz
      obtain ⟨L, hL⟩ : ∃ L, L = d.length := ⟨_, rfl⟩
      have HLD := Lib.hid hL
      go_wp2_with fail
      with_reducible refine (H4.out).mono ?_
      rintro e4 w4 ⟨A4, c4, rfl, ho4, hg4⟩
      have hz3 : w.heap.size < w3.heap.size := (Array.getElem?_eq_some_iff.1 HP3.out).1
      have hp4 : Pz w4 w.heap.size := (hg4.block _ hz3 (by simp; omega)).trans HP3.out
      have hb4 := HB3.out.grown hg4 HB3.out.size (fun j hj => by simp only [Option.some.injEq] at hj; omega)
      have hl4 : Bs w4 B (.slice A 480 c) l := by
        obtain ⟨A', c', hv, k1, k2, k3⟩ := HL3.out
        refine ⟨A', c', hv, k1, k2, fun hp => ?_⟩
        obtain ⟨b, off, rfl, hlt, hc⟩ := k3 hp
        refine ⟨b, off, rfl, hlt, fun j hj => ?_⟩
        rw [World.cell?_of_block (hg4.block b (by have := HB3.out.size; omega) (by simp; omega))]
        exact hc j hj
      have hz4 : w3.heap.size ≤ w4.heap.size := hg4.size
      have C5 := Lib.hid (H5.out A4 c4 (w4.alloc (.cells #[.int .u8 (k : Int), .int .u64 (id : Int), .int .i64 (i : Int), .int .i64 (n : Int), .slice A4 d.length c4] 25)) ((ho4.bs.alloc (Nat.le_refl _) _).more (by simp)))
      have hal : Below w4.heap.size w4 (w4.alloc (.cells #[.int .u8 (k : Int), .int .u64 (id : Int), .int .i64 (i : Int), .int .i64 (n : Int), .slice A4 d.length c4] 25)) := (Below.refl _ _).alloc (Nat.le_refl _) _
      have hrow := heap_alloc_new w4 (.cells #[.int .u8 (k : Int), .int .u64 (id : Int), .int .i64 (i : Int), .int .i64 (n : Int), .slice A4 d.length c4] 25)
      have HAL := Lib.hid hal; have HROW := Lib.hid hrow; have HP4 := Lib.hid hp4; have HB4 := Lib.hid hb4; have HL4 := Lib.hid hl4
      have HO4 := Lib.hid ((ho4.more (B' := w3.heap.size) (Nat.le_refl _)).alloc (.cells #[.int .u8 (k : Int), .int .u64 (id : Int), .int .i64 (i : Int), .int .i64 (n : Int), .slice A4 d.length c4] 25))
      clear H4 H5 ho4 hg4 hal hrow hp4 hb4 hl4 HP3 HB3 HL3 HCU3
      go_wp2_with fail
      with_reducible refine (C5.out).mono ?_
      rintro e5 w5 ⟨A5, c5, rfl, ho5, hb5⟩
      have hb5' : Below w4.heap.size w4 w5 := HAL.out.trans (hb5.mono HAL.out.size)
      have hp5 : Pz w5 w.heap.size := (hb5'.block _ (Array.getElem?_eq_some_iff.1 HP4.out).1).trans HP4.out
      have hr5 := (hb5.block w4.heap.size (by simp)).trans HROW.out
      have HP5 := Lib.hid hp5; have HR5 := Lib.hid hr5
      have HB5 := Lib.hid (HB4.out.trans (hb5'.mono HB4.out.size))
      have HL5 := Lib.hid (HL4.out.below hb5' (Nat.le_trans hB HB4.out.size))
      have HO5 := Lib.hid (HO4.out.below hb5 (Nat.le_refl _))
      have HF5 := Lib.hid ho5.bs
      clear hb5 hb5' C5 HAL HROW HP4 HB4 HL4 HO4 ho5
      by_cases hx1 : x = 1
      · have HE : Hid (eP l = 1) := Lib.hid (by rw [HEZ.out, if_pos hx1])
        subst hx1
        have s0 := cell_of_row _ _ 0 _ _ _ hp5
        have s1 := cell_of_row _ _ 1 _ _ _ hp5
        have s2 := cell_of_row _ _ 2 _ _ _ hp5
        have s3 := cell_of_row _ _ 3 _ _ _ hp5
        have s4 := cell_of_row _ _ 4 _ _ _ hp5
        have f0 := frozen_of_row _ w.heap.size 0 _ _ hp5
        have f1 := frozen_of_row _ w.heap.size 1 _ _ hp5
        have f2 := frozen_of_row _ w.heap.size 2 _ _ hp5
        have f3 := frozen_of_row _ w.heap.size 3 _ _ hp5
        have f4 := frozen_of_row _ w.heap.size 4 _ _ hp5
        simp at s0 s1 s2 s3 s4
        clear hp5 hr5
        go_wp2
        refine bodyPost_ret (results_cell_tmp rfl _ _ w.heap.size 25 #[.int .u8 0, .int .u64 0, .int .i64 0, .int .i64 0, .slice none 0 0] (0, 0) _ (.int .i64 1) rfl rfl (set5_row HP5.out) Try.underlying25 rfl HRZ.out) rfl ?_
        exact zero_end HE.out (by decide) (five_below HB5.out (Nat.le_refl _) _ _ _ _ _)
      · have hx1' : (x == 1) = false := by simpa using hx1
        have C6 := Lib.hid (same_any HF5.out HL5.out)
        have HX := Lib.hid hx1
        clear hp5 hr5 hx1
        go_wp2_with fail
        with_reducible refine (C6.out).mono ?_
        rintro e6 w6 ⟨rfl, hd6⟩
        have hb6 := hd6.below w5.heap.size
        have hp6 : Pz w6 w.heap.size := (hb6.block _ (Array.getElem?_eq_some_iff.1 HP5.out).1).trans HP5.out
        have hr6 := (hb6.block w4.heap.size (Array.getElem?_eq_some_iff.1 HR5.out).1).trans HR5.out
        have HP6 := Lib.hid hp6; have HR6 := Lib.hid hr6
        have HB6 := Lib.hid (HB5.out.trans (hb6.mono HB5.out.size))
        have HO6 := Lib.hid (HO5.out.below hb6 (Nat.le_refl _))
        clear hb6 hd6 C6 HP5 HR5 HB5 HO5 HL5 HF5
        by_cases hF : F = l
        · rw [decide_eq_true hF]
          have HE : Hid (eP l = 0) := Lib.hid (by rw [HEZ.out, if_neg HX.out, if_pos hF])
          have HRI := Lib.hid (info25 (k : Int) (id : Int) (i : Int) (n : Int) (.slice A4 d.length c4))
          have hfar : ∀ j, (Value.slice A4 d.length c4).ownBlock = some j → j ≠ w.heap.size := fun j hj => by have := (World.ownsRow.lt HO6.out j hj).1; omega
          have HFAR := Lib.hid hfar
          have HO7 := Lib.hid (HO6.out.more (B' := w.heap.size) (by omega))
          clear hF hfar
          have s0 := cell_of_row _ _ 0 _ _ _ hp6
          have s1 := cell_of_row _ _ 1 _ _ _ hp6
          have s2 := cell_of_row _ _ 2 _ _ _ hp6
          have s3 := cell_of_row _ _ 3 _ _ _ hp6
          have s4 := cell_of_row _ _ 4 _ _ _ hp6
          have f0 := frozen_of_row _ w.heap.size 0 _ _ hp6
          have f1 := frozen_of_row _ w.heap.size 1 _ _ hp6
          have f2 := frozen_of_row _ w.heap.size 2 _ _ hp6
          have f3 := frozen_of_row _ w.heap.size 3 _ _ hp6
          have f4 := frozen_of_row _ w.heap.size 4 _ _ hp6
          have r0 := cell_of_row _ _ 0 _ _ _ hr6
          have r1 := cell_of_row _ _ 1 _ _ _ hr6
          have r2 := cell_of_row _ _ 2 _ _ _ hr6
          have r3 := cell_of_row _ _ 3 _ _ _ hr6
          have r4 := cell_of_row _ _ 4 _ _ _ hr6
          simp at s0 s1 s2 s3 s4 r0 r1 r2 r3 r4
          clear hp6 hr6
          go_wp2
          refine bodyPost_ret (results_cell_tmp rfl _ _ w.heap.size 25 #[.int .u8 (k : Int), .int .u64 (id : Int), .int .i64 (i : Int), .int .i64 (n : Int), .slice A4 d.length c4] (0, 0) _ (.int .i64 0) rfl rfl (set5_row HP6.out) Try.underlying25 rfl HRI.out) rfl ?_
          have e : parP l = ⟨k, id, i, n, d⟩ := by unfold parP; rw [HE.out, if_pos rfl]; exact HPP.out.symm
          rw [e, HE.out]
          refine ⟨A4, c4, rfl, ?_, five_below HB6.out (Nat.le_refl _) _ _ _ _ _⟩
          have hk : ∀ (X : World) (q : Nat) (x : Value), Own X w.heap.size (.slice A4 d.length c4) d → Own (X.setCell ⟨w.heap.size, q, none⟩ x) w.heap.size (.slice A4 d.length c4) d := fun X q x h => h.kept (scGrown X w.heap.size q x) (by
            rcases hv : (Value.slice A4 d.length c4).ownBlock with _ | j
            · exact .inl rfl
            · right
              have := HFAR.out j hv
              intro e
              simp only [Option.some.injEq] at e
              omega)
          exact hk _ _ _ (hk _ _ _ (hk _ _ _ (hk _ _ _ (hk _ _ _ HO7.out))))
        · rw [decide_eq_false hF]
          have HE : Hid (eP l = 3) := Lib.hid (by rw [HEZ.out, if_neg HX.out, if_neg hF])
          clear hF
          have s0 := cell_of_row _ _ 0 _ _ _ hp6
          have s1 := cell_of_row _ _ 1 _ _ _ hp6
          have s2 := cell_of_row _ _ 2 _ _ _ hp6
          have s3 := cell_of_row _ _ 3 _ _ _ hp6
          have s4 := cell_of_row _ _ 4 _ _ _ hp6
          have f0 := frozen_of_row _ w.heap.size 0 _ _ hp6
          have f1 := frozen_of_row _ w.heap.size 1 _ _ hp6
          have f2 := frozen_of_row _ w.heap.size 2 _ _ hp6
          have f3 := frozen_of_row _ w.heap.size 3 _ _ hp6
          have f4 := frozen_of_row _ w.heap.size 4 _ _ hp6
          simp at s0 s1 s2 s3 s4
          clear hp6 hr6
          go_wp2
          refine bodyPost_ret (results_cell_tmp rfl _ _ w.heap.size 25 #[.int .u8 0, .int .u64 0, .int .i64 0, .int .i64 0, .slice none 0 0] (0, 0) _ (.int .i64 3) rfl rfl (set5_row HP6.out) Try.underlying25 rfl HRZ.out) rfl ?_
          exact zero_end HE.out (by decide) (five_below HB6.out (Nat.le_refl _) _ _ _ _ _)
    · rw [decide_eq_false hzz]
      have HE : Hid (eP l = 7) := Lib.hid (by unfold eP; rw [if_neg (by rw [hl480]; simp), if_pos hzz])
      clear hzz
      have s0 := cell_of_row _ _ 0 _ _ _ hp3
      have s1 := cell_of_row _ _ 1 _ _ _ hp3
      have s2 := cell_of_row _ _ 2 _ _ _ hp3
      have s3 := cell_of_row _ _ 3 _ _ _ hp3
      have s4 := cell_of_row _ _ 4 _ _ _ hp3
      have f0 := frozen_of_row _ w.heap.size 0 _ _ hp3
      have f1 := frozen_of_row _ w.heap.size 1 _ _ hp3
      have f2 := frozen_of_row _ w.heap.size 2 _ _ hp3
      have f3 := frozen_of_row _ w.heap.size 3 _ _ hp3
      have f4 := frozen_of_row _ w.heap.size 4 _ _ hp3
      simp at s0 s1 s2 s3 s4
      clear hp3
      go_wp2
      refine bodyPost_ret (results_cell_tmp rfl _ _ w.heap.size 25 #[.int .u8 0, .int .u64 0, .int .i64 0, .int .i64 0, .slice none 0 0] (0, 0) _ (.int .i64 7) rfl rfl (set5_row HP3.out) Try.underlying25 rfl HRZ.out) rfl ?_
      exact zero_end HE.out (by decide) (five_below HB3.out (Nat.le_refl _) _ _ _ _ _)
  · have HE : Hid (eP l = 2) := Lib.hid (by unfold eP; rw [if_pos (by rw [← HN.out]; exact h480)])
    have hnI : ¬ (n : Int) = 480 := by omega
    have s0 := cell_of_row _ _ 0 _ _ _ hp0
    have s1 := cell_of_row _ _ 1 _ _ _ hp0
    have s2 := cell_of_row _ _ 2 _ _ _ hp0
    have s3 := cell_of_row _ _ 3 _ _ _ hp0
    have s4 := cell_of_row _ _ 4 _ _ _ hp0
    have f0 := frozen_of_row _ w.heap.size 0 _ _ hp0
    have f1 := frozen_of_row _ w.heap.size 1 _ _ hp0
    have f2 := frozen_of_row _ w.heap.size 2 _ _ hp0
    have f3 := frozen_of_row _ w.heap.size 3 _ _ hp0
    have f4 := frozen_of_row _ w.heap.size 4 _ _ hp0
    simp at s0 s1 s2 s3 s4
    clear hp0 h480
    go_wp2
    refine bodyPost_ret (results_cell_tmp rfl _ _ w.heap.size 25 #[.int .u8 0, .int .u64 0, .int .i64 0, .int .i64 0, .slice none 0 0] (0, 0) _ (.int .i64 2) rfl rfl (set5_row HP.out) Try.underlying25 rfl HRZ.out) rfl ?_
    exact zero_end HE.out (by decide) (five_below HB0.out (Nat.le_refl _) _ _ _ _ _)
end Go.Proofs.Ytdaccdbehjhfgaa
