/- Block of the reference, walked: its beginning. -/
import Derived.Test.YthgdficgjldobaaB8
import Derived.Test.YthgdficgjldobaaRefPut
import Derived.Lib.SlBytesConst
import Derived.Deep.MidRow
import Derived.StillTailTactics
namespace Go.Proofs.Ythgdficgjldobaa
open Go.RowKit

theorem tab_cells {k j : Nat} {v : Value} (hk : k < 8) (hv : [.int .i64 (pl k 0 : Int), .int .i64 (pl k 1 : Int), .int .i64 (pl k 2 : Int), .int .i64 (pl k 3 : Int)][j]? = some v) : (#[.int .i64 0, .int .i64 4, .int .i64 8, .int .i64 12, .int .i64 1, .int .i64 5, .int .i64 9, .int .i64 13, .int .i64 2, .int .i64 6, .int .i64 10, .int .i64 14, .int .i64 3, .int .i64 7, .int .i64 11, .int .i64 15, .int .i64 0, .int .i64 5, .int .i64 10, .int .i64 15, .int .i64 1, .int .i64 6, .int .i64 11, .int .i64 12, .int .i64 2, .int .i64 7, .int .i64 8, .int .i64 13, .int .i64 3, .int .i64 4, .int .i64 9, .int .i64 14] : Array Value).toList[k * 4 + j]? = some v := by
  have hj : j < 4 := by
    rcases Nat.lt_or_ge j 4 with h | h
    · exact h
    · rw [List.getElem?_eq_none (by simpa using h)] at hv; cases hv
  rcases (show k = 0 ∨ k = 1 ∨ k = 2 ∨ k = 3 ∨ k = 4 ∨ k = 5 ∨ k = 6 ∨ k = 7 by omega) with rfl | rfl | rfl | rfl | rfl | rfl | rfl | rfl
  all_goals
    rcases (show j = 0 ∨ j = 1 ∨ j = 2 ∨ j = 3 by omega) with rfl | rfl | rfl | rfl
    all_goals exact hv
theorem OwnW.at16 {w : World} {B g n c j : Nat} {l : List UInt32} (h : OwnW w B (.slice (some ⟨g, 0, none⟩) n c) l) (hj : j < l.length) :
    w.cell? ⟨g, j, none⟩ = some (.int .u32 ((gw l j).toNat : Int)) ∧ w.frozen? ⟨g, j, none⟩ = false ∧ ∀ x : UInt32, OwnW (w.setCell ⟨g, j, none⟩ (.int .u32 (x.toNat : Int))) B (.slice (some ⟨g, 0, none⟩) n c) (l.set j x) := by
  obtain ⟨g', e, _, _, hc, hf, hs⟩ := h.at_ hj
  simp only [Option.some.injEq, Addr.mk.injEq] at e
  obtain ⟨rfl, _, _⟩ := e
  exact ⟨hc, hf, hs⟩
theorem bcell {W w1 : World} (hb : Below W.heap.size W w1) : (∀ b o, b < W.heap.size → w1.cell? ⟨b, o, none⟩ = W.cell? ⟨b, o, none⟩) ∧ (∀ b o, b < W.heap.size → w1.frozen? ⟨b, o, none⟩ = W.frozen? ⟨b, o, none⟩) :=
  ⟨fun b o h => hb.cell (p := ⟨b, o, none⟩) h, fun b o h => hb.frozen (p := ⟨b, o, none⟩) h⟩
/-- four cells written one after the other -/
theorem set4_row {W : World} {b : Nat} {t : TypeId} {z0 z1 z2 z3 v0 v1 v2 v3 : Value} (h : W.heap[b]? = some (.cells #[z0, z1, z2, z3] t (0, 0))) :
    ((((W.setCell ⟨b, 0, none⟩ v0).setCell ⟨b, 1, none⟩ v1).setCell ⟨b, 2, none⟩ v2).setCell ⟨b, 3, none⟩ v3).heap[b]? = some (.cells #[v0, v1, v2, v3] t (0, 0)) := by
  have h0 := heap_setCell_same W b 0 _ _ v0 h
  have h1 := heap_setCell_same _ b 1 _ _ v1 h0
  have h2 := heap_setCell_same _ b 2 _ _ v2 h1
  have h3 := heap_setCell_same _ b 3 _ _ v3 h2
  exact h3
theorem undrew {w w' : World} (h : Below w.drew.heap.size w.drew w') : Below w.heap.size w w' := ⟨h.os, h.tape, h.output, h.size, h.block⟩
/-- the first j of four places written anew -/
def setsJ (P : List Nat) (R : List UInt32) : Nat → List UInt32 → List UInt32
  | 0, L => L
  | j + 1, L => (setsJ P R j L).set (P.getD j 0) (R.getD j 0)
theorem setsJ_len (P : List Nat) (R : List UInt32) : ∀ (j : Nat) (L : List UInt32), (setsJ P R j L).length = L.length
  | 0, _ => rfl
  | j + 1, L => by rw [setsJ, List.length_set, setsJ_len P R j L]
theorem row4i {w : World} {g j p0 p1 p2 p3 : Nat} {t : TypeId} (h : w.heap[g]? = some (.cells #[.int .i64 (p0 : Int), .int .i64 (p1 : Int), .int .i64 (p2 : Int), .int .i64 (p3 : Int)] t (0, 0))) (hj : j < 4) : w.cell? ⟨g, j, none⟩ = some (.int .i64 (([p0, p1, p2, p3].getD j 0 : Nat) : Int)) := by
  rw [cell_of_row _ _ _ _ _ _ h]
  rcases (show j = 0 ∨ j = 1 ∨ j = 2 ∨ j = 3 by omega) with rfl | rfl | rfl | rfl <;> rfl
theorem row4w {w : World} {g j : Nat} {r0 r1 r2 r3 : UInt32} (h : Wq w g [r0, r1, r2, r3]) (hj : j < 4) : w.cell? ⟨g, j, none⟩ = some (.int .u32 (([r0, r1, r2, r3].getD j 0).toNat : Int)) := by
  rw [cell_of_row _ _ _ _ _ _ h]
  rcases (show j = 0 ∨ j = 1 ∨ j = 2 ∨ j = 3 by omega) with rfl | rfl | rfl | rfl <;> rfl
theorem OwnW.far {w : World} {B g' n c g i : Nat} {x : Value} {l : List UInt32} (h : OwnW w B (.slice (some ⟨g', 0, none⟩) n c) l) (hne : g' ≠ g) : OwnW (w.setCell ⟨g, i, none⟩ x) B (.slice (some ⟨g', 0, none⟩) n c) l := by
  obtain ⟨h1, h2⟩ := h
  refine ⟨h1, ?_⟩
  rcases h2 with h2 | ⟨gg, cap, cur, hv, hg, hh, r⟩
  · exact .inl h2
  · refine .inr ⟨gg, cap, cur, hv, hg, (Below.heap_setCell w ⟨g, i, none⟩ x gg ?_).trans hh, r⟩
    simp only [Value.slice.injEq, Option.some.injEq, Addr.mk.injEq] at hv
    show gg ≠ g
    omega
theorem Wq.far {w : World} {g g' i : Nat} {x : Value} {l : List UInt32} (h : Wq w g l) (hne : g ≠ g') : Wq (w.setCell ⟨g', i, none⟩ x) g l := (Below.heap_setCell w ⟨g', i, none⟩ x g hne).trans h
theorem Wq.below {w w' : World} {g : Nat} {l : List UInt32} (h : Wq w g l) (hb : Below w.heap.size w w') : Wq w' g l := (hb.block g ((Array.getElem?_eq_some_iff.1 h).1)).trans h
/-- a new block that holds the four words of a quarter round -/
def Q4 (Y wx : World) (s : Value) (r0 r1 r2 r3 : UInt32) : Prop :=
  ∃ g, s = .pointer (some ⟨g, 0, none⟩) ∧ Y.heap.size ≤ g ∧ g < wx.heap.size ∧ Wq wx g [r0, r1, r2, r3] ∧ Below Y.heap.size Y wx
theorem Q4.newA {Y w' : World} {r0 r1 r2 r3 : UInt32} (hb : Below Y.heap.size Y w') : Q4 Y (w'.alloc (.cells #[.int .u32 (r0.toNat : Int), .int .u32 (r1.toNat : Int), .int .u32 (r2.toNat : Int), .int .u32 (r3.toNat : Int)] 23)) (.pointer (some ⟨w'.heap.size, 0, none⟩)) r0 r1 r2 r3 :=
  ⟨_, rfl, hb.size, by simp, heap_alloc_new _ _, hb.alloc hb.size _⟩
theorem Q4.newB {Y w' : World} {r0 r1 r2 r3 : UInt32} (hb : Below (Y.alloc (.cells #[.int .u32 0, .int .u32 0, .int .u32 0, .int .u32 0] 23)).heap.size (Y.alloc (.cells #[.int .u32 0, .int .u32 0, .int .u32 0, .int .u32 0] 23)) w') : Q4 Y ((((w'.setCell ⟨Y.heap.size, 0, none⟩ (.int .u32 (r0.toNat : Int))).setCell ⟨Y.heap.size, 1, none⟩ (.int .u32 (r1.toNat : Int))).setCell ⟨Y.heap.size, 2, none⟩ (.int .u32 (r2.toNat : Int))).setCell ⟨Y.heap.size, 3, none⟩ (.int .u32 (r3.toNat : Int))) (.pointer (some ⟨Y.heap.size, 0, none⟩)) r0 r1 r2 r3 :=
  ⟨_, rfl, Nat.le_refl _, by have := hb.size; simp at this ⊢; omega, set4_row ((hb.block Y.heap.size (by simp)).trans (heap_alloc_new Y _)), ((((((Below.refl Y.heap.size Y).alloc (Nat.le_refl _) _).trans (hb.mono (by simp))).setCell (p := ⟨Y.heap.size, 0, none⟩) (Nat.le_refl _) _).setCell (p := ⟨Y.heap.size, 1, none⟩) (Nat.le_refl _) _).setCell (p := ⟨Y.heap.size, 2, none⟩) (Nat.le_refl _) _).setCell (p := ⟨Y.heap.size, 3, none⟩) (Nat.le_refl _) _⟩
set_option maxRecDepth 100000 in
set_option maxHeartbeats 4000000 in
theorem refblock_any {key nonce : List UInt8} {vk vn : Value} {w : World} {B : Nat} {c : UInt32} (hk : Bs w B vk key) (hn : Bs w B vn nonce) (hB : B ≤ w.heap.size) (hkl : key.length = 32) (hnl : nonce.length = 12) :
    Calls Try.prog 15 #[vk, vn, .int .u32 (c.toNat : Int)] w fun e w' => ∃ u, e = .returned u ∧ Own w' w.heap.size u (blockL key nonce c) ∧ Below w.heap.size w w' := by
  have HK := Lib.hid hk; have HN := Lib.hid hn
  have HKL := Lib.hid hkl; have HNL := Lib.hid hnl
  obtain ⟨AK, cK, rfl⟩ := hk.shape
  obtain ⟨AN, cN, rfl⟩ := hn.shape
  obtain ⟨w0, hw0⟩ : ∃ w0, w0 = w.alloc (.cells #[.int .u8 101, .int .u8 120, .int .u8 112, .int .u8 97, .int .u8 110, .int .u8 100, .int .u8 32, .int .u8 51, .int .u8 50, .int .u8 45, .int .u8 98, .int .u8 121, .int .u8 116, .int .u8 101, .int .u8 32, .int .u8 107] 5 (16, 17)) := ⟨_, rfl⟩
  have kc : (convert 28 28 (.slice (some ⟨w.heap.size, 0, none⟩) 16 16)).run Try.prog (w.alloc (.cells #[.int .u8 101, .int .u8 120, .int .u8 112, .int .u8 97, .int .u8 110, .int .u8 100, .int .u8 32, .int .u8 51, .int .u8 50, .int .u8 45, .int .u8 98, .int .u8 121, .int .u8 116, .int .u8 101, .int .u8 32, .int .u8 107] 5)) = .ok (.slice (some ⟨w.heap.size, 0, none⟩) 16 16) w0 := by rw [hw0]; exact Lib.run_convert_bytes_const w 28 5 _ 16 16 Try.underlying28 Try.underlying5
  have hz0 : w0.heap.size = w.heap.size + 1 := by rw [hw0]; simp
  have hbl : Bs w0 (w.heap.size + 1) (.slice (some ⟨w.heap.size, 0, none⟩) 16 16) expandL := by rw [hw0]; exact Bs.litF w expandL (16, 17) (by unfold maxLen expandL; simp)
  have C1 := words_any (n := 4) hbl (by omega) rfl (by omega)
  rw [expand_wds] at C1
  obtain ⟨S0, hS0⟩ : ∃ S : List UInt32, S = [0x61707865, 0x3320646e, 0x79622d32, 0x6b206574] := ⟨_, rfl⟩
  rw [← hS0] at C1
  have HS0 := Lib.hid hS0
  have h04 : S0.length = 4 := by rw [hS0]; rfl
  have H04 := Lib.hid h04
  have C1 := Lib.hid C1
  have BA : Hid (Below w.heap.size w w0) := Lib.hid (by rw [hw0]; exact (Below.refl w.heap.size w).alloc (Nat.le_refl _) _)
  have hz0' : w.heap.size ≤ w0.heap.size := by omega
  clear hk hn hkl hnl hbl hS0 h04 hw0 hz0
  go_enter Try.func15, Try.ntmps15
  go_wp2_with fail
  with_reducible refine (C1.out).mono ?_
  rintro e1 w1 ⟨u1, rfl, ho1, hb1⟩
  obtain ⟨A1, c1, rfl⟩ := ho1.shape H04.out
  have HB1 := Lib.hid (BA.out.trans (hb1.mono hz0'))
  have hz1 := HB1.out.size
  have HO1 := Lib.hid (ho1.more (B' := w.heap.size) hz0')
  have C2 := Lib.hid (words_any (n := 8) (HK.out.below HB1.out hB) (Nat.le_trans hB hz1) HKL.out (by omega))
  clear ho1 hb1 C1 BA
  go_wp2_with fail
  with_reducible refine (C2.out).mono ?_
  rintro e2 w2 ⟨u2, rfl, ho2, hb2⟩
  have hz2 := hb2.size
  obtain ⟨g2, c2, rfl, hg2, hgl2, hcell2⟩ := ho2.cells (by rw [wds_len]; omega)
  rw [wds_len]
  have HC2 := Lib.hid hcell2
  have HB2 := Lib.hid (HB1.out.trans (hb2.mono hz1))
  have HO2 := Lib.hid (HO1.out.below hb2)
  clear ho2 hb2 C2 hcell2 HO1
  go_wp2_with (at_builtin; with_reducible refine wpList_appW rfl (.tmp 21) (.tmp 23) rfl rfl HO2.out _ 8 c2 rfl (wds_len key 8) HC2.out (by rw [H04.out]; omega) (by omega) ?_)
  intro v3 w3 ho3 hg3
  have hlt2 : ∀ q, (Value.slice A1 4 c1).ownBlock = some q → w.heap.size ≤ q := fun q hq => (HO2.out.lt hq).1
  have hz3 := hg3.size
  obtain ⟨S1, hS1⟩ : ∃ S1, S1 = S0 ++ wds key 8 := ⟨_, rfl⟩
  have h112 : S1.length = 12 := by rw [hS1, List.length_append, H04.out, wds_len]
  rw [← hS1] at ho3
  obtain ⟨A3, c3, rfl⟩ := ho3.shape h112
  have HB3 := Lib.hid (HB2.out.grown hg3 HB2.out.size hlt2)
  have HS1 := Lib.hid hS1; have H112 := Lib.hid h112
  have O3 : Hid (OwnW (w3.alloc (.cells #[.int .u32 (c.toNat : Int)] 22)) w.heap.size (.slice A3 12 c3) S1) := Lib.hid (ho3.below ((Below.refl _ _).alloc (Nat.le_refl _) _))
  have HC3 : Hid (∀ j (h : j < [c].length), (w3.alloc (.cells #[.int .u32 (c.toNat : Int)] 22)).cell? ((⟨w3.heap.size, 0, none⟩ : Addr).add j) = some (vw [c][j])) := Lib.hid (fun j h => by
    obtain rfl : j = 0 := by simpa using h
    exact cell_new w3 (.int .u32 (c.toNat : Int)) 22)
  have HBA3 := Lib.hid (HB3.out.alloc HB3.out.size (.cells #[.int .u32 (c.toNat : Int)] 22))
  have hz3b : w.heap.size ≤ w3.heap.size := HB3.out.size
  clear ho3 hg3 hlt2 HO2 HC2 HB2 hS1 h112 HB3
  go_wp2_with (at_builtin; with_reducible refine wpList_appW rfl (.tmp 25) (.tmp 27) rfl rfl O3.out _ 1 1 rfl rfl HC3.out (by rw [H112.out]; omega) (by simp; omega) ?_)
  intro v4 w4 ho4 hg4
  obtain ⟨S2, hS2⟩ : ∃ S2, S2 = S1 ++ [c] := ⟨_, rfl⟩
  have h213 : S2.length = 13 := by rw [hS2, List.length_append, H112.out]; rfl
  rw [← hS2] at ho4
  obtain ⟨A4, c4, rfl⟩ := ho4.shape h213
  have HB4 := Lib.hid (HBA3.out.grown hg4 HBA3.out.size (fun q hq => (O3.out.lt hq).1))
  have HS2 := Lib.hid hS2; have H213 := Lib.hid h213
  have hz4 := HB4.out.size
  have HO4 := Lib.hid ho4
  have C5 := Lib.hid (words_any (n := 3) (HN.out.below HB4.out hB) (Nat.le_trans hB hz4) HNL.out (by omega))
  clear ho4 hg4 O3 HC3 HBA3 hS2 h213
  go_wp2_with fail
  with_reducible refine (C5.out).mono ?_
  rintro e5 w5 ⟨u5, rfl, ho5, hb5⟩
  have hz5 := hb5.size
  obtain ⟨g5, c5, rfl, hg5, hgl5, hcell5⟩ := ho5.cells (by rw [wds_len]; omega)
  rw [wds_len]
  have HC5 := Lib.hid hcell5
  have HB5 := Lib.hid (HB4.out.trans (hb5.mono hz4))
  have HO5 := Lib.hid (HO4.out.below hb5)
  clear ho5 hb5 C5 hcell5 HO4 HB4
  go_wp2_with (at_builtin; with_reducible refine wpList_appW rfl (.tmp 29) (.tmp 31) rfl rfl HO5.out _ 3 c5 rfl (wds_len nonce 3) HC5.out (by rw [H213.out]; omega) (by omega) ?_)
  intro v6 w6 ho6 hg6
  obtain ⟨F, hF⟩ : ∃ F, F = S2 ++ wds nonce 3 := ⟨_, rfl⟩
  have hF16 : F.length = 16 := by rw [hF, List.length_append, H213.out, wds_len]
  have HFB : Hid (F = beginL key nonce c) := Lib.hid (by rw [hF, HS2.out, HS1.out, HS0.out, beginL])
  rw [← hF] at ho6
  obtain ⟨A6, c6, rfl⟩ := ho6.shape hF16
  have HB6 := Lib.hid (HB5.out.grown hg6 HB5.out.size (fun q hq => (HO5.out.lt hq).1))
  have HF16 := Lib.hid hF16
  obtain ⟨g6, c6', e6, hgw6, hgl6, hcell6⟩ := ho6.cells (by omega)
  rw [hF16] at e6
  simp only [Value.slice.injEq, true_and] at e6
  obtain ⟨rfl, rfl⟩ := e6
  have HO6 := Lib.hid ho6
  have OE : Hid (OwnW (w6.alloc (.cells #[] 22)) w6.heap.size (.slice (some ⟨w6.heap.size, 0, none⟩) 0 0) []) := Lib.hid (World.ownsRow_made w6 #[] 0 (Nat.le_refl _) (Nat.zero_le _) rfl)
  have HC6 : Hid (∀ j (h : j < F.length), (w6.alloc (.cells #[] 22)).cell? ((⟨g6, 0, none⟩ : Addr).add j) = some (vw F[j])) := Lib.hid (fun j h => by
    have := hcell6 j h
    rw [add_none] at this ⊢
    exact (((Below.refl w6.heap.size w6).alloc (Nat.le_refl _) (.cells #[] 22)).cell (p := ⟨g6, 0 + j, none⟩) hgl6).trans this)
  have HBA6 := Lib.hid (HB6.out.alloc HB6.out.size (.cells #[] 22))
  have HO6A := Lib.hid (HO6.out.below ((Below.refl w6.heap.size w6).alloc (Nat.le_refl _) (.cells #[] 22)))
  have hz6 := HB6.out.size
  clear ho6 hg6 HO5 HC5 HB5 hF hF16 hcell6
  go_wp2_with (at_builtin; with_reducible refine wpList_appW rfl (.tmp 33) (.tmp 34) rfl rfl OE.out _ 16 c6 rfl HF16.out HC6.out (by simp) (by simp) ?_)
  intro v7 w7 ho7 hg7
  obtain ⟨A7, c7, rfl⟩ := ho7.shape HF16.out
  obtain ⟨g7, rfl, hgw7, hgl7, _, _, _⟩ := ho7.at_ (j := 0) (by rw [HF16.out]; omega)
  have HS7 : Hid (OwnW w7 w.heap.size (.slice (some ⟨g6, 0, none⟩) 16 c6) F) := Lib.hid (World.ownsRow.kept HO6A.out hg7 (.inr (by simp [Value.ownBlock]; omega)))
  have HO7 : Hid (OwnW w7 w6.heap.size (.slice (some ⟨g7, 0, none⟩) 16 c7) F) := Lib.hid ho7
  have HB7 := Lib.hid (HBA6.out.grown hg7 HBA6.out.size (fun q hq => by simp only [Value.ownBlock, Option.some.injEq] at hq; omega))
  have hz7 := HB7.out.size
  have hz67 : w6.heap.size < w7.heap.size := by have := hg7.size; simp at this; omega
  obtain ⟨ts, hts⟩ : ∃ ts : Array Value, ts = tabV := ⟨_, rfl⟩
  have HTS : Hid (ts = tabV) := Lib.hid hts
  have HTL : Hid (ts = #[.int .i64 0, .int .i64 4, .int .i64 8, .int .i64 12, .int .i64 1, .int .i64 5, .int .i64 9, .int .i64 13, .int .i64 2, .int .i64 6, .int .i64 10, .int .i64 14, .int .i64 3, .int .i64 7, .int .i64 11, .int .i64 15, .int .i64 0, .int .i64 5, .int .i64 10, .int .i64 15, .int .i64 1, .int .i64 6, .int .i64 11, .int .i64 12, .int .i64 2, .int .i64 7, .int .i64 8, .int .i64 13, .int .i64 3, .int .i64 4, .int .i64 9, .int .i64 14]) := Lib.hid (by rw [hts]; rfl)
  have HTI : Hid ((Try.prog.info? 75).map (·.size) = some ts.size) := Lib.hid (by rw [hts]; kernel_rfl)
  have HTO : Hid (ts.all (·.oneCell') = true) := Lib.hid (by rw [hts]; kernel_rfl)
  have HT0 : Hid ((#[.int .i64 0, .int .i64 0, .int .i64 0, .int .i64 0, .int .i64 0, .int .i64 0, .int .i64 0, .int .i64 0, .int .i64 0, .int .i64 0, .int .i64 0, .int .i64 0, .int .i64 0, .int .i64 0, .int .i64 0, .int .i64 0, .int .i64 0, .int .i64 0, .int .i64 0, .int .i64 0, .int .i64 0, .int .i64 0, .int .i64 0, .int .i64 0, .int .i64 0, .int .i64 0, .int .i64 0, .int .i64 0, .int .i64 0, .int .i64 0, .int .i64 0, .int .i64 0] : Array Value).size = ts.size) := Lib.hid (by rw [HTL.out]; rfl)
  have z2 : Hid ((w7.alloc (.cells #[.int .i64 0, .int .i64 0, .int .i64 0, .int .i64 0, .int .i64 0, .int .i64 0, .int .i64 0, .int .i64 0, .int .i64 0, .int .i64 0, .int .i64 0, .int .i64 0, .int .i64 0, .int .i64 0, .int .i64 0, .int .i64 0, .int .i64 0, .int .i64 0, .int .i64 0, .int .i64 0, .int .i64 0, .int .i64 0, .int .i64 0, .int .i64 0, .int .i64 0, .int .i64 0, .int .i64 0, .int .i64 0, .int .i64 0, .int .i64 0, .int .i64 0, .int .i64 0] 75)).heap[w7.heap.size]? = some (.cells #[.int .i64 0, .int .i64 0, .int .i64 0, .int .i64 0, .int .i64 0, .int .i64 0, .int .i64 0, .int .i64 0, .int .i64 0, .int .i64 0, .int .i64 0, .int .i64 0, .int .i64 0, .int .i64 0, .int .i64 0, .int .i64 0, .int .i64 0, .int .i64 0, .int .i64 0, .int .i64 0, .int .i64 0, .int .i64 0, .int .i64 0, .int .i64 0, .int .i64 0, .int .i64 0, .int .i64 0, .int .i64 0, .int .i64 0, .int .i64 0, .int .i64 0, .int .i64 0] 75 (0, 0))) := Lib.hid (heap_alloc_new w7 _)
  clear ho7 hg7 OE HC6 HBA6 HO6A hts HO6 HB6
  go_upto_region 7 with (first
    | (with_reducible refine wpList_built rfl 75 _ rfl ts (by rw [HTL.out]; kernel_rfl) ?_)
    | ((with_reducible refine wpList_store_row rfl 75 (.tmp 9) (.tmp 44) rfl (w7.heap.size) ts rfl rfl 75 _ z2.out HTI.out HT0.out HTO.out ?_); rw [World.setRow_alloc_new]))
  have HS8 := Lib.hid (HS7.out.below ((Below.refl w7.heap.size w7).alloc (Nat.le_refl _) (.cells ts 75)))
  have HO8 := Lib.hid (HO7.out.below ((Below.refl w7.heap.size w7).alloc (Nat.le_refl _) (.cells ts 75)))
  have HT8 := Lib.hid (heap_alloc_new w7 (.cells ts 75))
  have HB8 := Lib.hid (HB7.out.alloc hz7 (.cells ts 75))
  obtain ⟨gt, hgt⟩ : ∃ gt, gt = w7.heap.size := ⟨_, rfl⟩
  have hg6t : g6 < gt := by omega
  have hg7t : g7 < gt := by omega
  have hgt67 : w6.heap.size ≤ gt := by omega
  have hgtl : gt < (w7.alloc (.cells ts 75)).heap.size := by rw [World.size_alloc]; omega
  rw [← hgt] at HT8 ⊢
  generalize w7.alloc (.cells ts 75) = w8 at HS8 HO8 HT8 HB8 hgtl ⊢
  clear hgt HS7 HO7 HB7 z2 HT0 HTO
  go_wp2_with fail
  go_loopw [10] (fun i wr => ∃ n : Nat, n ≤ 80 ∧ i = .int .i64 (n : Int) ∧ Hid (OwnW wr w.heap.size (.slice (some ⟨g6, 0, none⟩) 16 c6) (qn n F)) ∧ Hid (OwnW wr w6.heap.size (.slice (some ⟨g7, 0, none⟩) 16 c7) F) ∧ Hid (wr.heap[gt]? = some (.cells ts 75 (0, 0))) ∧ Hid (Below w.heap.size w wr)) (fun i _ => 80 - (intOf i).toNat)
  case atStart => exact ⟨0, Nat.zero_le _, rfl, HS8, HO8, HT8, HB8⟩
  case round =>
    obtain ⟨n, hn80, rfl, hs, ho, ht, hbe⟩ := hrel
    clear HS8 HO8 HT8 HB8 hgtl
    by_cases hlt : n < 80
    · have hI : (n : Int) < 80 := by omega
      obtain ⟨k, hk⟩ : ∃ k, k = n % 8 := ⟨_, rfl⟩
      have hk8 : k < 8 := by rw [hk]; omega
      have hmod : (n : Int) % 8 = (k : Int) := by omega
      have hkI : (k : Int) < 8 := by omega
      have hk0 : (0 : Int) ≤ (k : Int) := by omega
      have HKN := Lib.hid hk
      obtain ⟨p0, hp0⟩ : ∃ p, p = pl k 0 := ⟨_, rfl⟩
      obtain ⟨p1, hp1⟩ : ∃ p, p = pl k 1 := ⟨_, rfl⟩
      obtain ⟨p2, hp2⟩ : ∃ p, p = pl k 2 := ⟨_, rfl⟩
      obtain ⟨p3, hp3⟩ : ∃ p, p = pl k 3 := ⟨_, rfl⟩
      have hrow : wr.rangeAt gt (k * 4) [.int .i64 (p0 : Int), .int .i64 (p1 : Int), .int .i64 (p2 : Int), .int .i64 (p3 : Int)] := by
        intro j v hv
        rw [cell_of_row wr gt _ _ _ _ ht.out, HTL.out]
        have h := tab_cells (k := k) (j := j) (v := v) hk8 (by rw [← hp0, ← hp1, ← hp2, ← hp3]; exact hv)
        first
          | exact h
          | exact (Array.getElem?_toList).symm.trans h
          | (rw [Array.getElem?_toList] at h; exact h)
          | simpa using h
      have HR := Lib.hid hrow
      obtain ⟨M, hM⟩ : ∃ M, M = qn n F := ⟨_, rfl⟩
      have hMl : M.length = 16 := by rw [hM, qn_len]; exact HF16.out
      have hq0 : p0 < 16 := by rw [hp0]; exact pl_lt k 0
      have hq1 : p1 < 16 := by rw [hp1]; exact pl_lt k 1
      have hq2 : p2 < 16 := by rw [hp2]; exact pl_lt k 2
      have hq3 : p3 < 16 := by rw [hp3]; exact pl_lt k 3
      obtain ⟨x0, hx0⟩ : ∃ x, x = gw M p0 := ⟨_, rfl⟩
      obtain ⟨x1, hx1⟩ : ∃ x, x = gw M p1 := ⟨_, rfl⟩
      obtain ⟨x2, hx2⟩ : ∃ x, x = gw M p2 := ⟨_, rfl⟩
      obtain ⟨x3, hx3⟩ : ∃ x, x = gw M p3 := ⟨_, rfl⟩
      have hal : Below wr.heap.size wr (wr.alloc (.cells #[.int .i64 (p0 : Int), .int .i64 (p1 : Int), .int .i64 (p2 : Int), .int .i64 (p3 : Int)] 72)) := (Below.refl wr.heap.size wr).alloc (Nat.le_refl _) _
      have hsY := hs.out.below hal
      rw [← hM] at hsY
      have m0 := (hsY.at16 (j := p0) (by omega)).1
      have m1 := (hsY.at16 (j := p1) (by omega)).1
      have m2 := (hsY.at16 (j := p2) (by omega)).1
      have m3 := (hsY.at16 (j := p3) (by omega)).1
      rw [← hx0] at m0
      rw [← hx1] at m1
      rw [← hx2] at m2
      rw [← hx3] at m3
      have HSY := Lib.hid hsY
      have HOY := Lib.hid (ho.out.below hal)
      have hg6w : g6 < wr.heap.size := (hs.out.lt rfl).2
      have hgtw : gt < wr.heap.size := (Array.getElem?_eq_some_iff.1 ht.out).1
      have HTY := Lib.hid ((hal.block gt hgtw).trans ht.out)
      have HBY := Lib.hid (hbe.out.trans (hal.mono hbe.out.size))
      have hrow : (wr.alloc (.cells #[.int .i64 (p0 : Int), .int .i64 (p1 : Int), .int .i64 (p2 : Int), .int .i64 (p3 : Int)] 72)).heap[wr.heap.size]? = some (.cells #[.int .i64 (p0 : Int), .int .i64 (p1 : Int), .int .i64 (p2 : Int), .int .i64 (p3 : Int)] 72 (0, 0)) := heap_alloc_new wr _
      have hzY : (wr.alloc (.cells #[.int .i64 (p0 : Int), .int .i64 (p1 : Int), .int .i64 (p2 : Int), .int .i64 (p3 : Int)] 72)).heap.size = wr.heap.size + 1 := by simp
      have HROW := Lib.hid hrow; have HZY := Lib.hid hzY
      have HX0 := Lib.hid hx0; have HX1 := Lib.hid hx1; have HX2 := Lib.hid hx2; have HX3 := Lib.hid hx3
      have HP0 := Lib.hid hp0; have HP1 := Lib.hid hp1; have HP2 := Lib.hid hp2; have HP3 := Lib.hid hp3
      have HM := Lib.hid hM; have HML := Lib.hid hMl
      clear hk hrow hzY hx0 hx1 hx2 hx3 hp0 hp1 hp2 hp3 hM hMl hs ho ht hbe hal hsY
      have c0 : (0 : Int) ≤ (p0 : Int) := by omega
      have c1' : (0 : Int) ≤ (p1 : Int) := by omega
      have c2' : (0 : Int) ≤ (p2 : Int) := by omega
      have c3' : (0 : Int) ≤ (p3 : Int) := by omega
      have i0 : (p0 : Int) < 16 := by omega
      have i1 : (p1 : Int) < 16 := by omega
      have i2 : (p2 : Int) < 16 := by omega
      have i3 : (p3 : Int) < 16 := by omega
      go_wp2_with (with_reducible refine wpList_load_mid rfl 72 (.tmp 51) rfl gt (k * 4) rfl [.int .i64 (p0 : Int), .int .i64 (p1 : Int), .int .i64 (p2 : Int), .int .i64 (p3 : Int)] _ HR.out Try.underlying72 rfl (by kernel_rfl) ?_)
      obtain ⟨ga, hga⟩ : ∃ g, g = wr.heap.size := ⟨_, rfl⟩
      have hg6a : g6 < ga := by omega
      have hgta : gt < ga := by omega
      rw [← hga] at HROW HZY ⊢
      generalize wr.alloc (.cells #[.int .i64 (p0 : Int), .int .i64 (p1 : Int), .int .i64 (p2 : Int), .int .i64 (p3 : Int)] 72) = Y at HSY HOY HTY HBY HROW HZY m0 m1 m2 m3 ⊢
      have hgaY : ga < Y.heap.size := by have := HZY.out; omega
      have hg6Y : g6 < Y.heap.size := by omega
      have a0 : Y.cell? ⟨ga, 0, none⟩ = some (.int .i64 (p0 : Int)) := by rw [cell_of_row _ _ _ _ _ _ HROW.out]; rfl
      have a1 : Y.cell? ⟨ga, 1, none⟩ = some (.int .i64 (p1 : Int)) := by rw [cell_of_row _ _ _ _ _ _ HROW.out]; rfl
      have a2 : Y.cell? ⟨ga, 2, none⟩ = some (.int .i64 (p2 : Int)) := by rw [cell_of_row _ _ _ _ _ _ HROW.out]; rfl
      have a3 : Y.cell? ⟨ga, 3, none⟩ = some (.int .i64 (p3 : Int)) := by rw [cell_of_row _ _ _ _ _ _ HROW.out]; rfl
      obtain ⟨r0, hr0⟩ : ∃ r, r = qa2 x0 x1 x2 x3 := ⟨_, rfl⟩
      obtain ⟨r1, hr1⟩ : ∃ r, r = qb2 x0 x1 x2 x3 := ⟨_, rfl⟩
      obtain ⟨r2, hr2⟩ : ∃ r, r = qc2 x0 x1 x2 x3 := ⟨_, rfl⟩
      obtain ⟨r3, hr3⟩ : ∃ r, r = qd2 x0 x1 x2 x3 := ⟨_, rfl⟩
      have CQ := fun W : World => refQuarter_any x0 x1 x2 x3 W
      simp only [← hr0, ← hr1, ← hr2, ← hr3] at CQ
      have CQ := Lib.hid CQ
      have HR0 := Lib.hid hr0; have HR1 := Lib.hid hr1; have HR2 := Lib.hid hr2; have HR3 := Lib.hid hr3
      clear hr0 hr1 hr2 hr3 hga hg6w hgtw HR
      have yg6 : g6 < Y.heap.size + 1 := by omega
      have yga : ga < Y.heap.size + 1 := by omega
      go_cut [12] (fun s12 wx => Q4 Y wx s12 r0 r1 r2 r3)
      case first =>
        go_region_held3 (fun w' => w'.cell? ⟨ga, 0, none⟩ = some (.int .i64 (p0 : Int)) ∧ w'.cell? ⟨ga, 1, none⟩ = some (.int .i64 (p1 : Int)) ∧ w'.cell? ⟨ga, 2, none⟩ = some (.int .i64 (p2 : Int)) ∧ w'.cell? ⟨ga, 3, none⟩ = some (.int .i64 (p3 : Int)) ∧ w'.cell? ⟨g6, p0, none⟩ = some (.int .u32 (x0.toNat : Int)) ∧ w'.cell? ⟨g6, p1, none⟩ = some (.int .u32 (x1.toNat : Int)) ∧ w'.cell? ⟨g6, p2, none⟩ = some (.int .u32 (x2.toNat : Int)) ∧ w'.cell? ⟨g6, p3, none⟩ = some (.int .u32 (x3.toNat : Int))) (go_simp)
          (first
            | ((with_reducible refine (CQ.out _).mono ?_); rintro e' w' ⟨rfl, hb⟩; obtain ⟨hc, hf⟩ := bcell hb; (try simp only [World.size_drew] at hc hf); have zz := hb.size; (try simp only [World.size_drew] at zz); (try simp only [World.size_alloc] at zz); have y1 : g6 < w'.heap.size := (by omega); have y2 : ga < w'.heap.size := (by omega); have y3 : g6 < w'.heap.size + 1 := (by omega); have y4 : ga < w'.heap.size + 1 := (by omega); have y5 : Y.heap.size < w'.heap.size + 1 := (by omega); have HLB := Lib.hid hb; clear hb)
            | fail)
        all_goals
          go_wp2_with fail
          go_meet
          first
            | (with_reducible exact Q4.newA (undrew HLB.out))
            | (with_reducible exact Q4.newB (undrew HLB.out))
      case rest =>
        obtain ⟨gq, rfl, hq5, hq6, hqw, hbq⟩ := hcut
        have HS2 : Hid (OwnW wc w.heap.size (.slice (some ⟨g6, 0, none⟩) 16 c6) (setsJ [p0, p1, p2, p3] [r0, r1, r2, r3] 0 M)) := Lib.hid (HSY.out.below hbq)
        have HO2 := Lib.hid (HOY.out.below hbq)
        have HT2 := Lib.hid ((hbq.block gt (by omega)).trans HTY.out)
        have HA2 := Lib.hid ((hbq.block ga hgaY).trans HROW.out)
        have HQ2 := Lib.hid hqw
        have HB2 := Lib.hid (HBY.out.trans (hbq.mono HBY.out.size))
        have hgaq : ga < gq := by omega
        have hg6w6 : g6 < w6.heap.size := by omega
        clear hqw hbq HSY HOY HTY HROW HBY m0 m1 m2 m3 a0 a1 a2 a3 HZY yg6 yga CQ hq6
        go_wp2_with fail
        go_loopw [13] (fun i wr => ∃ j : Nat, j ≤ 4 ∧ i = .int .i64 (j : Int) ∧ Hid (OwnW wr w.heap.size (.slice (some ⟨g6, 0, none⟩) 16 c6) (setsJ [p0, p1, p2, p3] [r0, r1, r2, r3] j M)) ∧ Hid (OwnW wr w6.heap.size (.slice (some ⟨g7, 0, none⟩) 16 c7) F) ∧ Hid (wr.heap[gt]? = some (.cells ts 75 (0, 0))) ∧ Hid (wr.heap[ga]? = some (.cells #[.int .i64 (p0 : Int), .int .i64 (p1 : Int), .int .i64 (p2 : Int), .int .i64 (p3 : Int)] 72 (0, 0))) ∧ Hid (Wq wr gq [r0, r1, r2, r3]) ∧ Hid (Below w.heap.size w wr)) (fun i _ => 4 - (intOf i).toNat)
        case atStart => exact ⟨0, Nat.zero_le _, rfl, HS2, HO2, HT2, HA2, HQ2, HB2⟩
        case round =>
          obtain ⟨j, hj4, rfl, hs, ho, ht, ha, hq, hbe⟩ := hrel
          clear HS2 HO2 HT2 HA2 HQ2 HB2
          by_cases hjt : j < 4
          · have hjI : (j : Int) < 4 := by omega
            have hj0 : (0 : Int) ≤ (j : Int) := by omega
            have hca := row4i ha.out hjt
            have hcq := row4w hq.out hjt
            obtain ⟨q, hqq⟩ : ∃ q, q = [p0, p1, p2, p3].getD j 0 := ⟨_, rfl⟩
            obtain ⟨y, hyy⟩ : ∃ y, y = [r0, r1, r2, r3].getD j 0 := ⟨_, rfl⟩
            have hq16 : q < 16 := by
              rw [hqq]
              rcases (show j = 0 ∨ j = 1 ∨ j = 2 ∨ j = 3 by omega) with rfl | rfl | rfl | rfl
              · exact hq0
              · exact hq1
              · exact hq2
              · exact hq3
            obtain ⟨hcs, hfs, hset⟩ := hs.out.at16 (j := q) (by rw [setsJ_len, HML.out]; exact hq16)
            obtain ⟨z, hz⟩ : ∃ z, z = gw (setsJ [p0, p1, p2, p3] [r0, r1, r2, r3] j M) q := ⟨_, rfl⟩
            rw [← hqq] at hca
            rw [← hyy] at hcq
            rw [← hz] at hcs
            have HS3 : Hid (OwnW (wr.setCell ⟨g6, q, none⟩ (.int .u32 (y.toNat : Int))) w.heap.size (.slice (some ⟨g6, 0, none⟩) 16 c6) (setsJ [p0, p1, p2, p3] [r0, r1, r2, r3] (j + 1) M)) := Lib.hid (by rw [setsJ, ← hqq, ← hyy]; exact hset y)
            have HO3 : Hid (OwnW (wr.setCell ⟨g6, q, none⟩ (.int .u32 (y.toNat : Int))) w6.heap.size (.slice (some ⟨g7, 0, none⟩) 16 c7) F) := Lib.hid (ho.out.far (by omega))
            have HT3 : Hid ((wr.setCell ⟨g6, q, none⟩ (.int .u32 (y.toNat : Int))).heap[gt]? = some (.cells ts 75 (0, 0))) := Lib.hid ((Below.heap_setCell wr ⟨g6, q, none⟩ _ gt (by show gt ≠ g6; omega)).trans ht.out)
            have HA3 : Hid ((wr.setCell ⟨g6, q, none⟩ (.int .u32 (y.toNat : Int))).heap[ga]? = some (.cells #[.int .i64 (p0 : Int), .int .i64 (p1 : Int), .int .i64 (p2 : Int), .int .i64 (p3 : Int)] 72 (0, 0))) := Lib.hid ((Below.heap_setCell wr ⟨g6, q, none⟩ _ ga (by show ga ≠ g6; omega)).trans ha.out)
            have HQ3 : Hid (Wq (wr.setCell ⟨g6, q, none⟩ (.int .u32 (y.toNat : Int))) gq [r0, r1, r2, r3]) := Lib.hid (hq.out.far (by omega))
            have HB3 : Hid (Below w.heap.size w (wr.setCell ⟨g6, q, none⟩ (.int .u32 (y.toNat : Int)))) := Lib.hid (hbe.out.setCell (p := ⟨g6, q, none⟩) (by show w.heap.size ≤ g6; omega) _)
            have hqI : (q : Int) < 16 := by omega
            have hqI0 : (0 : Int) ≤ (q : Int) := by omega
            clear hqq hyy hz hset hs ho ht ha hq hbe
            go_wp2_with fail
            go_still_tail 8, (by kernel_rfl)
            show wpList _ _ _ _ _ wr.drew
            go_wp2
            go_roundw
            case rel => exact ⟨j + 1, by omega, by go_num, HS3, HO3, HT3, HA3, HQ3, Lib.hid HB3.out.drew⟩
            case measure => simp [intOf]; omega
          · have hjI : ¬ (j : Int) < 4 := by omega
            have hj4e : j = 4 := by omega
            have HS4 : Hid (OwnW wr w.heap.size (.slice (some ⟨g6, 0, none⟩) 16 c6) (qn (n + 1) F)) := Lib.hid (by
              have h := hs.out
              rw [hj4e] at h
              have e : setsJ [p0, p1, p2, p3] [r0, r1, r2, r3] 4 M = qn (n + 1) F := by
                rw [qn, ← HKN.out, ← HM.out, HR0.out, HR1.out, HR2.out, HR3.out, HX0.out, HX1.out, HX2.out, HX3.out, HP0.out, HP1.out, HP2.out, HP3.out]
                rfl
              rw [← e]
              exact h)
            clear hj4e hs ha hq
            go_wp2
            go_roundw
            case rel => exact ⟨n + 1, by omega, by go_num, HS4, ho, ht, hbe⟩
            case measure => simp [intOf]; omega
    · have hI : ¬ (n : Int) < 80 := by omega
      obtain ⟨S, hS⟩ : ∃ S, S = qn 80 F := ⟨_, rfl⟩
      have hn : n = 80 := by omega
      have hS16 : S.length = 16 := by rw [hS, qn_len]; exact HF16.out
      have HSS : Hid (OwnW wr w.heap.size (.slice (some ⟨g6, 0, none⟩) 16 c6) S) := Lib.hid (by rw [hS, ← hn]; exact hs.out)
      have HSE := Lib.hid hS; have HS16 := Lib.hid hS16
      clear hS hn hs hS16 ht
      go_wp2_with fail
      go_loopw [14, 15] (fun s i wr => ∃ k : Nat, k ≤ 16 ∧ i = .int .i64 (k : Int) ∧ Hid (Own wr w.heap.size s (outB S F k)) ∧ Hid (OwnW wr w.heap.size (.slice (some ⟨g6, 0, none⟩) 16 c6) S) ∧ Hid (OwnW wr w6.heap.size (.slice (some ⟨g7, 0, none⟩) 16 c7) F) ∧ Hid (Below w.heap.size w wr)) (fun _ i _ => 16 - (intOf i).toNat)
      case atStart => exact ⟨0, Nat.zero_le _, rfl, Lib.hid (Own.nil _ _), HSS, ho, hbe⟩
      case round =>
        obtain ⟨k, hk16, rfl, hout, hs, ho, hbe⟩ := hrel
        clear HSS
        obtain ⟨AS, cS, rfl⟩ := hout.out.shape
        by_cases hkt : k < 16
        · have hkI : (k : Int) < 16 := by omega
          have hk0 : (0 : Int) ≤ (k : Int) := by omega
          have hcs := (hs.out.at16 (j := k) (by rw [HS16.out]; exact hkt)).1
          have hcf := (ho.out.at16 (j := k) (by rw [HF16.out]; exact hkt)).1
          obtain ⟨x, hx⟩ : ∃ x, x = gw S k := ⟨_, rfl⟩
          obtain ⟨y, hy⟩ : ∃ y, y = gw F k := ⟨_, rfl⟩
          rw [← hx] at hcs
          rw [← hy] at hcf
          obtain ⟨z, hz⟩ : ∃ z, z = x + y := ⟨_, rfl⟩
          have hadd : IntKind.u32.wrap ((x.toNat : Int) + (y.toNat : Int)) = (z.toNat : Int) := by rw [hz]; exact w_add x y
          have hcv : IntKind.u64.wrap (z.toNat : Int) = (z.toNat : Int) := IntWalk.u64_in _ (by have := z.toNat_lt; omega)
          have CP := fun W => refput_little_ok 4 z.toNat (by omega) (by omega) (by have := z.toNat_lt; omega) (by have := z.toNat_lt; simp; omega) W
          rw [show ((4 : Nat) : Int) = 4 from rfl] at CP
          have CP := Lib.hid CP
          have HXY : Hid (z = gw S k + gw F k) := Lib.hid (by rw [hz, hx, hy])
          have hg6w : g6 < wr.heap.size := (hs.out.lt rfl).2
          have hg7w : g7 < wr.heap.size := (ho.out.lt rfl).2
          have HOUT : Hid (Own wr w.heap.size (.slice AS (outB S F k).length cS) (outB S F k)) := hout
          have HS5 := hs; have HO5 := ho; have HBE := hbe
          have hbz := hbe.out.size
          have hlk : (outB S F k).length ≤ 64 := by rw [outB_len]; omega
          obtain ⟨l, hl⟩ : ∃ l, l = outB S F k := ⟨_, rfl⟩
          rw [← hl] at hlk HOUT ⊢
          have HL := Lib.hid hl
          clear hz hx hy hout hs ho hbe hl
          go_wp2_with fail
          go_region_held3 (fun w' => w'.cell? ⟨g6, k, none⟩ = some (.int .u32 (x.toNat : Int)) ∧ w'.cell? ⟨g7, k, none⟩ = some (.int .u32 (y.toNat : Int))) (go_simp)
            (first
              | ((with_reducible refine (CP.out _).mono ?_); rintro e' w' ⟨v5, rfl, hv5, hb⟩; obtain ⟨hc, hf⟩ := bcell hb; (try simp only [World.size_drew] at hc hf); have HLB := Lib.hid hb; have HV5 := Lib.hid hv5; clear hb hv5)
              | fail)
          have hb5 := undrew HLB.out
          obtain ⟨A5, c5, rfl⟩ := HV5.out.shape
          have hl4 : (putL 1 4 z.toNat).length = 4 := putL_length 1 4 z.toNat
          obtain ⟨m, hm⟩ : ∃ m, m = putL 1 4 z.toNat := ⟨_, rfl⟩
          have HBS : Hid (Bs w' w'.heap.size (.slice A5 m.length c5) m) := Lib.hid (by rw [hm]; exact HV5.out.bs)
          rw [← hm] at hl4 ⊢
          have HO7 := Lib.hid (HOUT.out.below hb5 (Nat.le_refl _))
          have HS7 := Lib.hid (HS5.out.below hb5)
          have HF7 := Lib.hid (HO5.out.below hb5)
          have HB7 := Lib.hid (HBE.out.trans (hb5.mono hbz))
          have hbz7 := HB7.out.size
          have HM := Lib.hid hm
          clear hb5 HLB HV5 HOUT HS5 HO5 HBE CP hm hc hf hcs hcf
          go_wp2_with (at_builtin; with_reducible refine wpList_app rfl (.tmp 105) (.tmp 106) rfl rfl HO7.out rfl HBS.out (by rw [hl4]; omega) (by omega) ?_)
          intro v8 w8 ho8 hg8 _
          have HS8 := Lib.hid (World.ownsRow.kept HS7.out hg8 (own_apart HO7.out HS7.out (by decide)))
          have HF8 := Lib.hid (World.ownsRow.kept HF7.out hg8 (own_apart HO7.out HF7.out (by decide)))
          have HB8 := Lib.hid (grown_below HB7.out hg8 hbz7 HO7.out)
          have HO8 : Hid (Own w8 w.heap.size v8 (outB S F (k + 1))) := Lib.hid (by rw [outB_succ, ← HL.out, ← HXY.out, ← HM.out]; exact ho8)
          clear ho8 hg8 HO7 HS7 HF7 HB7 HBS
          go_wp2
          go_roundw
          case rel => exact ⟨k + 1, by omega, by go_num, HO8, HS8, HF8, HB8⟩
          case measure => simp [intOf]; omega
        · have hkI : ¬ (k : Int) < 16 := by omega
          have hk16e : k = 16 := by omega
          have HOE : Hid (Own wr w.heap.size (.slice AS (outB S F k).length cS) (blockL key nonce c)) := Lib.hid (by
            have h := hout.out
            have e : blockL key nonce c = outB S F k := by rw [hk16e, blockL, HSE.out, HFB.out]
            rw [e]; exact h)
          clear hk16e hout
          go_wp2
          go_ret
          exact ⟨_, rfl, HOE.out, hbe.out⟩
end Go.Proofs.Ythgdficgjldobaa
