/- Frame of the reference. -/
import Derived.Test.YtdaccdbehjhfgaaP2
namespace Go.Proofs.Ytdaccdbehjhfgaa
open Go.RowKit

/-- a block that holds just these bytes -/
def Rb (w : World) (g : Nat) (l : List UInt8) : Prop := w.heap[g]? = some (.cells (l.map vb).toArray 5 (0, 0))
theorem Rb.at_ {w : World} {g : Nat} {l : List UInt8} (h : Rb w g l) {j : Nat} (hj : j < l.length) :
    w.cell? ⟨g, j, none⟩ = some (.int .u8 ((l.getD j 0).toNat : Int)) ∧ w.frozen? ⟨g, j, none⟩ = false ∧ ∀ x : UInt8, Rb (w.setCell ⟨g, j, none⟩ (.int .u8 (x.toNat : Int))) g (l.set j x) := by
  refine ⟨?_, frozen_of_row w g j _ _ h, fun x => ?_⟩
  · rw [cell_of_row w g j _ _ _ h]
    simp [hj, vb]
  · unfold Rb
    rw [heap_setCell_same w g j _ _ _ h, List.map_set]
    simp [vb]
theorem Rb.below {w w' : World} {g B : Nat} {l : List UInt8} (h : Rb w g l) (hb : Below B w w') (hg : g < B) : Rb w' g l := (hb.block g hg).trans h
theorem zs_add (m n : Nat) : zs (m + n) = zs m ++ zs n := by simp [zs, List.replicate_append_replicate]
def frR (k a b : UInt8) (p : List UInt8) (j : Nat) : List UInt8 := (zs 16 ++ [k, a, b, 0] ++ p.take j) ++ (zs (8 - j) ++ zs 452)
theorem frR_len (k a b : UInt8) {p : List UInt8} (hp : p.length = 8) {j : Nat} (hj : j ≤ 8) : (frR k a b p j).length = 480 := by simp [frR, zs_len, hp]; omega
theorem frR_zero (k a b : UInt8) (p : List UInt8) : (((zs 480).set 16 k).set 17 a).set 18 b = frR k a b p 0 := by
  have e : zs 480 = zs 16 ++ (0 :: 0 :: 0 :: 0 :: zs 460) := by rw [show 480 = 16 + (4 + 460) from rfl, zs_add, zs_add]; rfl
  have e16 : (zs 16).length = 16 := zs_len 16
  rw [e, List.set_append_right (h := by rw [e16]; omega), e16]
  simp only [Nat.sub_self, List.set_cons_zero]
  rw [List.set_append_right (h := by rw [e16]; omega), e16]
  simp only [show 17 - 16 = 1 from rfl, List.set_cons_succ, List.set_cons_zero]
  rw [List.set_append_right (h := by rw [e16]; omega), e16]
  simp only [show 18 - 16 = 2 from rfl, List.set_cons_succ, List.set_cons_zero]
  rw [frR, List.take_zero, List.append_nil, List.append_assoc]
  have e2 : zs 460 = zs (8 - 0) ++ zs 452 := by rw [show 460 = (8 - 0) + 452 from rfl, zs_add]
  rw [e2]
  rfl
theorem frR_succ (k a b : UInt8) {p : List UInt8} (hp : p.length = 8) {j : Nat} (hj : j < 8) : (frR k a b p j).set (20 + j) (p.getD j 0) = frR k a b p (j + 1) := by
  have hl : (zs 16 ++ [k, a, b, 0] ++ p.take j).length = 20 + j := by simp [zs_len, hp]; omega
  have e : zs (8 - j) = 0 :: zs (8 - (j + 1)) := by rw [show 8 - j = (8 - (j + 1)) + 1 by omega]; rfl
  rw [frR, List.set_append_right (h := by rw [hl]; omega), hl, Nat.sub_self, e, List.cons_append, List.set_cons_zero, frR]
  have e2 : p.take (j + 1) = p.take j ++ [p.getD j 0] := by
    rw [List.take_succ_eq_append_getElem (by omega)]
    simp [List.getD_eq_getElem?_getD, hp, hj]
  rw [e2]
  simp
theorem frR_end (k a b : UInt8) {p : List UInt8} (hp : p.length = 8) (x y : UInt8) : ((frR k a b p 8).set 28 x).set 29 y = zs 16 ++ [k, a, b, 0] ++ p ++ [x, y] ++ zs 450 := by
  have e : zs (8 - 8) ++ zs 452 = 0 :: 0 :: zs 450 := by rw [show 452 = 2 + 450 from rfl, zs_add]; rfl
  have ht : p.take 8 = p := List.take_of_length_le (by omega)
  have hl : (zs 16 ++ [k, a, b, 0] ++ p).length = 28 := by simp [zs_len, hp]
  rw [frR, e, ht, List.set_append_right (h := by rw [hl]; omega), hl]
  simp only [Nat.sub_self, List.set_cons_zero]
  rw [List.set_append_right (h := by rw [hl]; omega), hl]
  simp only [show 29 - 28 = 1 from rfl, List.set_cons_succ, List.set_cons_zero]
  simp
theorem putL22 {L : Nat} (h : L ≤ 450) : putL 2 2 L = [UInt8.ofNat (L / 256), UInt8.ofNat (L % 256)] := by
  apply List.ext_getElem
  · simp [putL_length]
  · intro j h1 h2
    simp only [List.length_cons, List.length_nil] at h2
    rcases (show j = 0 ∨ j = 1 by omega) with rfl | rfl
    · have := putL_at 2 2 L (j := 0) (by omega)
      simp only [vb, Value.int.injEq, true_and] at this
      apply UInt8.toNat_inj.1
      rw [← getD_at h1]
      simp [idx_big] at this ⊢
      omega
    · have := putL_at 2 2 L (j := 1) (by omega)
      simp only [vb, Value.int.injEq, true_and] at this
      apply UInt8.toNat_inj.1
      rw [← getD_at h1]
      simp [idx_big] at this ⊢
      omega
theorem frm_splice (k id a b : Nat) {d : List UInt8} (h : d.length ≤ 450) : splice ((zs 16 ++ [UInt8.ofNat k, UInt8.ofNat a, UInt8.ofNat b, 0] ++ putL 2 8 id ++ [UInt8.ofNat (d.length / 256), UInt8.ofNat (d.length % 256)] ++ zs 450).map vb) 30 (d.map vb) = (frmL k id a b d).map vb := by
  rw [← putL22 h]
  have e := splice_end ((zs 16 ++ [UInt8.ofNat k, UInt8.ofNat a, UInt8.ofNat b, 0] ++ putL 2 8 id ++ putL 2 2 d.length).map vb) ((zs 450).map vb) (d.map vb)
  have hl : ((zs 16 ++ [UInt8.ofNat k, UInt8.ofNat a, UInt8.ofNat b, 0] ++ putL 2 8 id ++ putL 2 2 d.length).map vb).length = 30 := by simp [zs_len, putL_length]
  rw [hl, ← List.map_append] at e
  have ed : List.drop (List.map vb d).length (List.map vb (zs 450)) = (zs (450 - d.length)).map vb := by
    rw [List.length_map, ← List.map_drop]
    unfold zs
    rw [List.drop_replicate]
  rw [e, ed, frmL]
  simp only [List.map_append]
theorem mk480 (W : World) : (Instr.makeSlice 23 (.int .i64 480) (.int .i64 480)).run Try.prog W = .ok (.slice (some ⟨W.heap.size, 0, none⟩) 480 480) (W.alloc (.cells (madeCells #[Value.int .u8 0] 480) 5)) :=
  run_make_row' (P := Try.prog) 23 5 (.int .u8 0) 1 Try.underlying23 u8info rfl .i64 .i64 480 (by omega) (by omega) W
theorem rb480 (W : World) : Rb (W.alloc (.cells (madeCells #[Value.int .u8 0] 480) 5)) W.heap.size (zs 480) := by
  unfold Rb
  rw [heap_alloc_new W _]
  have e : (zs 480).map vb = List.replicate 480 (Value.int .u8 0) := by unfold zs; rw [List.map_replicate]; rfl
  rw [e, ← toList_madeCells_one, Array.toArray_toList]
/-- a frame in the making: its bytes in block g, the part in the call's first block -/
structure FS (w : World) (g : Nat) (P : Array Value) (Y : World) (row : List UInt8) : Prop where
  rb : Rb Y g row
  pt : Y.heap[w.heap.size]? = some (.cells P 25 (0, 0))
  be : Below w.heap.size w Y
theorem FS.set {w Y : World} {g j : Nat} {P : Array Value} {row : List UInt8} (h : FS w g P Y row) (hg : w.heap.size < g) (hj : j < row.length) (x : UInt8) {z : Int} (hz : z = (x.toNat : Int)) : FS w g P (Y.setCell ⟨g, j, none⟩ (.int .u8 z)) (row.set j x) := by
  subst hz
  exact ⟨(h.rb.at_ hj).2.2 x, (Below.heap_setCell Y ⟨g, j, none⟩ _ w.heap.size (by show w.heap.size ≠ g; omega)).trans h.pt, h.be.setCell (p := ⟨g, j, none⟩) (by show w.heap.size ≤ g; omega) _⟩
theorem FS.cell {w Y : World} {g j : Nat} {P : Array Value} {row : List UInt8} (h : FS w g P Y row) {v : Value} (hv : P[j]? = some v) : Y.cell? ⟨w.heap.size, j, none⟩ = some v := by rw [cell_of_row _ _ _ _ _ _ h.pt]; exact hv
set_option maxRecDepth 100000 in
set_option maxHeartbeats 4000000 in
theorem refframe_no {k id L c : Nat} {i n : Int} {A : Option Addr} (hL : L ≤ 281474976710656) (h : chk k id i n L ≠ 0) (w : World) :
    Calls Try.prog 15 #[.agg #[.int .u8 (k : Int), .int .u64 (id : Int), .int .i64 i, .int .i64 n, .slice A L c]] w fun e w' => e = .returned (.tuple #[.slice none 0 0, .int .i64 (chk k id i n L)]) ∧ Below w.heap.size w w' := by
  have CC := fun W => refcheck_any (k := k) (id := id) (i := i) (n := n) (A := A) (c := c) hL W
  obtain ⟨r, hr⟩ : ∃ r, r = chk k id i n L := ⟨_, rfl⟩
  rw [← hr] at h
  simp only [← hr] at CC ⊢
  have HCC := Lib.hid CC
  have hne : (r != 0) = true := by simpa using h
  have hal := (Below.refl w.heap.size w).alloc (Nat.le_refl _) (.cells #[.int .u8 (k : Int), .int .u64 (id : Int), .int .i64 i, .int .i64 n, .slice A L c] 25)
  have HAL := Lib.hid hal
  clear hr CC h hal
  go_enter Try.func15, Try.ntmps15
  go_wp2_with fail
  with_reducible refine (HCC.out _).mono ?_
  rintro e1 w1 ⟨rfl, hb1⟩
  have HB1 := Lib.hid (HAL.out.trans (hb1.mono HAL.out.size))
  clear hb1 HCC HAL
  go_wp2
  go_ret2
  exact ⟨rfl, HB1.out⟩
set_option maxRecDepth 100000 in
set_option maxHeartbeats 4000000 in
theorem refframe_ok {k id a b c B : Nat} {A : Option Addr} {d : List UInt8} {w : World} (hd : Bs w B (.slice A d.length c) d) (hB : B ≤ w.heap.size) (hid : id < 18446744073709551616) (h : chk k id (a : Int) (b : Int) d.length = 0) :
    Calls Try.prog 15 #[.agg #[.int .u8 (k : Int), .int .u64 (id : Int), .int .i64 (a : Int), .int .i64 (b : Int), .slice A d.length c]] w fun e w' => ∃ u, e = .returned (.tuple #[u, .int .i64 0]) ∧ Own w' w.heap.size u (frmL k id a b d) ∧ Below w.heap.size w w' := by
  obtain ⟨hk1, hk3, hL, _, hab, hb16⟩ := chk_zero h
  obtain ⟨L, hLL⟩ : ∃ L, L = d.length := ⟨_, rfl⟩
  rw [← hLL] at h hd hL ⊢
  have CC := fun W => refcheck_any (k := k) (id := id) (i := (a : Int)) (n := (b : Int)) (A := A) (c := c) (L := L) (by omega) W
  rw [h] at CC
  have HCC := Lib.hid CC
  obtain ⟨W0, hW0⟩ : ∃ W0, W0 = w.alloc (.cells #[.int .u8 (k : Int), .int .u64 (id : Int), .int .i64 (a : Int), .int .i64 (b : Int), .slice A L c] 25) := ⟨_, rfl⟩
  have hal : Below w.heap.size w W0 := by rw [hW0]; exact (Below.refl w.heap.size w).alloc (Nat.le_refl _) _
  have hrow : W0.heap[w.heap.size]? = some (.cells #[.int .u8 (k : Int), .int .u64 (id : Int), .int .i64 (a : Int), .int .i64 (b : Int), .slice A L c] 25 (0, 0)) := by rw [hW0]; exact heap_alloc_new w _
  have HAL := Lib.hid hal
  have HROW := Lib.hid hrow
  have hz0 : w.heap.size < W0.heap.size := by rw [hW0]; simp
  have HLL := Lib.hid hLL
  have HD := Lib.hid hd
  have HW0 := Lib.hid hW0
  have ha16 : a < 16 := by omega
  have hb17 : b ≤ 16 := by omega
  clear hW0 hal hrow CC h hLL hd hab hb16
  go_enter Try.func15, Try.ntmps15
  go_wp2_with fail
  rw [← HW0.out]
  with_reducible refine (HCC.out _).mono ?_
  rintro e1 w1 ⟨rfl, hb1⟩
  have HB1 := Lib.hid (HAL.out.trans (hb1.mono HAL.out.size))
  have hrow1 := (hb1.block w.heap.size hz0).trans HROW.out
  have HROW1 := Lib.hid hrow1
  have hz1 : w.heap.size < w1.heap.size := Nat.lt_of_lt_of_le hz0 hb1.size
  have ha0 : (0 : Int) ≤ (a : Int) := by omega
  have ha1 : (a : Int) < 16 := by omega
  have hb0 : (0 : Int) ≤ (b : Int) := by omega
  have hb1' : (b : Int) ≤ 16 := by omega
  have hmk := mk480
  clear hb1 hrow1 HROW HAL HW0 HCC hz0
  go_upto_region 5 with fail
  clear hmk
  have hal2 : Below w1.heap.size w1 (w1.alloc (.cells (madeCells #[Value.int .u8 0] 480) 5)) := (Below.refl _ _).alloc (Nat.le_refl _) _
  have hrb := rb480 w1
  have HROW2 := Lib.hid ((hal2.block w.heap.size hz1).trans HROW1.out)
  have HB2 := Lib.hid (HB1.out.trans (hal2.mono HB1.out.size))
  have hzg : w1.heap.size < (w1.alloc (.cells (madeCells #[Value.int .u8 0] 480) 5)).heap.size := by simp
  obtain ⟨g, hg⟩ : ∃ g, g = w1.heap.size := ⟨_, rfl⟩
  rw [← hg] at hz1 hzg hrb ⊢
  have hgle : w.heap.size ≤ g := by omega
  generalize w1.alloc (.cells (madeCells #[Value.int .u8 0] 480) 5) = Y at HROW2 HB2 hzg hrb ⊢
  clear hg
  have hF : FS w g #[.int .u8 (k : Int), .int .u64 (id : Int), .int .i64 (a : Int), .int .i64 (b : Int), .slice A L c] Y (zs 480) := ⟨hrb, HROW2.out, HB2.out⟩
  have hz480 := zs_len 480
  have p0 := hF.cell (j := 0) rfl
  have f16 := (hF.rb.at_ (j := 16) (by omega)).1
  have z16 := (hF.rb.at_ (j := 16) (by omega)).2.1
  have hF1 := hF.set hz1 (j := 16) (by omega) (UInt8.ofNat k) (byte_k (by omega))
  have HF1 := Lib.hid hF1
  clear hF hF1 hrb HROW2 HB2 hz480
  go_upto_region 6 with fail
  generalize Y.setCell ⟨g, 16, none⟩ (.int .u8 (k : Int)) = Y1 at HF1 ⊢
  clear p0 f16 z16
  have hl1 : ((zs 480).set 16 (UInt8.ofNat k)).length = 480 := by rw [List.length_set, zs_len]
  have p2 := HF1.out.cell (j := 2) rfl
  have f17 := (HF1.out.rb.at_ (j := 17) (by omega)).1
  have z17 := (HF1.out.rb.at_ (j := 17) (by omega)).2.1
  have HF2 := Lib.hid (HF1.out.set hz1 (j := 17) (by omega) (UInt8.ofNat a) (byte_k (show a < 256 by omega)))
  clear hl1 HF1
  go_upto_region 7 with fail
  generalize Y1.setCell ⟨g, 17, none⟩ (.int .u8 (a : Int)) = Y2 at HF2 ⊢
  clear p2 f17 z17
  have hl2 : (((zs 480).set 16 (UInt8.ofNat k)).set 17 (UInt8.ofNat a)).length = 480 := by rw [List.length_set, List.length_set, zs_len]
  have p3 := HF2.out.cell (j := 3) rfl
  have f18 := (HF2.out.rb.at_ (j := 18) (by omega)).1
  have z18 := (HF2.out.rb.at_ (j := 18) (by omega)).2.1
  have hF3 := HF2.out.set hz1 (j := 18) (by omega) (UInt8.ofNat b) (byte_k (show b < 256 by omega))
  rw [frR_zero _ _ _ (putL 2 8 id)] at hF3
  have HF3 := Lib.hid hF3
  clear hl2 HF2 hF3
  go_upto_region 8 with fail
  generalize Y2.setCell ⟨g, 18, none⟩ (.int .u8 (b : Int)) = Y3 at HF3 ⊢
  clear p3 f18 z18
  go_wp2_with fail
  go_loopw [6] (fun i wr => ∃ j : Nat, j ≤ 8 ∧ i = .int .i64 (j : Int) ∧ Hid (FS w g #[.int .u8 (k : Int), .int .u64 (id : Int), .int .i64 (a : Int), .int .i64 (b : Int), .slice A L c] wr (frR (UInt8.ofNat k) (UInt8.ofNat a) (UInt8.ofNat b) (putL 2 8 id) j))) (fun i _ => 8 - (intOf i).toNat)
  case atStart => exact ⟨0, Nat.zero_le _, rfl, HF3⟩
  case round =>
    obtain ⟨j, hj8, rfl, hF⟩ := hrel
    clear HF3
    have hrl := frR_len (UInt8.ofNat k) (UInt8.ofNat a) (UInt8.ofNat b) (putL_length 2 8 id) hj8
    by_cases hlt : j < 8
    · have hjI : (j : Int) < 8 := by omega
      have hj0 : (0 : Int) ≤ (j : Int) := by omega
      have p1 := hF.out.cell (j := 1) rfl
      have f1 := (hF.out.rb.at_ (j := 20 + j) (by omega)).1
      have z1 := (hF.out.rb.at_ (j := 20 + j) (by omega)).2.1
      obtain ⟨x, hx⟩ : ∃ x, x = (putL 2 8 id).getD j 0 := ⟨_, rfl⟩
      have hxv : (x.toNat : Int) = ((id / 256 ^ (7 - j) % 256 : Nat) : Int) := by
        have h := putL_at 2 8 id (j := j) hlt
        rw [idx_big, show 8 - 1 - j = 7 - j by omega, ← hx] at h
        simpa only [vb, Value.int.injEq, true_and] using h
      have hFn := hF.out.set hz1 (j := 20 + j) (by omega) x rfl
      rw [hx, frR_succ _ _ _ (putL_length 2 8 id) hlt, ← hx] at hFn
      have HFN := Lib.hid hFn
      have hidI : (id : Int) < 18446744073709551616 := by omega
      have hidI0 : (0 : Int) ≤ (id : Int) := by omega
      have HX := Lib.hid hxv
      have hfz : ∀ z : Int, z = (x.toNat : Int) → Hid (FS w g #[.int .u8 (k : Int), .int .u64 (id : Int), .int .i64 (a : Int), .int .i64 (b : Int), .slice A L c] (wr.setCell ⟨g, 20 + j, none⟩ (.int .u8 z)) (frR (UInt8.ofNat k) (UInt8.ofNat a) (UInt8.ofNat b) (putL 2 8 id) (j + 1))) := fun z hz => by subst hz; exact HFN
      have HFZ := Lib.hid hfz
      clear hx hxv hFn hF hrl hfz HFN
      rcases (show j = 0 ∨ j = 1 ∨ j = 2 ∨ j = 3 ∨ j = 4 ∨ j = 5 ∨ j = 6 ∨ j = 7 by omega) with rfl | rfl | rfl | rfl | rfl | rfl | rfl | rfl
      all_goals
        go_wp2_with fail
        have h := HX.out
        simp only [Nat.reduceSub, Nat.reducePow] at h
        first
          | exact ⟨⟨1, by omega, rfl, HFZ.out _ (by omega)⟩, by simp [intOf]⟩
          | exact ⟨⟨2, by omega, rfl, HFZ.out _ (by omega)⟩, by simp [intOf]⟩
          | exact ⟨⟨3, by omega, rfl, HFZ.out _ (by omega)⟩, by simp [intOf]⟩
          | exact ⟨⟨4, by omega, rfl, HFZ.out _ (by omega)⟩, by simp [intOf]⟩
          | exact ⟨⟨5, by omega, rfl, HFZ.out _ (by omega)⟩, by simp [intOf]⟩
          | exact ⟨⟨6, by omega, rfl, HFZ.out _ (by omega)⟩, by simp [intOf]⟩
          | exact ⟨⟨7, by omega, rfl, HFZ.out _ (by omega)⟩, by simp [intOf]⟩
          | exact ⟨⟨8, by omega, rfl, HFZ.out _ (by omega)⟩, by simp [intOf]⟩
    · obtain rfl : j = 8 := by omega
      clear hlt hj8
      have hL0 : (0 : Int) ≤ (L : Int) := by omega
      have hL1 : (L : Int) ≤ 450 := by omega
      have q4 := hF.out.cell (j := 4) rfl
      have f28 := (hF.out.rb.at_ (j := 28) (by omega)).1
      have z28 := (hF.out.rb.at_ (j := 28) (by omega)).2.1
      have HG1 := Lib.hid (hF.out.set hz1 (j := 28) (by omega) (UInt8.ofNat (L / 256)) (z := (L : Int) / 256) (by rw [← byte_k (show L / 256 < 256 by omega)]; omega))
      clear hF hrl
      go_upto_region 13 with fail
      generalize wr.setCell ⟨g, 28, none⟩ (.int .u8 ((L : Int) / 256)) = Y4 at HG1 ⊢
      clear q4 f28 z28
      have q4 := HG1.out.cell (j := 4) rfl
      have hl4 : ((frR (UInt8.ofNat k) (UInt8.ofNat a) (UInt8.ofNat b) (putL 2 8 id) 8).set 28 (UInt8.ofNat (L / 256))).length = 480 := by rw [List.length_set, frR_len _ _ _ (putL_length 2 8 id) (Nat.le_refl _)]
      have f29 := (HG1.out.rb.at_ (j := 29) (by omega)).1
      have z29 := (HG1.out.rb.at_ (j := 29) (by omega)).2.1
      have hG2 := HG1.out.set hz1 (j := 29) (by omega) (UInt8.ofNat (L % 256)) (z := (L : Int) % 256) (by rw [← byte_k (show L % 256 < 256 by omega)]; omega)
      rw [frR_end _ _ _ (putL_length 2 8 id), HLL.out] at hG2
      have HG2 := Lib.hid hG2
      clear HG1 hG2 hl4
      rw [← HLL.out] at HG2
      go_upto_region 14 with fail
      generalize Y4.setCell ⟨g, 29, none⟩ (.int .u8 ((L : Int) % 256)) = Y5 at HG2 ⊢
      clear q4 f29 z29
      have q4 := HG2.out.cell (j := 4) rfl
      obtain ⟨cs, hcs⟩ : ∃ cs, cs = d.map vb := ⟨_, rfl⟩
      have hcl : cs.length = L := by rw [hcs, List.length_map, HLL.out]
      have hone : ∀ v ∈ cs, v.oneCell' = true := by rw [hcs]; exact vb_one _
      have hmin : cs.length = Nat.min L 450 := by rw [hcl]; exact (Nat.min_eq_left (by omega)).symm
      have hd5 := HD.out.below HG2.out.be hB
      have hpos : 0 < cs.length → (some (⟨g, 30, none⟩ : Addr)) = some ⟨g, 30, none⟩ ∧ ∃ ad, A = some ad ∧ ∀ j v, cs[j]? = some v → Y5.drew.cell? (ad.add j) = some v := by
        intro hp
        obtain ⟨A', c', hv, _, _, h3⟩ := hd5
        simp only [Value.slice.injEq] at hv
        obtain ⟨rfl, _, _⟩ := hv
        obtain ⟨b2, off2, rfl, _, hc2⟩ := h3 (by have := HLL.out; omega)
        refine ⟨rfl, _, rfl, fun j v hj => ?_⟩
        rw [hcs, List.getElem?_map] at hj
        obtain ⟨y, hy, rfl⟩ := Option.map_eq_some_iff.1 hj
        obtain ⟨hj2, rfl⟩ := List.getElem?_eq_some_iff.1 hy
        rw [add_none]
        exact hc2 j hj2
      obtain ⟨cur, hcur⟩ : ∃ cur, cur = (zs 16 ++ [UInt8.ofNat k, UInt8.ofNat a, UInt8.ofNat b, 0] ++ putL 2 8 id ++ [UInt8.ofNat (L / 256), UInt8.ofNat (L % 256)] ++ zs 450).map vb := ⟨_, rfl⟩
      have hcur480 : cur.length = 480 := by rw [hcur]; simp [zs_len, putL_length]
      have hrw : Y5.drew.heap[g]? = some (.cells cur.toArray 5 (0, 0)) := by rw [hcur]; exact HG2.out.rb
      have HRW := Lib.hid hrw; have HPOS := Lib.hid hpos; have HMIN := Lib.hid hmin; have HONE := Lib.hid hone; have HCS := Lib.hid hcs; have HCL := Lib.hid hcl; have HCUR := Lib.hid hcur
      have HFIT : Hid (30 + cs.length ≤ cur.length) := Lib.hid (by omega)
      have HBG := Lib.hid HG2.out.be
      clear hcs hcl hone hmin hpos hd5 hcur hcur480 hrw HG2
      go_region_held3 (fun w' => w'.cell? ⟨w.heap.size, 4, none⟩ = some (.slice A L c)) (assumption) (first | (refine step_copy_splice rfl (.tmp 57) (.tmp 59) 23 23 rfl 5 Try.underlying23 u8size (some ⟨g, 30, none⟩) A 450 450 L c rfl rfl g 30 cur 5 HRW.out cs HMIN.out HPOS.out HFIT.out HONE.out g Y5.drew (Below.refl _ _) (Nat.le_refl _) ?_; intro w6 hg6 hb6; have m6 := (hb6.cell (p := ⟨w.heap.size, 4, none⟩) hz1).trans q4) | fail)
      have HOW : Hid (Own w6 w.heap.size (.slice (some ⟨g, 0, none⟩) 480 480) (frmL k id a b d)) := Lib.hid (by
        have h := hg6.out
        rw [HCUR.out, HCS.out] at h
        have hL' : d.length ≤ 450 := by rw [← HLL.out]; exact hL
        have es := frm_splice k id a b hL'
        rw [← HLL.out] at es
        rw [es] at h
        have h2 := Own.of_cells (B := w.heap.size) (l := frmL k id a b d) h (by omega) (by rw [frmL_len hL']; unfold maxLen; omega) rfl
        rw [frmL_len hL'] at h2
        exact h2)
      have HB6 := Lib.hid (HBG.out.trans ((⟨hb6.os, hb6.tape, hb6.output, hb6.size, hb6.block⟩ : Below g Y5 w6).mono (by omega)))
      clear hg6 hb6 HRW HPOS HMIN HONE HFIT
      go_wp2
      go_ret2
      exact ⟨_, rfl, HOW.out, HB6.out⟩
end Go.Proofs.Ytdaccdbehjhfgaa
