/- Frame of the program. -/
import Derived.Test.YtdaccdbehjhfgaaP1
import Derived.Test.YtdaccdbehjhfgaaPadR
import Derived.Deep.Cut
import Derived.Deep.MidRow
import Derived.Deep.RegionWith
import Derived.Great.Ranges
import Derived.StillTailTactics
namespace Go.Proofs.Ytdaccdbehjhfgaa
open Go.RowKit

theorem scGrown (w : World) (g i : Nat) (v : Value) : w.grownBy (w.setCell ⟨g, i, none⟩ v) (some g) :=
  ⟨rfl, rfl, rfl, by simp, fun k _ hne => Below.heap_setCell w ⟨g, i, none⟩ v k (fun e => hne (by rw [e]))⟩
theorem bcell {W w1 : World} (hb : Below W.heap.size W w1) : (∀ b o, b < W.heap.size → w1.cell? ⟨b, o, none⟩ = W.cell? ⟨b, o, none⟩) ∧ (∀ b o, b < W.heap.size → w1.frozen? ⟨b, o, none⟩ = W.frozen? ⟨b, o, none⟩) :=
  ⟨fun b o h => hb.cell (p := ⟨b, o, none⟩) h, fun b o h => hb.frozen (p := ⟨b, o, none⟩) h⟩
theorem undrew {w w' : World} (h : Below w.drew.heap.size w.drew w') : Below w.heap.size w w' := ⟨h.os, h.tape, h.output, h.size, h.block⟩
theorem byte_k {k : Nat} (h : k < 256) : (k : Int) = ((UInt8.ofNat k).toNat : Int) := by simp; omega
/-- the frame of a part -/
def frmL (k id a b : Nat) (d : List UInt8) : List UInt8 := zs 16 ++ [UInt8.ofNat k, UInt8.ofNat a, UInt8.ofNat b, 0] ++ putL 2 8 id ++ putL 2 2 d.length ++ d ++ zs (450 - d.length)
theorem frmL_len {k id a b : Nat} {d : List UInt8} (h : d.length ≤ 450) : (frmL k id a b d).length = 480 := by
  simp [frmL, putL_length, zs_len]; omega
theorem chk_zero {k id L : Nat} {i n : Int} (h : chk k id i n L = 0) : 1 ≤ k ∧ k ≤ 3 ∧ L ≤ 450 ∧ 0 ≤ i ∧ i < n ∧ n ≤ 16 := by
  unfold chk at h
  repeat' split at h
  all_goals first
    | (exfalso; revert h; decide)
    | (refine ⟨?_, ?_, ?_, ?_, ?_, ?_⟩ <;> omega)
set_option maxRecDepth 100000 in
set_option maxHeartbeats 4000000 in
theorem frame_no {k id L c : Nat} {i n : Int} {A : Option Addr} (hL : L ≤ 281474976710656) (h : chk k id i n L ≠ 0) (w : World) :
    Calls Try.prog 14 #[.agg #[.int .u8 (k : Int), .int .u64 (id : Int), .int .i64 i, .int .i64 n, .slice A L c]] w fun e w' => e = .returned (.tuple #[.slice none 0 0, .int .i64 (chk k id i n L)]) ∧ Below w.heap.size w w' := by
  have CC := fun W => check_any (k := k) (id := id) (i := i) (n := n) (A := A) (c := c) hL W
  obtain ⟨r, hr⟩ : ∃ r, r = chk k id i n L := ⟨_, rfl⟩
  rw [← hr] at h
  simp only [← hr] at CC ⊢
  have HCC := Lib.hid CC
  have hne : (r != 0) = true := by simpa using h
  have hal := (Below.refl w.heap.size w).alloc (Nat.le_refl _) (.cells #[.int .u8 (k : Int), .int .u64 (id : Int), .int .i64 i, .int .i64 n, .slice A L c] 25)
  have HAL := Lib.hid hal
  clear hr CC h hal
  go_enter Try.func14, Try.ntmps14
  go_wp2_with fail
  with_reducible refine (HCC.out _).mono ?_
  rintro e1 w1 ⟨rfl, hb1⟩
  have HB1 := Lib.hid (HAL.out.trans (hb1.mono HAL.out.size))
  clear hb1 HCC HAL
  go_wp2
  go_ret2
  exact ⟨rfl, HB1.out⟩
theorem put8 (n : Nat) (h : n < 18446744073709551616) (w : World) :
    Calls Try.prog 39 #[.int .i64 2, .int .i64 8, .int .u64 (n : Int)] w fun e w' => ∃ v, e = .returned (.tuple #[v, .int .i64 0]) ∧ Own w' w.heap.size v (putL 2 8 n) ∧ Below w.heap.size w w' := put_big 8 n (by decide) (by decide) (by simp only [bne_eq_false_iff_eq]; omega) w
theorem put2 (n : Nat) (h : n < 65536) (w : World) :
    Calls Try.prog 39 #[.int .i64 2, .int .i64 2, .int .u64 (n : Int)] w fun e w' => ∃ v, e = .returned (.tuple #[v, .int .i64 0]) ∧ Own w' w.heap.size v (putL 2 2 n) ∧ Below w.heap.size w w' := put_big 2 n (by decide) (by decide) (by simp only [bne_eq_false_iff_eq]; omega) w
theorem enc_join {w X : World} {B : Nat} {us : List Value} {ls : List (List UInt8)} (hb : Below B w X) (hB : B ≤ w.heap.size) (hn : us.length = ls.length) (hl : ls.length ≤ maxLen) (hs : ls.flatten.length ≤ 281474976710656)
    (h : ∀ (j : Nat) (h : j < us.length) (h' : j < ls.length), Bs X X.heap.size us[j] ls[j]) :
    Calls Try.prog 41 #[.slice (some ⟨X.heap.size, 0, none⟩) ls.length ls.length] (X.alloc (.cells us.toArray 23)).drew fun e w' => ∃ v, e = .returned v ∧ Own w' B v ls.flatten ∧ Below B w w' := by
  have hr := (Rs.lit X us ls hn hl h).drewN 1
  have hsz : (X.alloc (.cells us.toArray 23)).drew.heap.size = X.heap.size + 1 := by simp
  have hb2 : Below B w (X.alloc (.cells us.toArray 23)).drew := (hb.alloc (Nat.le_trans hB hb.size) _).drew
  refine (join_any (w := (X.alloc (.cells us.toArray 23)).drew) hr (by rw [hsz]; exact Nat.le_refl _) hs).mono ?_
  rintro e w' ⟨v, rfl, ho, hbb⟩
  have hle : B ≤ (X.alloc (.cells us.toArray 23)).drew.heap.size := Nat.le_trans hB hb2.size
  exact ⟨v, rfl, ho.more hle, hb2.trans (hbb.mono hle)⟩
theorem mk16 (W : World) : (Instr.makeSlice 23 (.int .i64 16) (.int .i64 16)).run Try.prog W = .ok (.slice (some ⟨W.heap.size, 0, none⟩) 16 16) (W.alloc (.cells (madeCells #[Value.int .u8 0] 16) 5)) :=
  run_make_row' (P := Try.prog) 23 5 (.int .u8 0) 1 Try.underlying23 u8info rfl .i64 .i64 16 (by omega) (by omega) W
theorem bs16 (W : World) : Bs (W.alloc (.cells (madeCells #[Value.int .u8 0] 16) 5)) (W.heap.size + 1) (.slice (some ⟨W.heap.size, 0, none⟩) 16 16) (zs 16) := by
  have e : madeCells #[Value.int .u8 0] 16 = ((zs 16).map vb).toArray := by kernel_rfl
  rw [e]
  exact Bs.lit W (zs 16) (by unfold maxLen zs; simp)
theorem pad480 {l : List UInt8} {v : Value} {w : World} {B : Nat} (hb : Own w B v l) (hl : l.length ≤ 480) :
    Calls Try.prog 40 #[v, .int .i64 480] w fun e w' => ∃ u, e = .returned (.tuple #[u, .int .i64 0]) ∧ Own w' w.heap.size u (l ++ zs (480 - l.length)) ∧ Below w.heap.size w w' := pad_ok (N := 480) hb.bs (Nat.le_refl _) (by decide) hl
set_option maxRecDepth 100000 in
set_option maxHeartbeats 4000000 in
theorem frame_ok {k id a b c B : Nat} {A : Option Addr} {d : List UInt8} {w : World} (hd : Bs w B (.slice A d.length c) d) (hB : B ≤ w.heap.size) (hid : id < 18446744073709551616) (h : chk k id (a : Int) (b : Int) d.length = 0) :
    Calls Try.prog 14 #[.agg #[.int .u8 (k : Int), .int .u64 (id : Int), .int .i64 (a : Int), .int .i64 (b : Int), .slice A d.length c]] w fun e w' => ∃ u, e = .returned (.tuple #[u, .int .i64 0]) ∧ Own w' w.heap.size u (frmL k id a b d) ∧ Below w.heap.size w w' := by
  obtain ⟨hk1, hk3, hL, _, hab, hb16⟩ := chk_zero h
  obtain ⟨L, hLL⟩ : ∃ L, L = d.length := ⟨_, rfl⟩
  rw [← hLL] at h hd hL ⊢
  have CC := fun W => check_any (k := k) (id := id) (i := (a : Int)) (n := (b : Int)) (A := A) (c := c) (L := L) (by omega) W
  rw [h] at CC
  have HCC := Lib.hid CC
  obtain ⟨W0, hW0⟩ : ∃ W0, W0 = w.alloc (.cells #[.int .u8 (k : Int), .int .u64 (id : Int), .int .i64 (a : Int), .int .i64 (b : Int), .slice A L c] 25) := ⟨_, rfl⟩
  have hal : Below w.heap.size w W0 := by rw [hW0]; exact (Below.refl w.heap.size w).alloc (Nat.le_refl _) _
  have hrow : W0.heap[w.heap.size]? = some (.cells #[.int .u8 (k : Int), .int .u64 (id : Int), .int .i64 (a : Int), .int .i64 (b : Int), .slice A L c] 25 (0, 0)) := by rw [hW0]; exact heap_alloc_new w _
  have HAL := Lib.hid hal
  have HROW := Lib.hid hrow
  have hz0 : w.heap.size < W0.heap.size := by rw [hW0]; simp
  have HLL := Lib.hid hLL
  have HD := Lib.hid hd
  have HW0 := Lib.hid hW0
  have ha16 : a < 16 := by omega
  have hb17 : b ≤ 16 := by omega
  clear hW0 hal hrow CC h hLL hd hab hb16
  go_enter Try.func14, Try.ntmps14
  go_wp2_with fail
  rw [← HW0.out]
  with_reducible refine (HCC.out _).mono ?_
  rintro e1 w1 ⟨rfl, hb1⟩
  have HB1 := Lib.hid (HAL.out.trans (hb1.mono HAL.out.size))
  have hrow1 := (hb1.block w.heap.size hz0).trans HROW.out
  have p0 : w1.cell? ⟨w.heap.size, 0, none⟩ = some (.int .u8 (k : Int)) := by rw [cell_of_row _ _ _ _ _ _ hrow1]; rfl
  have p1 : w1.cell? ⟨w.heap.size, 1, none⟩ = some (.int .u64 (id : Int)) := by rw [cell_of_row _ _ _ _ _ _ hrow1]; rfl
  have p2 : w1.cell? ⟨w.heap.size, 2, none⟩ = some (.int .i64 (a : Int)) := by rw [cell_of_row _ _ _ _ _ _ hrow1]; rfl
  have p3 : w1.cell? ⟨w.heap.size, 3, none⟩ = some (.int .i64 (b : Int)) := by rw [cell_of_row _ _ _ _ _ _ hrow1]; rfl
  have p4 : w1.cell? ⟨w.heap.size, 4, none⟩ = some (.slice A L c) := by rw [cell_of_row _ _ _ _ _ _ hrow1]; rfl
  have HROW1 := Lib.hid hrow1
  have hz1 : w.heap.size < w1.heap.size := Nat.lt_of_lt_of_le hz0 hb1.size
  have ha0 : (0 : Int) ≤ (a : Int) := by omega
  have ha1 : (a : Int) < 16 := by omega
  have hb0 : (0 : Int) ≤ (b : Int) := by omega
  have hb1' : (b : Int) ≤ 16 := by omega
  clear hb1 hrow1 HROW HAL HW0 HCC hz0
  go_upto_region 5 with fail
  obtain ⟨Y, hY⟩ : ∃ Y, Y = w1.alloc (.cells #[.int .u8 (k : Int), .int .u8 (a : Int), .int .u8 (b : Int), .int .u8 0] 5) := ⟨_, rfl⟩
  have hyb : Below w1.heap.size w1 Y := by rw [hY]; exact (Below.refl _ _).alloc (Nat.le_refl _) _
  have hyk : Bs Y Y.heap.size (.slice (some ⟨w1.heap.size, 0, none⟩) 4 4) [UInt8.ofNat k, UInt8.ofNat a, UInt8.ofNat b, 0] := by
    have h := Bs.lit w1 [UInt8.ofNat k, UInt8.ofNat a, UInt8.ofNat b, 0] (by unfold maxLen; simp)
    have e : ([UInt8.ofNat k, UInt8.ofNat a, UInt8.ofNat b, 0].map vb).toArray = #[.int .u8 (k : Int), .int .u8 (a : Int), .int .u8 (b : Int), .int .u8 0] := by
      rw [byte_k (show k < 256 by omega), byte_k (show a < 256 by omega), byte_k (show b < 256 by omega)]; rfl
    rw [e, ← hY] at h
    have hs : Y.heap.size = w1.heap.size + 1 := by rw [hY]; simp
    rw [hs]
    exact h
  rw [← hY]
  have hzY : w.heap.size < Y.heap.size := Nat.lt_of_lt_of_le hz1 hyb.size
  have q1 : Y.cell? ⟨w.heap.size, 1, none⟩ = some (.int .u64 (id : Int)) := (hyb.cell (p := ⟨w.heap.size, 1, none⟩) hz1).trans p1
  have HKY := Lib.hid hyk
  have HBY := Lib.hid (HB1.out.trans (hyb.mono HB1.out.size))
  have HRY := Lib.hid ((hyb.block w.heap.size hz1).trans HROW1.out)
  have C8 := Lib.hid (put8 id hid Y)
  clear hY hyb hyk p0 p1 p2 p3 p4 HROW1 HB1 hz1
  go_wp2_with fail
  with_reducible refine (C8.out).mono ?_
  rintro e2 w2 ⟨v2, rfl, ho2, hb2⟩
  obtain ⟨A2, c2, rfl⟩ := ho2.shape
  rw [putL_length] at ho2 ⊢
  have HK2 := Lib.hid ((HKY.out.below hb2 (Nat.le_refl _)).more hb2.size)
  have HO2 := Lib.hid ho2.bs
  have HB2 := Lib.hid (HBY.out.trans (hb2.mono HBY.out.size))
  have hrow2 := (hb2.block w.heap.size hzY).trans HRY.out
  have HR2 := Lib.hid hrow2
  have hz2 : w.heap.size < w2.heap.size := Nat.lt_of_lt_of_le hzY hb2.size
  have q4 : w2.cell? ⟨w.heap.size, 4, none⟩ = some (.slice A L c) := by rw [cell_of_row _ _ _ _ _ _ hrow2]; rfl
  have C2 := Lib.hid (put2 L (by omega) w2)
  clear hb2 ho2 hrow2 HKY HBY HRY C8 q1 hzY
  go_wp2_with fail
  with_reducible refine (C2.out).mono ?_
  rintro e3 w3 ⟨v3, rfl, ho3, hb3⟩
  obtain ⟨A3, c3, rfl⟩ := ho3.shape
  rw [putL_length] at ho3 ⊢
  have HK3 := Lib.hid ((HK2.out.below hb3 (Nat.le_refl _)).more hb3.size)
  have HO23 := Lib.hid ((HO2.out.below hb3 (Nat.le_refl _)).more hb3.size)
  have HO3 := Lib.hid ho3.bs
  have HB3 := Lib.hid (HB2.out.trans (hb3.mono HB2.out.size))
  have hrow3 := (hb3.block w.heap.size hz2).trans HR2.out
  have HR3 := Lib.hid hrow3
  have hz3 : w.heap.size < w3.heap.size := Nat.lt_of_lt_of_le hz2 hb3.size
  have hd3 := (HD.out.below HB3.out hB).more (B' := w3.heap.size) (by omega)
  have q5 : w3.cell? ⟨w.heap.size, 4, none⟩ = some (.slice A L c) := by rw [cell_of_row _ _ _ _ _ _ hrow3]; rfl
  have HD3 := Lib.hid hd3
  have hmk := mk16
  have J1 := Lib.hid (enc_join (w := w3) (B := w3.heap.size) (X := w3.alloc (.cells (madeCells #[Value.int .u8 0] 16) 5))
    (us := [.slice (some ⟨w3.heap.size, 0, none⟩) 16 16, .slice (some ⟨w1.heap.size, 0, none⟩) 4 4, .slice A2 8 c2, .slice A3 2 c3, .slice A L c]) (ls := [zs 16, [UInt8.ofNat k, UInt8.ofNat a, UInt8.ofNat b, 0], putL 2 8 id, putL 2 2 L, d])
    ((Below.refl w3.heap.size w3).alloc (Nat.le_refl _) _) (Nat.le_refl _) rfl (by unfold maxLen; simp) (by simp [zs_len, putL_length, ← HLL.out]; omega) (by
      have b1 : Below w3.heap.size w3 (w3.alloc (.cells (madeCells #[Value.int .u8 0] 16) 5)) := (Below.refl w3.heap.size w3).alloc (Nat.le_refl _) _
      intro j h h'
      match j, h, h' with
      | 0, _, _ => exact (bs16 w3).more (by simp)
      | 1, _, _ => exact (HK3.out.below b1 (Nat.le_refl _)).more b1.size
      | 2, _, _ => exact (HO23.out.below b1 (Nat.le_refl _)).more b1.size
      | 3, _, _ => exact (HO3.out.below b1 (Nat.le_refl _)).more b1.size
      | 4, _, _ => exact (HD3.out.below b1 (Nat.le_refl _)).more b1.size))
  obtain ⟨M, hM⟩ : ∃ M, M = ([zs 16, [UInt8.ofNat k, UInt8.ofNat a, UInt8.ofNat b, 0], putL 2 8 id, putL 2 2 L, d] : List (List UInt8)).flatten := ⟨_, rfl⟩
  have hMl : M.length = L + 30 := by rw [hM]; simp [zs_len, putL_length, ← HLL.out]; omega
  have hMf : frmL k id a b d = M ++ zs (480 - M.length) := by
    rw [hMl, hM, frmL, ← HLL.out, show 480 - (L + 30) = 450 - L by omega]
    simp
  rw [← hM] at J1
  simp only [World.size_alloc, List.length_cons, List.length_nil] at J1
  have HPL : Hid (M.length ≤ 480) := Lib.hid (by omega)
  have HMF := Lib.hid hMf; have HML := Lib.hid hMl
  clear hb3 ho3 hrow3 hd3 hM hMl hMf HK2 HO2 HB2 HR2 C2 q4 HK3 HO23 HO3 HD3
  go_wp2_with fail
  have hz3a : w.heap.size < w3.heap.size + 1 := by omega
  have hz3b : w.heap.size < w3.heap.size + 1 + 1 := by omega
  go_region_held3 (fun w' => w'.cell? ⟨w.heap.size, 4, none⟩ = some (.slice A L c)) (go_simp)
    (first
      | (go_at_call 41; (with_reducible refine (J1.out).mono ?_); rintro e4 w4 ⟨v4, rfl, ho4, hb4⟩; have m0 := (hb4.cell (p := ⟨w.heap.size, 4, none⟩) hz3).trans q5)
      | (go_at_call 40; (with_reducible refine (pad480 ho4 HPL.out).mono ?_); rintro e5 w5 ⟨v5, rfl, ho5, hb5⟩; have m1 := (hb5.cell (p := ⟨w.heap.size, 4, none⟩) (Nat.lt_of_lt_of_le hz3 hb4.size)).trans m0)
      | fail)
  all_goals
    have HO5 : Hid (Own w5 w.heap.size v5 (frmL k id a b d)) := Lib.hid (by rw [HMF.out]; exact ho5.more (by have := hb4.size; omega))
    have HB5 := Lib.hid ((HB3.out.trans (hb4.mono (Nat.le_of_lt hz3))).trans (hb5.mono (by have := hb4.size; omega)))
    clear ho4 hb4 ho5 hb5
    go_wp2
    go_ret2
    exact ⟨_, rfl, HO5.out, HB5.out⟩
end Go.Proofs.Ytdaccdbehjhfgaa
