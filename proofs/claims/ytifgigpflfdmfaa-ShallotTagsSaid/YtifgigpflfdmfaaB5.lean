/- block of chacha. -/
import Derived.Test.YtifgigpflfdmfaaB4
namespace Go.Proofs.Ytifgigpflfdmfaa
open Go.RowKit

theorem len16 {L : List UInt32} (h : L.length = 16) : ∃ a b c d e f g i j k l m n o p q, L = [a, b, c, d, e, f, g, i, j, k, l, m, n, o, p, q] := by
  match L, h with
  | [a, b, c, d, e, f, g, i, j, k, l, m, n, o, p, q], _ => exact ⟨a, b, c, d, e, f, g, i, j, k, l, m, n, o, p, q, rfl⟩
theorem idx16 {L : List UInt32} (h : L.length = 16) {k : Nat} (hk : k < 16) (W : World) : (Instr.index 126 (.agg (L.map vw).toArray) (.int .i64 (k : Int))).run Try.prog W = .ok (.int .u32 ((gw L k).toNat : Int)) W := by
  obtain ⟨a, b, c, d, e, f, g, i, j, q, l, m, n, o, p, r, rfl⟩ := len16 h
  rcases (show k = 0 ∨ k = 1 ∨ k = 2 ∨ k = 3 ∨ k = 4 ∨ k = 5 ∨ k = 6 ∨ k = 7 ∨ k = 8 ∨ k = 9 ∨ k = 10 ∨ k = 11 ∨ k = 12 ∨ k = 13 ∨ k = 14 ∨ k = 15 by omega) with rfl | rfl | rfl | rfl | rfl | rfl | rfl | rfl | rfl | rfl | rfl | rfl | rfl | rfl | rfl | rfl
  all_goals kernel_rfl
/-- the state as it grows to its 64 bytes -/
def outP (S F : List UInt32) (n : Nat) : List UInt8 := outB S F n ++ List.replicate (64 - 4 * n) 0
theorem outP_len (S F : List UInt32) {n : Nat} (h : n ≤ 16) : (outP S F n).length = 64 := by rw [outP, List.length_append, outB_len, List.length_replicate]; omega
theorem outP_end (S F : List UInt32) : outP S F 16 = outB S F 16 := by simp [outP]

theorem outP_splice (S F : List UInt32) {i : Nat} (h : i < 16) : splice ((outP S F i).map vb) (4 * i) ((putL 1 4 ((gw S i + gw F i).toNat)).map vb) = (outP S F (i + 1)).map vb := by
  have e := splice_end ((outB S F i).map vb) ((List.replicate (64 - 4 * i) (0 : UInt8)).map vb) ((putL 1 4 ((gw S i + gw F i).toNat)).map vb)
  rw [List.length_map, outB_len, List.length_map, putL_length] at e
  unfold outP
  rw [List.map_append, e, outB_succ, List.map_append, List.map_append]
  congr 1
  rw [← List.map_drop, List.drop_replicate, show 64 - 4 * i - 4 = 64 - 4 * (i + 1) by omega]

set_option maxRecDepth 100000 in
set_option maxHeartbeats 4000000 in
theorem block_any {key nonce : List UInt8} {vk vn : Value} {w : World} {B : Nat} {c : UInt32} (hk : Bs w B vk key) (hn : Bs w B vn nonce) (hB : B ≤ w.heap.size) (hkl : key.length = 32) (hnl : nonce.length = 12) :
    Calls Try.prog 84 #[vk, vn, .int .u32 (c.toNat : Int)] w fun e w' => ∃ u, e = .returned u ∧ Own w' w.heap.size u (blockL key nonce c) ∧ Below w.heap.size w w' := by
  have C1 := begin_any (c := c) hk hn hB hkl hnl
  obtain ⟨AK, cK, rfl⟩ := hk.shape
  obtain ⟨AN, cN, rfl⟩ := hn.shape
  obtain ⟨F, hF⟩ : ∃ F, F = beginL key nonce c := ⟨_, rfl⟩
  have hFl : F.length = 16 := by rw [hF]; exact beginL_len key nonce c
  obtain ⟨fs, hfs⟩ : ∃ fs : Array Value, fs = (F.map vw).toArray := ⟨_, rfl⟩
  rw [← hF, ← hfs] at C1
  have C1 := Lib.hid C1
  have HI := Lib.hid (info16 hFl)
  have HONE := Lib.hid (all_oneCell_toArray (vw_one F))
  rw [← hfs] at HI HONE
  have HO : Hid ((#[.int .u32 0, .int .u32 0, .int .u32 0, .int .u32 0, .int .u32 0, .int .u32 0, .int .u32 0, .int .u32 0, .int .u32 0, .int .u32 0, .int .u32 0, .int .u32 0, .int .u32 0, .int .u32 0, .int .u32 0, .int .u32 0] : Array Value).size = fs.size) := Lib.hid (by show 16 = _; rw [hfs, List.size_toArray, List.length_map, hFl])
  have HF := Lib.hid hF; have HFL := Lib.hid hFl; have HFS := Lib.hid hfs
  have HKL := Lib.hid hkl; have HNL := Lib.hid hnl
  clear hk hn hF hFl hfs hkl hnl
  go_enter Try.func84, Try.ntmps84
  go_wp2_with fail
  with_reducible refine (C1.out).mono ?_
  rintro e1 w1 ⟨rfl, hb1⟩
  have HB1 := Lib.hid hb1
  have hz1 := hb1.size
  have z0 : Hid ((w1.alloc (.cells #[.int .u32 0, .int .u32 0, .int .u32 0, .int .u32 0, .int .u32 0, .int .u32 0, .int .u32 0, .int .u32 0, .int .u32 0, .int .u32 0, .int .u32 0, .int .u32 0, .int .u32 0, .int .u32 0, .int .u32 0, .int .u32 0] 126)).heap[w1.heap.size]? = some (.cells #[.int .u32 0, .int .u32 0, .int .u32 0, .int .u32 0, .int .u32 0, .int .u32 0, .int .u32 0, .int .u32 0, .int .u32 0, .int .u32 0, .int .u32 0, .int .u32 0, .int .u32 0, .int .u32 0, .int .u32 0, .int .u32 0] 126 (0, 0))) := Lib.hid (heap_alloc_new w1 _)
  clear hb1 C1
  go_upto_region 2 with ((with_reducible refine wpList_store_row rfl 126 (.tmp 7) (.tmp 17) rfl (w1.heap.size) fs rfl rfl 126 _ z0.out HI.out HO.out HONE.out ?_); rw [World.setRow_alloc_new])
  have HX : Wx (w1.alloc (.cells fs 126)) w1.heap.size F := by unfold Wx; rw [← HFS.out]; exact heap_alloc_new w1 _
  have HBA := Lib.hid (HB1.out.trans (((Below.refl w1.heap.size w1).alloc (Nat.le_refl _) (.cells fs 126)).mono hz1))
  have hzs : (w1.alloc (.cells fs 126)).heap.size = w1.heap.size + 1 := by simp
  obtain ⟨b, hb⟩ : ∃ b, b = w1.heap.size := ⟨_, rfl⟩
  rw [← hb] at HX hzs ⊢
  generalize w1.alloc (.cells fs 126) = Y at HX HBA hzs ⊢
  have hbw : w.heap.size ≤ b := by omega
  have hzY : b < Y.heap.size := by omega
  have hx0 : Y.heap[b]? = some (.cells fs 126 (0, 0)) := by unfold Wx at HX; rw [← HFS.out] at HX; exact HX
  have HX0 := Lib.hid hx0
  have z1 : Hid ((Y.alloc (.cells #[.int .u32 0, .int .u32 0, .int .u32 0, .int .u32 0, .int .u32 0, .int .u32 0, .int .u32 0, .int .u32 0, .int .u32 0, .int .u32 0, .int .u32 0, .int .u32 0, .int .u32 0, .int .u32 0, .int .u32 0, .int .u32 0] 126)).heap[Y.heap.size]? = some (.cells #[.int .u32 0, .int .u32 0, .int .u32 0, .int .u32 0, .int .u32 0, .int .u32 0, .int .u32 0, .int .u32 0, .int .u32 0, .int .u32 0, .int .u32 0, .int .u32 0, .int .u32 0, .int .u32 0, .int .u32 0, .int .u32 0] 126 (0, 0))) := Lib.hid (heap_alloc_new Y _)
  clear hzs hb HX z0 hx0
  go_upto_region 3 with (first
    | (with_reducible refine wpList_load_row rfl 126 (.tmp 7) rfl (b) rfl 126 fs (0, 0) _ HX0.out Try.underlying126 rfl HI.out ?_)
    | ((with_reducible refine wpList_store_row rfl 126 (.tmp 8) (.tmp 18) rfl (Y.heap.size) fs rfl rfl 126 _ z1.out HI.out HO.out HONE.out ?_); rw [World.setRow_alloc_new]))
  have HXF : Wx (Y.alloc (.cells fs 126)) b F := by unfold Wx; rw [← HFS.out]; exact (heap_alloc_old Y _ hzY).trans HX0.out
  have HXM : Wx (Y.alloc (.cells fs 126)) Y.heap.size F := by unfold Wx; rw [← HFS.out]; exact heap_alloc_new Y _
  have HB2 := Lib.hid (HBA.out.trans (((Below.refl Y.heap.size Y).alloc (Nat.le_refl _) (.cells fs 126)).mono HBA.out.size))
  obtain ⟨b1, hb1⟩ : ∃ b1, b1 = Y.heap.size := ⟨_, rfl⟩
  rw [← hb1] at HXM ⊢
  have hbb : b < b1 := by omega
  generalize Y.alloc (.cells fs 126) = Y2 at HXF HXM HB2 ⊢
  have HXF := Lib.hid HXF; have HXM := Lib.hid HXM
  clear hb1 hzY HX0 z1 HBA HB1 hz1
  go_wp2_with fail
  go_loopw [19] (fun i wr => ∃ r : Nat, r ≤ 10 ∧ i = .int .i64 (r : Int) ∧ Hid (Wx wr b F) ∧ Hid (Wx wr b1 (qn (8 * r) F)) ∧ Hid (Below w.heap.size w wr)) (fun i _ => 10 - (intOf i).toNat)
  case atStart => exact ⟨0, Nat.zero_le _, rfl, HXF, HXM, HB2⟩
  case round =>
    obtain ⟨r, hr10, rfl, hxf, hxm, hbe⟩ := hrel
    clear HXF HXM HB2
    by_cases hlt : r < 10
    · have hI : (r : Int) < 10 := by omega
      obtain ⟨M, hM⟩ : ∃ M, M = qn (8 * r) F := ⟨_, rfl⟩
      have hMl : M.length = 16 := by rw [hM, qn_len]; exact HFL.out
      obtain ⟨ms, hms⟩ : ∃ ms : Array Value, ms = (M.map vw).toArray := ⟨_, rfl⟩
      have hm0 : wr.heap[b1]? = some (.cells ms 126 (0, 0)) := by
        have h := hxm.out
        unfold Wx at h
        rw [← hM, ← hms] at h
        exact h
      obtain ⟨N, hN⟩ : ∃ N, N = d8 8 M := ⟨_, rfl⟩
      have hNl : N.length = 16 := by rw [hN, d8_len]; exact hMl
      obtain ⟨ns, hns⟩ : ∃ ns : Array Value, ns = (N.map vw).toArray := ⟨_, rfl⟩
      have CD := double_any hMl wr
      rw [← hN, ← hms, ← hns] at CD
      have CD := Lib.hid CD
      have HIM := Lib.hid (info16 hMl)
      have HIN := Lib.hid (info16 hNl)
      have HONEN := Lib.hid (all_oneCell_toArray (vw_one N))
      rw [← hms] at HIM
      rw [← hns] at HIN HONEN
      have HON : Hid (ms.size = ns.size) := Lib.hid (by rw [hms, hns]; simp [hMl, hNl])
      have HM0 := Lib.hid hm0
      have HNS := Lib.hid hns
      have HQ : Hid (N = qn (8 * (r + 1)) F) := Lib.hid (by rw [hN, hM, qn_double])
      have hb1l := hxm.out.lt
      clear hM hMl hms hm0 hN hNl hns
      go_wp2_with (first
        | (with_reducible refine wpList_load_row rfl 126 (.tmp 8) rfl (b1) rfl 126 ms (0, 0) _ HM0.out Try.underlying126 rfl HIM.out ?_)
        | fail)
      with_reducible refine (CD.out).mono ?_
      rintro e2 w2 ⟨rfl, hb2⟩
      have HM2 := Lib.hid ((hb2.block b1 hb1l).trans HM0.out)
      have HX2 : Hid (Wx (w2.setRow b1 ns) b F) := Lib.hid (by
        unfold Wx
        exact (setRow_other _ _ _ _ (by omega)).trans (hxf.out.below hb2 hxf.out.lt))
      have HN2 : Hid (Wx (w2.setRow b1 ns) b1 (qn (8 * (r + 1)) F)) := Lib.hid (by
        rw [← HQ.out]
        unfold Wx
        rw [← HNS.out]
        exact setRow_heap _ _ _ _ _ _ HM2.out)
      have hb02 := hbe.out.trans (hb2.mono hbe.out.size)
      have HB2 : Hid (Below w.heap.size w (w2.setRow b1 ns)) := Lib.hid ⟨hb02.os, hb02.tape, hb02.output, by rw [setRow_size]; exact hb02.size, fun j hj => (setRow_other _ _ _ _ (by omega)).trans (hb02.block j hj)⟩
      clear hb2 hb02 CD hxf hxm hbe
      go_wp2_with ((with_reducible refine wpList_store_row rfl 126 (.tmp 8) (.tmp 22) rfl (b1) ns rfl rfl 126 _ HM2.out HIN.out HON.out HONEN.out ?_))
      go_roundw
      case rel => exact ⟨r + 1, by omega, by go_num, HX2, HN2, HB2⟩
      case measure => simp [intOf]; omega
    · have hr3 : r = 10 := by omega
      have hI : ¬ (r : Int) < 10 := by omega
      obtain ⟨S, hS⟩ : ∃ S, S = qn 80 F := ⟨_, rfl⟩
      have hxs : Wx wr b1 S := by rw [hS]; have h := hxm.out; rw [hr3] at h; exact h
      have hSl : S.length = 16 := by rw [hS, qn_len]; exact HFL.out
      have HS := Lib.hid hS; have HXS := Lib.hid hxs; have HSL := Lib.hid hSl
      clear hr3 hS hxs hSl hxm
      obtain ⟨ss, hss⟩ : ∃ ss : Array Value, ss = (S.map vw).toArray := ⟨_, rfl⟩
      have hidx : ∀ (k : Nat), k < 16 → ∀ W, (Instr.index 126 (.agg ss) (.int .i64 (k : Int))).run Try.prog W = .ok (.int .u32 ((gw S k).toNat : Int)) W := fun k hk W => by rw [hss]; exact idx16 HSL.out hk W
      have HIDX := Lib.hid hidx
      have HIS := Lib.hid (info16 HSL.out)
      rw [← hss] at HIS
      have hmk : ∀ W : World, (Instr.makeSlice 22 (.int .i64 64) (.int .i64 64)).run Try.prog W = .ok (.slice (some ⟨W.heap.size, 0, none⟩) 64 64) (W.alloc (.cells (madeCells #[Value.int .u8 0] 64) 5)) := fun W => by
        have h := run_make_row' (P := Try.prog) 22 5 (.int .u8 0) 1 Try.underlying22 u8info rfl .i64 .i64 64 (by omega) (by omega) W
        exact h
      have hs0 : (wr.alloc (.cells (madeCells #[Value.int .u8 0] 64) 5)).heap[b1]? = some (.cells ss 126 (0, 0)) := by
        have h := HXS.out
        unfold Wx at h
        rw [← hss] at h
        exact (heap_alloc_old wr _ HXS.out.lt).trans h
      have HS0 := Lib.hid hs0
      have HXF2 := Lib.hid (hxf.out.below ((Below.refl wr.heap.size wr).alloc (Nat.le_refl _) (.cells (madeCells #[Value.int .u8 0] 64) 5)) hxf.out.lt)
      have HG : Hid ((wr.alloc (.cells (madeCells #[Value.int .u8 0] 64) 5)).heap[wr.heap.size]? = some (.cells ((outP S F 0).map vb).toArray 5 (0, 0))) := Lib.hid (by
        have e : (outP S F 0).map vb = List.replicate 64 (Value.int .u8 0) := by simp [outP, outB, vb]
        rw [heap_alloc_new wr _, e, ← toList_madeCells_one, Array.toArray_toList])
      have HBW := Lib.hid (hbe.out.trans (((Below.refl wr.heap.size wr).alloc (Nat.le_refl _) (.cells (madeCells #[Value.int .u8 0] 64) 5)).mono hbe.out.size))
      have hgw : w.heap.size ≤ wr.heap.size := hbe.out.size
      have hbg : b < wr.heap.size := hxf.out.lt
      have hzY4 : (wr.alloc (.cells (madeCells #[Value.int .u8 0] 64) 5)).heap.size = wr.heap.size + 1 := by simp
      clear hss hidx hs0 hxf hbe
      go_wp2_with (first
        | (with_reducible refine wpList_load_row rfl 126 (.tmp 8) rfl (b1) rfl 126 ss (0, 0) _ HS0.out Try.underlying126 rfl HIS.out ?_)
        | fail)
      obtain ⟨g, hg⟩ : ∃ g, g = wr.heap.size := ⟨_, rfl⟩
      rw [← hg] at HG hgw hbg hzY4 ⊢
      generalize wr.alloc (.cells (madeCells #[Value.int .u8 0] 64) 5) = Y4 at HS0 HXF2 HG HBW hzY4 ⊢
      have hgY : g < Y4.heap.size := by omega
      clear hg hzY4 hmk
      go_loopw [26] (fun i wr => ∃ k : Nat, k ≤ 16 ∧ i = .int .i64 (k : Int) ∧ Hid (Wx wr b F) ∧ Hid (wr.heap[g]? = some (.cells ((outP S F k).map vb).toArray 5 (0, 0))) ∧ Hid (Below w.heap.size w wr)) (fun i _ => 16 - (intOf i).toNat)
      case atStart => exact ⟨0, Nat.zero_le _, rfl, HXF2, HG, HBW⟩
      case round =>
        obtain ⟨k, hk16, rfl, hxf, hgr, hbe⟩ := hrel
        clear HXF2 HG HBW HS0
        by_cases hlt : k < 16
        · have hI : (k : Int) < 16 := by omega
          have h0I : (0 : Int) ≤ (k : Int) := by omega
          have hidx := HIDX.out k hlt
          obtain ⟨x, hx⟩ : ∃ x, x = gw S k := ⟨_, rfl⟩
          obtain ⟨y, hy⟩ : ∃ y, y = gw F k := ⟨_, rfl⟩
          rw [← hx] at hidx
          have hcell := hxf.out.get (j := k) (by rw [HFL.out]; exact hlt)
          rw [← hy] at hcell
          obtain ⟨z, hz⟩ : ∃ z, z = x + y := ⟨_, rfl⟩
          have hadd : IntKind.u32.wrap ((x.toNat : Int) + (y.toNat : Int)) = (z.toNat : Int) := by rw [hz]; exact w_add x y
          have hcv : IntKind.u64.wrap (z.toNat : Int) = (z.toNat : Int) := IntWalk.u64_in _ (by have := z.toNat_lt; omega)
          have CP := put_little 4 z.toNat (by omega) (by omega) (by have := z.toNat_lt; simp; omega) wr
          rw [show ((4 : Nat) : Int) = 4 from rfl] at CP
          have CP := Lib.hid CP
          have hw4 : IntKind.i64.wrap (4 * (k : Int)) = 4 * (k : Int) := IntWalk.i64_in _ (by omega)
          obtain ⟨D, hD, hcut⟩ := cut_l (A := some ⟨g, 0, none⟩) (n := 64) (c := 64) (l := 4 * k) (by omega) (Nat.le_refl _)
          rw [show ((4 * k : Nat) : Int) = 4 * (k : Int) by omega] at hcut
          have HD := Lib.hid hD
          have HXY : Hid (z = gw S k + gw F k) := Lib.hid (by rw [hz, hx, hy])
          clear hD hx hy hz
          go_wp2_with fail
          with_reducible refine (CP.out).mono ?_
          rintro e5 w5 ⟨v5, rfl, ho5, hb5⟩
          obtain ⟨A5, c5, rfl⟩ := ho5.shape
          have hgr2 := (hb5.block g (by have := (Array.getElem?_eq_some_iff.1 hgr.out).1; exact this)).trans hgr.out
          have HXF5 := Lib.hid (hxf.out.below hb5 hxf.out.lt)
          have HBE5 := Lib.hid (hbe.out.trans (hb5.mono hbe.out.size))
          have hl4 : (putL 1 4 z.toNat).length = 4 := putL_length 1 4 z.toNat
          rw [hl4] at ho5 ⊢
          have hb5s := ho5.bs
          obtain ⟨A6, c6, e6, g1, g2, g3⟩ := hb5s
          simp only [Value.slice.injEq] at e6
          obtain ⟨rfl, e62, rfl⟩ := e6
          have G3 := Lib.hid g3
          have HL4 := Lib.hid hl4
          clear g3 CP hgr hxf hbe ho5 g1 g2 e62 hl4
          go_wp2_with (with_reducible refine wpList_copy_splice rfl (.tmp 43) (.tmp 44) 22 22 rfl 5 Try.underlying22 u8size _ _ _ _ _ _ rfl rfl g (4 * k) _ 5 hgr2 ((putL 1 4 z.toNat).map vb) ?_ ?_ ?_ (vb_one _) g w5 (Below.refl _ _) (Nat.le_refl _) ?_)
          all_goals first
            | (rw [List.length_map, HL4.out]; exact (Nat.min_eq_left (by omega)).symm)
            | (simp only [List.length_map]; rw [outP_len S F (by omega), HL4.out]; omega)
            | (intro hp; have hp' : 0 < (putL 1 4 z.toNat).length := by simpa using hp
               obtain ⟨b2, off2, rfl, _, hc2⟩ := G3.out hp'
               refine ⟨by rw [HD.out (by omega)]; simp [Addr.add_lit], _, rfl, fun i x hx => ?_⟩
               rw [List.getElem?_map] at hx
               obtain ⟨y, hy, rfl⟩ := Option.map_eq_some_iff.1 hx
               obtain ⟨hi, rfl⟩ := List.getElem?_eq_some_iff.1 hy
               rw [add_none]; exact hc2 i hi)
            | skip
          intro w6 hg6 hb6
          rw [HXY.out, outP_splice S F hlt] at hg6
          have HX6 := Lib.hid (HXF5.out.below hb6 hbg)
          have HB6 := Lib.hid (HBE5.out.trans (hb6.mono hgw))
          clear hcut hb6
          go_wp2
          go_roundw
          case rel => exact ⟨k + 1, by omega, by go_num, HX6, hg6, HB6⟩
          case measure => simp [intOf]; omega
        · have hk3 : k = 16 := by omega
          have hI : ¬ (k : Int) < 16 := by omega
          have hg3 : wr.heap[g]? = some (.cells ((outP S F 16).map vb).toArray 5 (0, 0)) := by rw [← hk3]; exact hgr.out
          rw [outP_end] at hg3
          have hown := Own.of_cells (B := w.heap.size) (l := outB S F 16) hg3 hgw (by rw [outB_len]; unfold maxLen; omega) rfl
          rw [outB_len] at hown
          have HOWN := Lib.hid hown
          have HBL : Hid (blockL key nonce c = outB S F 16) := Lib.hid (by rw [blockL, ← HF.out, HS.out])
          clear hk3 hg3 hown
          go_wp2
          go_ret
          exact ⟨_, rfl, by rw [HBL.out]; exact HOWN.out, hbe.out⟩
end Go.Proofs.Ytifgigpflfdmfaa
