/- Expand of mac. -/
import Derived.Test.YtifgigpflfdmfaaX1
namespace Go.Proofs.Ytifgigpflfdmfaa
open Go.RowKit

theorem expand_arg {n : Int} {v u : Value} {w : World} (h : n < 0 ∨ 8160 < n) :
    Calls Try.prog 40 #[v, .int .i64 n, u] w fun e w' => e = .returned (.tuple #[.slice none 0 0, .int .i64 1]) ∧ w = w' := by
  by_cases h0 : n < 0
  · clear h
    go_enter Try.func40, Try.ntmps40
    go_wp2
    go_ret2
    exact ⟨rfl, rfl⟩
  · have h1 : 8160 < n := by omega
    have hd : decide (n < 0) = false := by simpa using h0
    clear h
    go_enter Try.func40, Try.ntmps40
    go_wp2
    go_ret2
    exact ⟨rfl, rfl⟩

theorem rs_three (w : World) {B : Nat} {v0 v1 v2 : Value} {a b c : List UInt8} (h0 : Bs w B v0 a) (h1 : Bs w B v1 b) (h2 : Bs w B v2 c) (hB : B ≤ w.heap.size) :
    Rs (w.alloc (.cells #[v0, v1, v2] 22)) (w.heap.size + 1) (.slice (some ⟨w.heap.size, 0, none⟩) 3 3) [a, b, c] := by
  have h := Rs.lit w [v0, v1, v2] [a, b, c] rfl (by unfold maxLen; simp) (fun j h h' => by
    match j, h, h' with
    | 0, _, _ => exact h0.more hB
    | 1, _, _ => exact h1.more hB
    | 2, _, _ => exact h2.more hB)
  simpa using h

theorem alloc_block2 {w : World} {b : Nat} {x : Obj} (h : w.heap[b]? = some x) (o : Obj) : (w.alloc o).heap[b]? = some x := (heap_alloc_old w o (Array.getElem?_eq_some_iff.1 h).1).trans h
set_option maxRecDepth 100000 in
set_option maxHeartbeats 16000000 in
theorem expand_ok {key : List UInt8} {ls : List (List UInt8)} {v u : Value} {w : World} {B n : Nat} (hb : Bs w B v key) (hr : Rs w B u ls) (hB : B ≤ w.heap.size) (hlen : key.length ≤ 1152921504606846000) (hlen2 : ls.flatten.length ≤ 281474976710656) (hn : n ≤ 8160) :
    Calls Try.prog 40 #[v, .int .i64 (n : Int), u] w fun e w' => ∃ r, e = .returned (.tuple #[r, .int .i64 0]) ∧ Own w' w.heap.size r (expL key ls.flatten n) ∧ Below w.heap.size w w' := by
  have C0 := Lib.hid (join_any hr hB hlen2)
  have HK := Lib.hid hb
  obtain ⟨info, hin⟩ : ∃ info, info = ls.flatten := ⟨_, rfl⟩
  rw [← hin] at C0 hlen2 ⊢
  have hmk := run_make_row' (P := Try.prog) 22 5 (.int .u8 0) 1 Try.underlying22 u8info rfl .i64 .i64 n (by omega) (by omega)
  have hd : decide ((n : Int) < 0) = false := by simp
  have hd2 : decide ((8160 : Int) < (n : Int)) = false := by simp; omega
  clear hb hr hin
  go_enter Try.func40, Try.ntmps40
  go_wp2_with fail
  refine (C0.out).mono ?_
  rintro e w1 ⟨v1, rfl, ho1, hb1⟩
  have hz1 := hb1.size
  obtain ⟨A1, c1, rfl⟩ := ho1.shape
  have HA1 := Lib.hid (ho1.bs.alloc (Nat.le_refl _) (.cells (madeCells #[Value.int .u8 0] n) 5))
  have hrow : (w1.alloc (.cells (madeCells #[Value.int .u8 0] n) 5)).heap[w1.heap.size]? = some (.cells ((rowX key info n 0).map vb).toArray 5 (0, 0)) := by
    rw [heap_alloc_new, rowX_zero]
    congr 2
    apply Array.toList_inj.1
    rw [toList_madeCells_one]
    simp [zs, vb]
  have HR := Lib.hid hrow
  have HB1 := Lib.hid (hb1.alloc hz1 (.cells (madeCells #[Value.int .u8 0] n) 5))
  have HZ2 : Hid ((w1.alloc (.cells (madeCells #[Value.int .u8 0] n) 5)).heap.size = w1.heap.size + 1) := Lib.hid (by simp)
  clear hrow ho1 hb1 C0
  go_wp2_with fail
  clear hmk hd hd2
  generalize w1.alloc (.cells (madeCells #[Value.int .u8 0] n) 5) = W2 at HA1 HR HB1 HZ2 ⊢
  go_loopw [10, 11] (fun l i wr => ∃ k : Nat, 32 * k < n + 32 ∧ i = .int .i64 k ∧ Hid (Bs wr wr.heap.size l (tagE key info k)) ∧ Hid (wr.heap[w1.heap.size]? = some (.cells ((rowX key info n k).map vb).toArray 5 (0, 0))) ∧ Hid (Below w1.heap.size W2 wr)) (fun _ i _ => (n + 32) - 32 * (intOf i).toNat)
  case atStart => exact ⟨0, by omega, rfl, Lib.hid (Bs.nil _ _), HR, Lib.hid (Below.refl _ _)⟩
  case round =>
    obtain ⟨k, hk, rfl, hlast, hout, hbe⟩ := hrel
    have hzr := hbe.out.size
    have hz2 := HZ2.out
    have hbw := HB1.out.trans (hbe.out.mono hz1)
    have HBW := Lib.hid hbw
    clear hbw
    by_cases hlt : 32 * k < n
    · have hmul : IntKind.i64.wrap ((k : Int) * 32) = (k : Int) * 32 := by rw [IntKind.wrap_i64]; omega
      obtain ⟨bt, hbt⟩ : ∃ bt : UInt8, bt = UInt8.ofNat (k + 1) := ⟨_, rfl⟩
      have hby : IntKind.u8.wrap ((k : Int) + 1) = (bt.toNat : Int) := by
        rw [hbt, IntKind.wrap_u8]
        simp
      have HBT := Lib.hid hbt
      have hd : decide ((k : Int) * 32 < (n : Int)) = true := by simp; omega
      obtain ⟨A0, c0, rfl⟩ := hlast.out.shape
      obtain ⟨nl, hnl⟩ : ∃ nl, nl = (tagE key info k).length := ⟨_, rfl⟩
      have htl : (tagE key info k).length ≤ 32 := by
        cases k with
        | zero => simp [tagE]
        | succ k => rw [tagE_len]; exact Nat.le_refl _
      have hlb := hlast.out
      rw [← hnl] at hlb ⊢
      have hal : Below wr.heap.size wr (wr.alloc (.cells #[.int .u8 (bt.toNat : Int)] 5)) := (Below.refl _ _).alloc (Nat.le_refl _) _
      have hzs : (wr.alloc (.cells #[.int .u8 (bt.toNat : Int)] 5)).heap.size = wr.heap.size + 1 := by simp
      have kb : Bs (wr.alloc (.cells #[.int .u8 (bt.toNat : Int)] 5)) (wr.heap.size + 1) (.slice (some ⟨wr.heap.size, 0, none⟩) 1 1) [bt] := Bs.one wr bt
      have hrs := rs_three _ ((hlb.below hal (Nat.le_refl _)).more (Nat.le_succ _)) (((HA1.out.below hbe.out (Nat.le_refl _)).below hal (by omega)).more (by omega)) kb (by rw [hzs]; exact Nat.le_refl _)
      rw [hzs] at hrs
      have hbb : Below w.heap.size w ((wr.alloc (.cells #[.int .u8 (bt.toNat : Int)] 5)).alloc (.cells #[.slice A0 nl c0, .slice A1 info.length c1, .slice (some ⟨wr.heap.size, 0, none⟩) 1 1] 22)) := (HBW.out.alloc HBW.out.size _).alloc (by rw [hzs]; have := HBW.out.size; omega) _
      have hzz : ((wr.alloc (.cells #[.int .u8 (bt.toNat : Int)] 5)).alloc (.cells #[.slice A0 nl c0, .slice A1 info.length c1, .slice (some ⟨wr.heap.size, 0, none⟩) 1 1] 22)).heap.size = wr.heap.size + 2 := by simp
      have ct := tag_any (key := key) ((HK.out.below hbb hB).more (B' := wr.heap.size + 1 + 1) (by have := HBW.out.size; omega)) hrs (by rw [hzz]; exact Nat.le_refl _) hlen (by simp only [List.flatten_cons, List.flatten_nil, List.length_append, List.length_nil, List.length_cons]; omega)
      have hfl : [tagE key info k, info, [bt]].flatten = tagE key info k ++ info ++ [UInt8.ofNat (k + 1)] := by rw [hbt]; simp
      rw [hfl] at ct
      obtain ⟨us, hus⟩ : ∃ us : Array Value, us = ((tagE key info (k + 1)).map vb).toArray := ⟨_, rfl⟩
      have CT : Hid (Calls Try.prog 43 #[v, .slice (some ⟨wr.heap.size + 1, 0, none⟩) 3 3] ((wr.alloc (.cells #[.int .u8 (bt.toNat : Int)] 5)).alloc (.cells #[.slice A0 nl c0, .slice A1 info.length c1, .slice (some ⟨wr.heap.size, 0, none⟩) 1 1] 22)) fun e w' => e = .returned (.agg us) ∧ Below (wr.heap.size + 2) ((wr.alloc (.cells #[.int .u8 (bt.toNat : Int)] 5)).alloc (.cells #[.slice A0 nl c0, .slice A1 info.length c1, .slice (some ⟨wr.heap.size, 0, none⟩) 1 1] 22)) w') := Lib.hid (by
        rw [hzz] at ct
        rw [hus]
        exact ct)
      have HUS := Lib.hid hus; have HAL := Lib.hid hal; have HZZ := Lib.hid hzz
      have HBA := Lib.hid ((((Below.refl w1.heap.size W2).trans hbe.out).alloc (by omega) (.cells #[.int .u8 (bt.toNat : Int)] 5)).alloc (by rw [hzs]; omega) (.cells #[.slice A0 nl c0, .slice A1 info.length c1, .slice (some ⟨wr.heap.size, 0, none⟩) 1 1] 22))
      have HOA := Lib.hid (alloc_block2 (alloc_block2 hout.out (.cells #[.int .u8 (bt.toNat : Int)] 5)) (.cells #[.slice A0 nl c0, .slice A1 info.length c1, .slice (some ⟨wr.heap.size, 0, none⟩) 1 1] 22))
      clear hbt hnl htl hlb hal hzs kb hrs hbb hzz ct hfl hus hlast
      go_wp2_with fail
      with_reducible refine (CT.out).mono ?_
      rintro e w4 ⟨rfl, hb4⟩
      have hz4 := hb4.size
      rw [HZZ.out] at hz4
      have hsz : us.size = 32 := by rw [HUS.out]; simp [tagE_len]
      have hone : Hid (us.all (·.oneCell') = true) := by rw [HUS.out]; exact Lib.hid (one_bytes _)
      have hi : Hid ((Try.prog.info? 29).map (·.size) = some us.size) := by rw [hsz]; exact Lib.hid (by show _ = _; kernel_rfl)
      have ho : Hid ((#[.int .u8 0, .int .u8 0, .int .u8 0, .int .u8 0, .int .u8 0, .int .u8 0, .int .u8 0, .int .u8 0, .int .u8 0, .int .u8 0, .int .u8 0, .int .u8 0, .int .u8 0, .int .u8 0, .int .u8 0, .int .u8 0, .int .u8 0, .int .u8 0, .int .u8 0, .int .u8 0, .int .u8 0, .int .u8 0, .int .u8 0, .int .u8 0, .int .u8 0, .int .u8 0, .int .u8 0, .int .u8 0, .int .u8 0, .int .u8 0, .int .u8 0, .int .u8 0] : Array Value).size = us.size) := by rw [hsz]; exact Lib.hid (by show _ = _; rfl)
      have hz : Hid ((w4.alloc (.cells #[.int .u8 0, .int .u8 0, .int .u8 0, .int .u8 0, .int .u8 0, .int .u8 0, .int .u8 0, .int .u8 0, .int .u8 0, .int .u8 0, .int .u8 0, .int .u8 0, .int .u8 0, .int .u8 0, .int .u8 0, .int .u8 0, .int .u8 0, .int .u8 0, .int .u8 0, .int .u8 0, .int .u8 0, .int .u8 0, .int .u8 0, .int .u8 0, .int .u8 0, .int .u8 0, .int .u8 0, .int .u8 0, .int .u8 0, .int .u8 0, .int .u8 0, .int .u8 0] 29)).heap[w4.heap.size]? = some (.cells #[.int .u8 0, .int .u8 0, .int .u8 0, .int .u8 0, .int .u8 0, .int .u8 0, .int .u8 0, .int .u8 0, .int .u8 0, .int .u8 0, .int .u8 0, .int .u8 0, .int .u8 0, .int .u8 0, .int .u8 0, .int .u8 0, .int .u8 0, .int .u8 0, .int .u8 0, .int .u8 0, .int .u8 0, .int .u8 0, .int .u8 0, .int .u8 0, .int .u8 0, .int .u8 0, .int .u8 0, .int .u8 0, .int .u8 0, .int .u8 0, .int .u8 0, .int .u8 0] 29 (0, 0))) := Lib.hid (heap_alloc_new w4 _)
      have cutI : ∀ W, (Instr.sliceAt 29 (.pointer (some ⟨w4.heap.size, 0, none⟩)) none none none).run Try.prog W = .ok (.slice (some ⟨w4.heap.size, 0, none⟩) 32 32) W := fun W => cut32_all W
      obtain ⟨D, hD, hcut⟩ := cut_l (A := some ⟨w1.heap.size, 0, none⟩) (n := n) (c := n) (l := 32 * k) (by omega) (Nat.le_refl _)
      have eD : D = some ⟨w1.heap.size, 32 * k, none⟩ := by rw [hD hlt]; simp [Addr.add_lit]
      subst eD
      have ek : ((32 * k : Nat) : Int) = (k : Int) * 32 := by omega
      rw [ek] at hcut
      have HH4 := Lib.hid ((hb4.block w1.heap.size (by omega)).trans HOA.out)
      have HB4 := Lib.hid (HBA.out.trans (hb4.mono (by omega)))
      have HH5 := Lib.hid (alloc_block2 HH4.out (.cells us 29))
      have HCL : Hid (((goE key info n k).map vb).length = Nat.min 32 (n - 32 * k)) := Lib.hid (by rw [List.length_map, goE_len])
      have HCF : Hid (32 * k + ((goE key info n k).map vb).length ≤ (((rowX key info n k).map vb).toArray).size) := Lib.hid (by
        rw [HCL.out, List.size_toArray, List.length_map, rowX_len]
        have hmin : Nat.min 32 (n - 32 * k) ≤ n - 32 * k := Nat.min_le_right _ _
        omega)
      have HC1 : Hid (∀ v ∈ (goE key info n k).map vb, v.oneCell' = true) := Lib.hid (vb_one _)
      have HCS : Hid (∀ j v, ((goE key info n k).map vb)[j]? = some v → (w4.alloc (.cells us 29)).cell? ((⟨w4.heap.size, 0, none⟩ : Addr).add j) = some v) := Lib.hid (fun j v hv => by
        obtain ⟨hj, _⟩ := List.getElem?_eq_some_iff.1 hv
        rw [add_none, Nat.zero_add, cell_of_row _ _ j _ _ _ (heap_alloc_new w4 _), HUS.out, List.getElem?_toArray, List.getElem?_map]
        rw [List.getElem?_map, goE, List.getElem?_take] at hv
        split at hv
        · exact hv
        · simp at hv)
      obtain ⟨CU, hCU⟩ : ∃ CU, CU = (rowX key info n k).map vb := ⟨_, rfl⟩
      obtain ⟨CS, hCS⟩ : ∃ CS, CS = (goE key info n k).map vb := ⟨_, rfl⟩
      have hrs := rowX_succ key info hlt
      rw [← hCU] at HH5 HCF hrs
      rw [← hCS] at HCL HCF HC1 HCS hrs
      have HRS := Lib.hid hrs
      clear hD ek hb4 HBA HOA hsz hCU hCS hrs
      go_wp2_with (first
        | ((with_reducible refine wpList_store_row rfl 29 (.tmp 12) (.tmp 37) rfl (w4.heap.size) us rfl rfl 29 _ hz.out hi.out ho.out hone.out ?_); rw [World.setRow_alloc_new])
        | (with_reducible refine wpList_copy_own rfl (.tmp 42) (.tmp 43) 22 22 rfl 5 Try.underlying22 u8size w1.heap.size (32 * k) (n - 32 * k) (n - 32 * k) ⟨w4.heap.size, 0, none⟩ 32 32 rfl rfl _ 5 HH5.out _ HCL.out HCS.out HCF.out HC1.out ?_))
      have hfold : List.take (32 * k) CU ++ (CS ++ List.drop (32 * k + CS.length) CU) = (rowX key info n (k + 1)).map vb := HRS.out
      rw [hfold]
      clear hfold
      have hb5 : Below w1.heap.size W2 (w4.alloc (.cells us 29)) := HB4.out.alloc (by omega) _
      have hb6 := below_setRow hb5 (Nat.le_refl _) ((rowX key info n (k + 1)).map vb).toArray
      have hr6 := setRow_heap (w4.alloc (.cells us 29)) w1.heap.size _ ((rowX key info n (k + 1)).map vb).toArray 5 _ HH5.out
      have hr7 : ((w4.alloc (.cells us 29)).setRow w1.heap.size ((rowX key info n (k + 1)).map vb).toArray).heap[w4.heap.size]? = some (.cells us 29 (0, 0)) := (setRow_other _ _ _ _ (by omega)).trans (heap_alloc_new w4 _)
      have hr8 : Bs ((w4.alloc (.cells us 29)).setRow w1.heap.size ((rowX key info n (k + 1)).map vb).toArray) ((w4.alloc (.cells us 29)).setRow w1.heap.size ((rowX key info n (k + 1)).map vb).toArray).heap.size (.slice (some ⟨w4.heap.size, 0, none⟩) 32 32) (tagE key info (k + 1)) := by
        have h : Bw ((w4.alloc (.cells us 29)).setRow w1.heap.size ((rowX key info n (k + 1)).map vb).toArray) w4.heap.size 29 (tagE key info (k + 1)) := by rw [HUS.out] at hr7 ⊢; exact hr7
        have h2 := h.bs (by rw [tagE_len]; unfold maxLen; omega)
        rw [tagE_len] at h2
        exact h2
      have HB6 := Lib.hid hb6; have HR6 := Lib.hid hr6; have HR8 := Lib.hid hr8
      clear hb5 hb6 hr6 hr7 hr8
      go_roundw
      case rel => exact ⟨k + 1, by omega, by go_num, HR8, HR6, HB6⟩
      case measure => simp [intOf]; omega
    · have hd : decide ((k : Int) * 32 < (n : Int)) = false := by simp; omega
      have hfin := Own.of_cells (B := w.heap.size) (l := rowX key info n k) hout.out (by omega) (by rw [rowX_len]; unfold maxLen; omega) rfl
      rw [rowX_len, rowX_end key info (by omega)] at hfin
      have HF := Lib.hid hfin
      clear hfin
      go_wp2
      go_ret2
      exact ⟨_, rfl, HF.out, HBW.out⟩
end Go.Proofs.Ytifgigpflfdmfaa
