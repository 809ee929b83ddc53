/- begin of chacha. -/
import Derived.Test.YtifgigpflfdmfaaB2
namespace Go.Proofs.Ytifgigpflfdmfaa
open Go.RowKit

theorem wpList_builtC {P : Program} {ops : Array Oper} {rest : List Oper} {o : Oper} {a : Act} {w : World} {Q : Exit → Act → World → Prop} (hg : o.guard = none) (t : TypeId) (parts : Array (Nat × Operand)) (ho : o.op = .build t parts)
    (cs : Array Value) (hf : P.built t (parts.map fun (i, x) => (i, a.eval x)).toList = some cs) (h : wpList P ops Q rest (a.put o.dst (.agg cs)) w) : wpList P ops Q (o :: rest) a w :=
  wpList_build hg t parts ho (by rw [hf]; rfl) (by rw [hf]; exact h)

theorem setRow_size (w : World) (g : Nat) (cs : Array Value) : (w.setRow g cs).heap.size = w.heap.size := by simp [World.setRow]
set_option maxRecDepth 100000 in
set_option maxHeartbeats 4000000 in
theorem begin_any {key nonce : List UInt8} {vk vn : Value} {w : World} {B : Nat} {c : UInt32} (hk : Bs w B vk key) (hn : Bs w B vn nonce) (hB : B ≤ w.heap.size) (hkl : key.length = 32) (hnl : nonce.length = 12) :
    Calls Try.prog 95 #[vk, vn, .int .u32 (c.toNat : Int)] w fun e w' => e = .returned (.agg ((beginL key nonce c).map vw).toArray) ∧ Below w.heap.size w w' := by
  have HK := Lib.hid hk; have HN := Lib.hid hn
  obtain ⟨AK, cK, rfl⟩ := hk.shape
  obtain ⟨AN, cN, rfl⟩ := hn.shape
  have HKL := Lib.hid hkl; have HNL := Lib.hid hnl
  obtain ⟨L0, hL0⟩ : ∃ L0, L0 = bgA key 0 := ⟨_, rfl⟩
  have hl0 : L0.length = 16 := by rw [hL0]; exact bgA_len key (by omega)
  obtain ⟨cs, hcs⟩ : ∃ cs : Array Value, cs = (L0.map vw).toArray := ⟨_, rfl⟩
  have HI := Lib.hid (info16 hl0)
  have HONE := Lib.hid (all_oneCell_toArray (vw_one L0))
  rw [← hcs] at HI HONE
  have HO : Hid ((#[.int .u32 0, .int .u32 0, .int .u32 0, .int .u32 0, .int .u32 0, .int .u32 0, .int .u32 0, .int .u32 0, .int .u32 0, .int .u32 0, .int .u32 0, .int .u32 0, .int .u32 0, .int .u32 0, .int .u32 0, .int .u32 0] : Array Value).size = cs.size) := Lib.hid (by show 16 = _; rw [hcs, List.size_toArray, List.length_map, hl0])
  have HCS : Hid (cs = (L0.map vw).toArray) := Lib.hid hcs
  have HCL : Hid (cs = #[.int .u32 1634760805, .int .u32 857760878, .int .u32 2036477234, .int .u32 1797285236, .int .u32 0, .int .u32 0, .int .u32 0, .int .u32 0, .int .u32 0, .int .u32 0, .int .u32 0, .int .u32 0, .int .u32 0, .int .u32 0, .int .u32 0, .int .u32 0]) := Lib.hid (by rw [hcs, hL0]; rfl)
  have HL0 := Lib.hid hL0
  have z1 : Hid (((w.alloc (.cells #[.int .u32 0, .int .u32 0, .int .u32 0, .int .u32 0, .int .u32 0, .int .u32 0, .int .u32 0, .int .u32 0, .int .u32 0, .int .u32 0, .int .u32 0, .int .u32 0, .int .u32 0, .int .u32 0, .int .u32 0, .int .u32 0] 126)).alloc (.cells #[.int .u32 0, .int .u32 0, .int .u32 0, .int .u32 0, .int .u32 0, .int .u32 0, .int .u32 0, .int .u32 0, .int .u32 0, .int .u32 0, .int .u32 0, .int .u32 0, .int .u32 0, .int .u32 0, .int .u32 0, .int .u32 0] 126)).heap[w.heap.size + 1]? = some (.cells #[.int .u32 0, .int .u32 0, .int .u32 0, .int .u32 0, .int .u32 0, .int .u32 0, .int .u32 0, .int .u32 0, .int .u32 0, .int .u32 0, .int .u32 0, .int .u32 0, .int .u32 0, .int .u32 0, .int .u32 0, .int .u32 0] 126 (0, 0))) := Lib.hid (by
    have := heap_alloc_new (w.alloc (.cells #[.int .u32 0, .int .u32 0, .int .u32 0, .int .u32 0, .int .u32 0, .int .u32 0, .int .u32 0, .int .u32 0, .int .u32 0, .int .u32 0, .int .u32 0, .int .u32 0, .int .u32 0, .int .u32 0, .int .u32 0, .int .u32 0] 126)) (.cells #[.int .u32 0, .int .u32 0, .int .u32 0, .int .u32 0, .int .u32 0, .int .u32 0, .int .u32 0, .int .u32 0, .int .u32 0, .int .u32 0, .int .u32 0, .int .u32 0, .int .u32 0, .int .u32 0, .int .u32 0, .int .u32 0] 126)
    simpa using this)
  clear hk hn hkl hnl hcs hl0 hL0
  go_enter Try.func95, Try.ntmps95
  go_upto_region 2 with (first
    | (with_reducible refine wpList_builtC rfl 126 _ rfl cs (by rw [HCL.out]; kernel_rfl) ?_)
    | (with_reducible refine wpList_store_row rfl 126 (.tmp 7) (.tmp 10) rfl (w.heap.size + 1) cs rfl rfl 126 _ z1.out HI.out HO.out HONE.out ?_))
  have H1 : Wx (((w.alloc (.cells #[.int .u32 0, .int .u32 0, .int .u32 0, .int .u32 0, .int .u32 0, .int .u32 0, .int .u32 0, .int .u32 0, .int .u32 0, .int .u32 0, .int .u32 0, .int .u32 0, .int .u32 0, .int .u32 0, .int .u32 0, .int .u32 0] 126)).alloc (.cells #[.int .u32 0, .int .u32 0, .int .u32 0, .int .u32 0, .int .u32 0, .int .u32 0, .int .u32 0, .int .u32 0, .int .u32 0, .int .u32 0, .int .u32 0, .int .u32 0, .int .u32 0, .int .u32 0, .int .u32 0, .int .u32 0] 126)).setRow (w.heap.size + 1) cs) (w.heap.size + 1) L0 := by unfold Wx; rw [← HCS.out]; exact setRow_heap _ _ _ _ _ _ z1.out
  have H0 : (((w.alloc (.cells #[.int .u32 0, .int .u32 0, .int .u32 0, .int .u32 0, .int .u32 0, .int .u32 0, .int .u32 0, .int .u32 0, .int .u32 0, .int .u32 0, .int .u32 0, .int .u32 0, .int .u32 0, .int .u32 0, .int .u32 0, .int .u32 0] 126)).alloc (.cells #[.int .u32 0, .int .u32 0, .int .u32 0, .int .u32 0, .int .u32 0, .int .u32 0, .int .u32 0, .int .u32 0, .int .u32 0, .int .u32 0, .int .u32 0, .int .u32 0, .int .u32 0, .int .u32 0, .int .u32 0, .int .u32 0] 126)).setRow (w.heap.size + 1) cs).heap[w.heap.size]? = some (.cells #[.int .u32 0, .int .u32 0, .int .u32 0, .int .u32 0, .int .u32 0, .int .u32 0, .int .u32 0, .int .u32 0, .int .u32 0, .int .u32 0, .int .u32 0, .int .u32 0, .int .u32 0, .int .u32 0, .int .u32 0, .int .u32 0] 126 (0, 0)) := (setRow_other _ _ _ _ (by omega)).trans ((heap_alloc_old _ _ (by simp)).trans (heap_alloc_new w _))
  have HW : Below w.heap.size w (((w.alloc (.cells #[.int .u32 0, .int .u32 0, .int .u32 0, .int .u32 0, .int .u32 0, .int .u32 0, .int .u32 0, .int .u32 0, .int .u32 0, .int .u32 0, .int .u32 0, .int .u32 0, .int .u32 0, .int .u32 0, .int .u32 0, .int .u32 0] 126)).alloc (.cells #[.int .u32 0, .int .u32 0, .int .u32 0, .int .u32 0, .int .u32 0, .int .u32 0, .int .u32 0, .int .u32 0, .int .u32 0, .int .u32 0, .int .u32 0, .int .u32 0, .int .u32 0, .int .u32 0, .int .u32 0, .int .u32 0] 126)).setRow (w.heap.size + 1) cs) := ⟨rfl, rfl, rfl, by rw [setRow_size]; simp; omega, fun j hj => (setRow_other _ _ _ _ (by omega)).trans ((heap_alloc_old _ _ (by simp; omega)).trans (heap_alloc_old w _ hj))⟩
  obtain ⟨W1, hW1⟩ : ∃ W1, W1 = ((w.alloc (.cells #[.int .u32 0, .int .u32 0, .int .u32 0, .int .u32 0, .int .u32 0, .int .u32 0, .int .u32 0, .int .u32 0, .int .u32 0, .int .u32 0, .int .u32 0, .int .u32 0, .int .u32 0, .int .u32 0, .int .u32 0, .int .u32 0] 126)).alloc (.cells #[.int .u32 0, .int .u32 0, .int .u32 0, .int .u32 0, .int .u32 0, .int .u32 0, .int .u32 0, .int .u32 0, .int .u32 0, .int .u32 0, .int .u32 0, .int .u32 0, .int .u32 0, .int .u32 0, .int .u32 0, .int .u32 0] 126)).setRow (w.heap.size + 1) cs := ⟨_, rfl⟩
  rw [← hW1] at H0 H1 HW ⊢
  obtain ⟨b, hb⟩ : ∃ b, b = w.heap.size := ⟨_, rfl⟩
  obtain ⟨b1, hb1⟩ : ∃ b1, b1 = w.heap.size + 1 := ⟨_, rfl⟩
  rw [← hb1] at H1 ⊢
  rw [← hb] at H0 HW ⊢
  rw [HL0.out] at H1
  have hbw : w.heap.size ≤ b := by omega
  have hbw2 : b ≤ w.heap.size := by omega
  have hbb : b < b1 := by omega
  have HX1 := Lib.hid H1; have HR1 := Lib.hid H0; have HBW1 := Lib.hid HW
  clear hW1 hb hb1 H0 H1 HW z1 HI HO HONE HCS HCL HL0
  go_wp2_with fail
  go_loopw [11] (fun i wr => ∃ k : Nat, k ≤ 8 ∧ i = .int .i64 (k : Int) ∧ Hid (Wx wr b1 (bgA key k)) ∧ Hid (wr.heap[b]? = some (.cells #[.int .u32 0, .int .u32 0, .int .u32 0, .int .u32 0, .int .u32 0, .int .u32 0, .int .u32 0, .int .u32 0, .int .u32 0, .int .u32 0, .int .u32 0, .int .u32 0, .int .u32 0, .int .u32 0, .int .u32 0, .int .u32 0] 126 (0, 0))) ∧ Hid (Below b w wr)) (fun i _ => 8 - (intOf i).toNat)
  case atStart => exact ⟨0, Nat.zero_le _, rfl, HX1, HR1, HBW1⟩
  case round =>
    obtain ⟨k, hk8, rfl, hx, hr, hbe⟩ := hrel
    clear HX1 HR1 HBW1
    by_cases hlt : k < 8
    · have hI : (k : Int) < 8 := by omega
      have CWd := Lib.hid (word_any (i := k) (HK.out.below hbe.out (by omega)) (by have := HKL.out; omega) (by omega))
      have hln := bgA_len key (k := k) (by omega)
      obtain ⟨c1, f1, hset⟩ := hx.out.at_ (j := 4 + k) (by rw [hln]; omega)
      have hx2 := hset (wd key k)
      rw [bgA_set key hlt] at hx2
      obtain ⟨old, hold⟩ : ∃ old, old = (bgA key k)[4 + k]'(by rw [hln]; omega) := ⟨_, rfl⟩
      rw [← hold] at c1
      have HX2 := Lib.hid hx2
      have HR2 : Hid ((wr.setCell ⟨b1, 4 + k, none⟩ (.int .u32 ((wd key k).toNat : Int))).heap[b]? = some (.cells #[.int .u32 0, .int .u32 0, .int .u32 0, .int .u32 0, .int .u32 0, .int .u32 0, .int .u32 0, .int .u32 0, .int .u32 0, .int .u32 0, .int .u32 0, .int .u32 0, .int .u32 0, .int .u32 0, .int .u32 0, .int .u32 0] 126 (0, 0))) := Lib.hid ((Below.heap_setCell wr ⟨b1, 4 + k, none⟩ _ b (by simp; omega)).trans hr.out)
      have HB2 := Lib.hid (hbe.out.setCell (p := ⟨b1, 4 + k, none⟩) (by show b ≤ b1; omega) (.int .u32 ((wd key k).toNat : Int)))
      have h0I : (0 : Int) ≤ 4 + (k : Int) := by omega
      have h16 : 4 + (k : Int) < 16 := by omega
      clear hset hx2 hold hx hr hbe hln
      go_wp2_with fail
      with_reducible refine (CWd.out).mono ?_
      rintro e2 w2 ⟨rfl, rfl⟩
      clear CWd
      go_wp2
      go_roundw
      case rel => exact ⟨k + 1, by omega, by go_num, HX2, HR2, HB2⟩
      case measure => simp [intOf]; omega
    · have hk8' : k = 8 := by omega
      have hI8 : ¬ (k : Int) < 8 := by omega
      have hx := Lib.hid (show Wx wr b1 (bgA key 8) by rw [← hk8']; exact hx.out)
      have hln := bgA_len key (k := 8) (by omega)
      clear hk8'
      obtain ⟨c1, f1, hset⟩ := hx.out.at_ (j := 12) (by rw [hln]; omega)
      have hx2 := hset c
      rw [bgB_zero key nonce c] at hx2
      obtain ⟨old, hold⟩ : ∃ old, old = (bgA key 8)[12]'(by rw [hln]; omega) := ⟨_, rfl⟩
      rw [← hold] at c1
      have HX2 := Lib.hid hx2
      have HR2 : Hid ((wr.setCell ⟨b1, 12, none⟩ (.int .u32 (c.toNat : Int))).heap[b]? = some (.cells #[.int .u32 0, .int .u32 0, .int .u32 0, .int .u32 0, .int .u32 0, .int .u32 0, .int .u32 0, .int .u32 0, .int .u32 0, .int .u32 0, .int .u32 0, .int .u32 0, .int .u32 0, .int .u32 0, .int .u32 0, .int .u32 0] 126 (0, 0))) := Lib.hid ((Below.heap_setCell wr ⟨b1, 12, none⟩ _ b (by simp; omega)).trans hr.out)
      have HB2 := Lib.hid (hbe.out.setCell (p := ⟨b1, 12, none⟩) (by show b ≤ b1; omega) (.int .u32 (c.toNat : Int)))
      clear hset hx2 hold hx hr hbe hln
      go_wp2_with fail
      go_loopw [23] (fun i wr => ∃ k : Nat, k ≤ 3 ∧ i = .int .i64 (k : Int) ∧ Hid (Wx wr b1 (bgB key nonce c k)) ∧ Hid (wr.heap[b]? = some (.cells #[.int .u32 0, .int .u32 0, .int .u32 0, .int .u32 0, .int .u32 0, .int .u32 0, .int .u32 0, .int .u32 0, .int .u32 0, .int .u32 0, .int .u32 0, .int .u32 0, .int .u32 0, .int .u32 0, .int .u32 0, .int .u32 0] 126 (0, 0))) ∧ Hid (Below b w wr)) (fun i _ => 3 - (intOf i).toNat)
      case atStart => exact ⟨0, Nat.zero_le _, rfl, HX2, HR2, HB2⟩
      case round =>
        obtain ⟨k, hk8, rfl, hx, hr, hbe⟩ := hrel
        clear HX2 HR2 HB2 c1 f1
        by_cases hlt : k < 3
        · have hI : (k : Int) < 3 := by omega
          have CWd := Lib.hid (word_any (i := k) (HN.out.below hbe.out (by omega)) (by have := HNL.out; omega) (by omega))
          have hln := bgB_len key nonce c (k := k) (by omega)
          obtain ⟨c1, f1, hset⟩ := hx.out.at_ (j := 13 + k) (by rw [hln]; omega)
          have hx2 := hset (wd nonce k)
          rw [bgB_set key nonce c hlt] at hx2
          obtain ⟨old, hold⟩ : ∃ old, old = (bgB key nonce c k)[13 + k]'(by rw [hln]; omega) := ⟨_, rfl⟩
          rw [← hold] at c1
          have HX2 := Lib.hid hx2
          have HR2 : Hid ((wr.setCell ⟨b1, 13 + k, none⟩ (.int .u32 ((wd nonce k).toNat : Int))).heap[b]? = some (.cells #[.int .u32 0, .int .u32 0, .int .u32 0, .int .u32 0, .int .u32 0, .int .u32 0, .int .u32 0, .int .u32 0, .int .u32 0, .int .u32 0, .int .u32 0, .int .u32 0, .int .u32 0, .int .u32 0, .int .u32 0, .int .u32 0] 126 (0, 0))) := Lib.hid ((Below.heap_setCell wr ⟨b1, 13 + k, none⟩ _ b (by simp; omega)).trans hr.out)
          have HB2 := Lib.hid (hbe.out.setCell (p := ⟨b1, 13 + k, none⟩) (by show b ≤ b1; omega) (.int .u32 ((wd nonce k).toNat : Int)))
          have h0I : (0 : Int) ≤ 13 + (k : Int) := by omega
          have h16 : 13 + (k : Int) < 16 := by omega
          clear hset hx2 hold hx hr hbe hln
          go_wp2_with fail
          with_reducible refine (CWd.out).mono ?_
          rintro e2 w2 ⟨rfl, rfl⟩
          clear CWd
          go_wp2
          go_roundw
          case rel => exact ⟨k + 1, by omega, by go_num, HX2, HR2, HB2⟩
          case measure => simp [intOf]; omega
        · have hk3' : k = 3 := by omega
          have hI3 : ¬ (k : Int) < 3 := by omega
          have hx3 : Wx wr b1 (bgB key nonce c 3) := by rw [← hk3']; exact hx.out
          clear hk3'
          rw [bgB_end] at hx3
          obtain ⟨F, hF⟩ : ∃ F, F = beginL key nonce c := ⟨_, rfl⟩
          rw [← hF] at hx3
          have hFl : F.length = 16 := by rw [hF]; exact beginL_len key nonce c
          have HF := Lib.hid hF
          obtain ⟨fs, hfs⟩ : ∃ fs : Array Value, fs = (F.map vw).toArray := ⟨_, rfl⟩
          have HI := Lib.hid (info16 hFl)
          have HONE := Lib.hid (all_oneCell_toArray (vw_one F))
          unfold Wx at hx3
          rw [← hfs] at HI HONE hx3
          have HO : Hid ((#[.int .u32 0, .int .u32 0, .int .u32 0, .int .u32 0, .int .u32 0, .int .u32 0, .int .u32 0, .int .u32 0, .int .u32 0, .int .u32 0, .int .u32 0, .int .u32 0, .int .u32 0, .int .u32 0, .int .u32 0, .int .u32 0] : Array Value).size = fs.size) := Lib.hid (by show 16 = _; rw [hfs, List.size_toArray, List.length_map, hFl])
          have HX3 := Lib.hid hx3
          have HBE := Lib.hid (hbe.out.trans (Below.refl b wr))
          have HFS := Lib.hid hfs
          have HRR : Hid ((wr.setRow b fs).heap[b]? = some (.cells fs 126 (0, 0))) := Lib.hid (setRow_heap _ _ _ _ _ _ hr.out)
          have HBF : Hid (Below w.heap.size w (wr.setRow b fs)) := Lib.hid ⟨hbe.out.os, hbe.out.tape, hbe.out.output, by rw [setRow_size]; exact hbe.out.size, fun j hj => (setRow_other _ _ _ _ (by omega)).trans (hbe.out.block j (by omega))⟩
          clear hF hFl hfs hx3 hx
          go_wp2_with (first
            | (with_reducible refine wpList_load_row rfl 126 (.tmp 7) rfl (b1) rfl 126 fs (0, 0) _ HX3.out Try.underlying126 rfl HI.out ?_)
            | (with_reducible refine wpList_store_row rfl 126 (.tmp 6) (.tmp 33) rfl (b) fs rfl rfl 126 _ hr.out HI.out HO.out HONE.out ?_))
          (try simp only [Exit.inBlock, Exit.then])
          refine bodyPost_ret (results_cell_row rfl _ _ b 126 fs (0, 0) _ rfl HRR.out Try.underlying126 rfl HI.out) rfl ?_
          exact ⟨by rw [HFS.out, HF.out], HBF.out⟩
end Go.Proofs.Ytifgigpflfdmfaa
