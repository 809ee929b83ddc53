/- Bytes and Stream of the reference. -/
import Derived.Test.YthgdficgjldobaaC3
import Derived.Test.YthgdficgjldobaaB9
import Derived.Test.YthgdficgjldobaaCopyB
namespace Go.Proofs.Ythgdficgjldobaa
open Go.RowKit

theorem strL_whole (key : List UInt8) (q : Nat) : strL key (64 * q) 64 = blockL key zs12 (UInt32.ofNat q) := by
  rw [strL_block key (64 * q) 64 (by omega), show 64 * q % 64 = 0 by omega, show 64 * q / 64 = q by omega, List.drop_zero, List.take_of_length_le (by rw [blockL_len]; omega)]
theorem strL_next (key : List UInt8) (q k : Nat) : strL key (64 * q) (64 * (k + 1)) = strL key (64 * q) (64 * k) ++ blockL key zs12 (UInt32.ofNat (q + k)) := by
  rw [show 64 * (k + 1) = 64 * k + 64 by omega, strL_app, show 64 * q + 64 * k = 64 * (q + k) by omega, strL_whole]
theorem strL_piece (key : List UInt8) (a n L : Nat) (h : a % 64 + n ≤ L) : ((strL key (64 * (a / 64)) L).drop (a % 64)).take n = strL key a n := by
  have e : L = a % 64 + (n + (L - a % 64 - n)) := by omega
  rw [e, strL_app, strL_app, List.drop_append_of_le_length (by rw [strL_len]; omega), List.drop_of_length_le (by rw [strL_len]; omega), List.nil_append, show 64 * (a / 64) + a % 64 = a by omega, List.take_append_of_le_length (by rw [strL_len]; omega), List.take_of_length_le (by rw [strL_len]; omega)]
set_option maxRecDepth 100000 in
set_option maxHeartbeats 4000000 in
theorem refbytes_any {key : List UInt8} {vk : Value} {w : World} {B a n : Nat} (hk : Bs w B vk key) (hB : B ≤ w.heap.size) (hkl : key.length = 32) (hn : a + n ≤ 65536) :
    Calls Try.prog 25 #[vk, .int .i64 (a : Int), .int .i64 (n : Int)] w fun e w' => ∃ u, e = .returned u ∧ Own w' w.heap.size u (strL key a n) ∧ Below w.heap.size w w' := by
  have HK := Lib.hid hk; have HKL := Lib.hid hkl
  obtain ⟨AK, cK, rfl⟩ := hk.shape
  have HK2 : Hid (Bs w B (.slice AK 32 cK) key) := Lib.hid (by have h := HK.out; rw [hkl] at h; exact h)
  rw [hkl]
  obtain ⟨r, hr⟩ : ∃ r, r = a % 64 := ⟨_, rfl⟩
  obtain ⟨q, hq⟩ : ∃ q, q = a / 64 := ⟨_, rfl⟩
  have hrI : (a : Int) % 64 = (r : Int) := by omega
  have hqI : (a : Int) / 64 = (q : Int) := by omega
  have HR := Lib.hid hr; have HQ := Lib.hid hq
  have hr64 : r < 64 := by omega
  have hq1 : q ≤ 1024 := by omega
  have hmk0 : ∀ W : World, (Instr.makeSlice 28 (.int .i64 12) (.int .i64 12)).run Try.prog W = .ok (.slice (some ⟨W.heap.size, 0, none⟩) 12 12) (W.alloc (.cells (madeCells #[Value.int .u8 0] 12) 5)) := fun W => by
    have h := run_make_row' (P := Try.prog) 28 5 (.int .u8 0) 1 Try.underlying28 u8info rfl .i64 .i64 12 (by omega) (by omega) W
    exact h
  have hrn : n + r ≤ 65599 := by omega
  clear hk hkl HK hr hq
  go_enter Try.func25, Try.ntmps25
  go_wp2_with fail
  go_loopw [7, 8] (fun s i wr => ∃ k : Nat, 64 * k < n + r + 64 ∧ i = .int .i64 ((q : Int) + (k : Int)) ∧ Hid (Own wr w.heap.size s (strL key (64 * q) (64 * k))) ∧ Hid (Below w.heap.size w wr)) (fun _ i _ => 5000 - (intOf i).toNat)
  case atStart => exact ⟨0, by omega, by simp, Lib.hid (by simpa [strL] using Own.nil w w.heap.size), Lib.hid (Below.refl _ _)⟩
  case round =>
    obtain ⟨k, hk, rfl, ho, hbe⟩ := hrel
    obtain ⟨AS, cS, rfl⟩ := ho.out.shape
    obtain ⟨L, hL⟩ : ∃ L, L = 64 * k := ⟨_, rfl⟩
    have HHO : Hid (Own wr w.heap.size (.slice AS L cS) (strL key (64 * q) (64 * k))) := Lib.hid (by have h := ho.out; rw [strL_len, ← hL] at h; rw [← hL]; exact h)
    rw [strL_len, ← hL]
    have HL := Lib.hid hL
    have hkq : q + k < 4000 := by omega
    by_cases hlt : L < n + r
    · have hI : (L : Int) < (n : Int) + (r : Int) := by omega
      have hlt2 : 64 * k < n + r := by omega
      have hL2 : L ≤ 65600 := by omega
      obtain ⟨c, hc⟩ : ∃ c, c = UInt32.ofNat (q + k) := ⟨_, rfl⟩
      have hcI : (c.toNat : Int) = (q : Int) + (k : Int) := by rw [hc, UInt32.toNat_ofNat']; omega
      have hN0 : (wr.alloc (.cells (madeCells #[Value.int .u8 0] 12) 5)).heap[wr.heap.size]? = some (.cells (zs12.map vb).toArray 5 (0, 0)) := by
        rw [heap_alloc_new wr _]
        have e : zs12.map vb = List.replicate 12 (Value.int .u8 0) := by simp [zs12, vb]
        rw [e, ← toList_madeCells_one, Array.toArray_toList]
      have hal : Below wr.heap.size wr (wr.alloc (.cells (madeCells #[Value.int .u8 0] 12) 5)) := (Below.refl _ _).alloc (Nat.le_refl _) _
      have hnon : Bs (wr.alloc (.cells (madeCells #[Value.int .u8 0] 12) 5)) (wr.alloc (.cells (madeCells #[Value.int .u8 0] 12) 5)).heap.size (.slice (some ⟨wr.heap.size, 0, none⟩) 12 12) zs12 := by
        have h := (Own.of_cells (B := wr.heap.size) (l := zs12) hN0 (Nat.le_refl _) (by unfold maxLen zs12; simp) rfl).bs
        exact h
      have hbz := hbe.out.size
      have hkb := (HK2.out.below hbe.out hB).below (hal.mono hbz) hB
      have C := refblock_any (c := c) (hkb.more (by simp; omega)) hnon (Nat.le_refl _) HKL.out (by rfl)
      rw [hcI] at C
      have C := Lib.hid C
      have HC := Lib.hid hc
      have HAL := Lib.hid hal
      have hcw : IntKind.u32.wrap ((q : Int) + (k : Int)) = (q : Int) + (k : Int) := IntWalk.u32_in _ (by omega)
      clear hL ho hnon hN0 hal hkb hc hcI
      go_wp2_with fail
      with_reducible refine (C.out).mono ?_
      rintro e2 w2 ⟨u2, rfl, ho2, hb2⟩
      obtain ⟨m, hm⟩ : ∃ m, m = blockL key zs12 c := ⟨_, rfl⟩
      rw [← hm] at ho2
      have hml : m.length = 64 := by rw [hm, blockL_len]
      have hb2' := HAL.out.trans (hb2.mono HAL.out.size)
      have HB2 := Lib.hid (hbe.out.trans (hb2'.mono hbz))
      have HO2 := Lib.hid (HHO.out.below hb2' (Nat.le_refl _))
      have HM2 := Lib.hid ho2.bs
      have hll : (strL key (64 * q) (64 * k)).length = 64 * k := strL_len _ _ _
      obtain ⟨l, hl⟩ : ∃ l, l = strL key (64 * q) (64 * k) := ⟨_, rfl⟩
      rw [← hl] at HO2 hll
      have hbz2 := HB2.out.size
      have HLL := Lib.hid hll; have HML := Lib.hid hml; have HE := Lib.hid hl; have HME := Lib.hid hm
      clear hb2 hb2' ho2 hm hl hll hml C HAL HHO
      go_wp2_with (at_builtin; with_reducible refine wpList_app rfl (.tmp 20) (.tmp 25) rfl rfl HO2.out rfl HM2.out (by rw [HLL.out, HML.out]; omega) (by omega) ?_)
      intro v3 w3 ho3 hg3 _
      have HB3 := Lib.hid (grown_below HB2.out hg3 hbz2 HO2.out)
      have HO3 : Hid (Own w3 w.heap.size v3 (strL key (64 * q) (64 * (k + 1)))) := Lib.hid (by rw [strL_next, ← HE.out, ← HC.out, ← HME.out]; exact ho3)
      clear ho3 hg3 HO2 HM2 hcw
      go_wp2
      go_roundw
      case rel => exact ⟨k + 1, by omega, by go_num, HO3, HB3⟩
      case measure => simp [intOf]; omega
    · have hI : ¬ (L : Int) < (n : Int) + (r : Int) := by omega
      have hbs := HHO.out.bs
      obtain ⟨D, hD, hcut⟩ := hbs.piece (lo := r) (hi := r + n) (by omega) (by omega)
      rw [show r + n - r = n by omega, ← hL] at hD
      have hpc : ((strL key (64 * q) L).drop r).take n = strL key a n := by rw [HQ.out, HR.out]; exact strL_piece key a n L (by rw [← HR.out]; omega)
      rw [hpc] at hD
      rw [show ((r + n : Nat) : Int) = (r : Int) + (n : Int) by omega, show r + n - r = n by omega] at hcut
      have hbz := hbe.out.size
      have C := Lib.hid (copy_any hD (Nat.le_refl _) (by rw [strL_len]; omega))
      clear hL ho hbs hD hpc HHO
      go_wp2_with fail
      with_reducible refine (C.out).mono ?_
      rintro e2 w2 ⟨u2, rfl, ho2, hb2⟩
      have HO2 := Lib.hid (ho2.more (B' := w.heap.size) hbz)
      have HB2 := Lib.hid (hbe.out.trans (hb2.mono hbz))
      clear ho2 hb2 C
      go_wp2
      go_ret
      exact ⟨_, rfl, HO2.out, HB2.out⟩
end Go.Proofs.Ythgdficgjldobaa
