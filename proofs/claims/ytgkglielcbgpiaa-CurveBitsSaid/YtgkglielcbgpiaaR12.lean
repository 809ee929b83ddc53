/- The reference's Bytes. -/
import Derived.Test.YtgkglielcbgpiaaR11
namespace Go.Proofs.Ytgkglielcbgpiaa
open Go.RowKit

theorem dig_byte (N k : Nat) : dig N (k / 4) / 2 ^ (8 * (k % 4)) % 256 = (leB N k).toNat := by
  unfold dig leB
  rw [UInt8.toNat_ofNat']
  have e : (4294967296 : Nat) = 2 ^ 32 := rfl
  have e2 : (256 : Nat) = 2 ^ 8 := rfl
  rw [e, e2, ← Nat.pow_mul, ← Nat.pow_mul]
  have hr : 8 * (k % 4) + 8 ≤ 32 := by omega
  have hk : 8 * k = 32 * (k / 4) + 8 * (k % 4) := by omega
  have e3 : (2 : Nat) ^ 32 = 2 ^ (8 * (k % 4)) * 2 ^ (32 - 8 * (k % 4)) := by rw [← Nat.pow_add]; congr 1; omega
  rw [hk, e3, Nat.mod_mul_right_div_self, Nat.mod_mod_of_dvd _ (Nat.pow_dvd_pow 2 (by omega)), Nat.div_div_eq_div_mul, ← Nat.pow_add]
theorem dig_byteI (N k : Nat) : (dig N (k / 4) : Int) / 2 ^ (8 * (k % 4)) % 256 = ((leB N k).toNat : Int) := by
  rw [← dig_byte, Int.natCast_emod, Int.natCast_ediv, Int.natCast_pow]
  rfl
theorem E8.dig {w : World} {g V : Nat} (h : E8 w g V) (j : Nat) (hj : j < 8) : w.cell? ⟨g, j, none⟩ = some (.int .u32 (dig V j : Int)) := by
  rcases (by omega : j = 0 ∨ j = 1 ∨ j = 2 ∨ j = 3 ∨ j = 4 ∨ j = 5 ∨ j = 6 ∨ j = 7) with rfl | rfl | rfl | rfl | rfl | rfl | rfl | rfl
  · exact h.c0
  · exact h.c1
  · exact h.c2
  · exact h.c3
  · exact h.c4
  · exact h.c5
  · exact h.c6
  · exact h.c7

set_option maxRecDepth 100000 in
set_option maxHeartbeats 4000000 in
theorem rbytesE {V : Nat} (hV : V < W4) (w : World) : Calls Try.prog 64 #[.agg #[.int .u32 (dig (V) 0 : Int), .int .u32 (dig (V) 1 : Int), .int .u32 (dig (V) 2 : Int), .int .u32 (dig (V) 3 : Int), .int .u32 (dig (V) 4 : Int), .int .u32 (dig (V) 5 : Int), .int .u32 (dig (V) 6 : Int), .int .u32 (dig (V) 7 : Int)]] w fun e w' => e = .returned (.agg ((leBytes (V % PP) 32).map vb).toArray) ∧ Below w.heap.size w w' := by
  have C1 := Lib.hid (fun W => rnormE hV W)
  obtain ⟨N, hN⟩ : ∃ N, N = V % PP := ⟨_, rfl⟩
  rw [← hN] at C1 ⊢
  obtain ⟨us, hus⟩ : ∃ us : Array Value, us = ((leBytes N 32).map vb).toArray := ⟨_, rfl⟩
  rw [← hus]
  have HUS := Lib.hid hus
  clear hus
  obtain ⟨z, hz⟩ : ∃ z : Array Value, z = #[.int .u8 0, .int .u8 0, .int .u8 0, .int .u8 0, .int .u8 0, .int .u8 0, .int .u8 0, .int .u8 0, .int .u8 0, .int .u8 0, .int .u8 0, .int .u8 0, .int .u8 0, .int .u8 0, .int .u8 0, .int .u8 0, .int .u8 0, .int .u8 0, .int .u8 0, .int .u8 0, .int .u8 0, .int .u8 0, .int .u8 0, .int .u8 0, .int .u8 0, .int .u8 0, .int .u8 0, .int .u8 0, .int .u8 0, .int .u8 0, .int .u8 0, .int .u8 0] := ⟨_, rfl⟩
  have hzs : z = ((fillB N 0).map vb).toArray := by rw [hz]; rfl
  have HZE := Lib.hid hz; have HZS := Lib.hid hzs
  clear hV hN hz hzs
  go_enter Try.func64, Try.ntmps64
  go_wp2_with fail
  rw [← HZE.out]
  have a0 : E8 ((w.alloc (.cells #[.int .u32 (dig (V) 0 : Int), .int .u32 (dig (V) 1 : Int), .int .u32 (dig (V) 2 : Int), .int .u32 (dig (V) 3 : Int), .int .u32 (dig (V) 4 : Int), .int .u32 (dig (V) 5 : Int), .int .u32 (dig (V) 6 : Int), .int .u32 (dig (V) 7 : Int)] 34)).alloc (.cells z 50)) w.heap.size V := (E8.new w V).below ((Below.refl _ _).alloc (Nat.le_refl _) _) (by simp)
  have a1 : ((w.alloc (.cells #[.int .u32 (dig (V) 0 : Int), .int .u32 (dig (V) 1 : Int), .int .u32 (dig (V) 2 : Int), .int .u32 (dig (V) 3 : Int), .int .u32 (dig (V) 4 : Int), .int .u32 (dig (V) 5 : Int), .int .u32 (dig (V) 6 : Int), .int .u32 (dig (V) 7 : Int)] 34)).alloc (.cells z 50)).heap[w.heap.size + 1]? = some (.cells z 50 (0, 0)) := heap_alloc2_new w _ _
  have hBe : Below w.heap.size w ((w.alloc (.cells #[.int .u32 (dig (V) 0 : Int), .int .u32 (dig (V) 1 : Int), .int .u32 (dig (V) 2 : Int), .int .u32 (dig (V) 3 : Int), .int .u32 (dig (V) 4 : Int), .int .u32 (dig (V) 5 : Int), .int .u32 (dig (V) 6 : Int), .int .u32 (dig (V) 7 : Int)] 34)).alloc (.cells z 50)) := ((Below.refl _ _).alloc (Nat.le_refl _) _).alloc (by simp) _
  have A0 := Lib.hid a0; have A1 := Lib.hid a1; have HBe := Lib.hid hBe
  clear a0 a1 hBe
  with_reducible refine (C1.out _).mono ?_
  rintro e w1 ⟨rfl, hb1⟩
  have B1 := Lib.hid hb1
  obtain ⟨hc1, hf1⟩ := bcell hb1
  have zz1 := hb1.size
  try simp only [World.size_alloc] at zz1
  have z1_0 : w.heap.size + 1 < w1.heap.size := by omega
  have z1_1 : w.heap.size < w1.heap.size := by omega
  clear hb1 zz1
  obtain ⟨c0, c1, c2, c3, c4, c5, c6, c7, f0, f1, f2, f3, f4, f5, f6, f7⟩ := A0.out.below B1.out (by simp only [World.size_alloc]; omega)
  have hb1 := B1.out
  simp only [World.size_alloc] at hb1
  have a0 := set8_set (A0.out.below B1.out (by simp only [World.size_alloc]; omega)) N
  have a1 : ((((((((((w1).setCell ⟨w.heap.size, 0, none⟩ (.int .u32 (dig (N) 0 : Int))).setCell ⟨w.heap.size, 1, none⟩ (.int .u32 (dig (N) 1 : Int))).setCell ⟨w.heap.size, 2, none⟩ (.int .u32 (dig (N) 2 : Int))).setCell ⟨w.heap.size, 3, none⟩ (.int .u32 (dig (N) 3 : Int))).setCell ⟨w.heap.size, 4, none⟩ (.int .u32 (dig (N) 4 : Int))).setCell ⟨w.heap.size, 5, none⟩ (.int .u32 (dig (N) 5 : Int))).setCell ⟨w.heap.size, 6, none⟩ (.int .u32 (dig (N) 6 : Int))).setCell ⟨w.heap.size, 7, none⟩ (.int .u32 (dig (N) 7 : Int)))).heap[w.heap.size + 1]? = some (.cells z 50 (0, 0)) := by
    have h : ∀ (Y : World) (i : Nat) (u : Value), (Y.setCell ⟨w.heap.size, i, none⟩ u).heap[w.heap.size + 1]? = Y.heap[w.heap.size + 1]? := fun Y i u => Below.heap_setCell _ _ _ _ (by show _ ≠ _; simp only; omega)
    rw [h, h, h, h, h, h, h, h, B1.out.block _ (by simp), A1.out]
  have hBe := set8_below (HBe.out.trans (hb1.mono (by omega))) (g := w.heap.size) (by omega) N
  have hsz : w.heap.size + 1 < ((((((((((w1).setCell ⟨w.heap.size, 0, none⟩ (.int .u32 (dig (N) 0 : Int))).setCell ⟨w.heap.size, 1, none⟩ (.int .u32 (dig (N) 1 : Int))).setCell ⟨w.heap.size, 2, none⟩ (.int .u32 (dig (N) 2 : Int))).setCell ⟨w.heap.size, 3, none⟩ (.int .u32 (dig (N) 3 : Int))).setCell ⟨w.heap.size, 4, none⟩ (.int .u32 (dig (N) 4 : Int))).setCell ⟨w.heap.size, 5, none⟩ (.int .u32 (dig (N) 5 : Int))).setCell ⟨w.heap.size, 6, none⟩ (.int .u32 (dig (N) 6 : Int))).setCell ⟨w.heap.size, 7, none⟩ (.int .u32 (dig (N) 7 : Int)))).heap.size := (Array.getElem?_eq_some_iff.1 a1).1
  obtain ⟨W1, hW1⟩ : ∃ W1, W1 = (((((((((w1).setCell ⟨w.heap.size, 0, none⟩ (.int .u32 (dig (N) 0 : Int))).setCell ⟨w.heap.size, 1, none⟩ (.int .u32 (dig (N) 1 : Int))).setCell ⟨w.heap.size, 2, none⟩ (.int .u32 (dig (N) 2 : Int))).setCell ⟨w.heap.size, 3, none⟩ (.int .u32 (dig (N) 3 : Int))).setCell ⟨w.heap.size, 4, none⟩ (.int .u32 (dig (N) 4 : Int))).setCell ⟨w.heap.size, 5, none⟩ (.int .u32 (dig (N) 5 : Int))).setCell ⟨w.heap.size, 6, none⟩ (.int .u32 (dig (N) 6 : Int))).setCell ⟨w.heap.size, 7, none⟩ (.int .u32 (dig (N) 7 : Int))) := ⟨_, rfl⟩
  rw [← hW1] at a0 a1 hBe hsz
  have b1 : Bw (W1.alloc (.cells z 50)) W1.heap.size 50 (fillB N 0) := by
    rw [HZS.out]
    exact heap_alloc_new W1 _
  have a0' := a0.below ((Below.refl W1.heap.size W1).alloc (Nat.le_refl _) (.cells z 50)) (by omega)
  have a1' := (heap_alloc_old W1 (.cells z 50) hsz).trans a1
  have hBe' := hBe.alloc hBe.size (.cells z 50)
  have HA0 := Lib.hid a0'; have HA1 := Lib.hid a1'; have HBe2 := Lib.hid hBe'; have HB1 := Lib.hid b1; have HW1 := Lib.hid hW1
  clear a0 a1 hBe hW1 b1 a0' a1' hBe' hb1
  go_wp2_with fail
  rw [← HW1.out, ← HZE.out]
  clear hc1 hf1 c0 c1 c2 c3 c4 c5 c6 c7 f0 f1 f2 f3 f4 f5 f6 f7
  have hWs : W1.heap.size = w1.heap.size := by rw [HW1.out]; simp [World.setCell]
  obtain ⟨g4, hg4⟩ : ∃ g4, g4 = w1.heap.size := ⟨_, rfl⟩
  rw [hWs, ← hg4] at HB1 hsz
  rw [← hg4]
  clear hg4 hWs
  go_loopw [4] (fun i wr => ∃ k : Nat, k ≤ 32 ∧ i = .int .i64 k ∧ Hid (Below w.heap.size w wr) ∧ Hid (E8 wr w.heap.size N) ∧ Hid (Bw wr g4 50 (fillB N k)) ∧ Hid (wr.heap[w.heap.size + 1]? = some (.cells z 50 (0, 0)))) (fun i _ => 32 - (intOf i).toNat)
  case atStart => exact ⟨0, Nat.zero_le _, rfl, HBe2, HA0, HB1, HA1⟩
  case round =>
    obtain ⟨k, hk, rfl, hbe, hec, hbw, hres⟩ := hrel
    clear HB1 HA0 HA1 HBe2
    by_cases hlt : k < 32
    · obtain ⟨q1, q2, q3⟩ := hbw.out.at_ (j := k) (by rw [fillB_len _ _ hk]; exact hlt)
      have hl := hec.out.dig (k / 4) (by omega)
      have k0 : (0 : Int) ≤ (k : Int) := Int.natCast_nonneg _
      have k64 : (k : Int) < 32 := by omega
      have HV := Lib.hid (dig_byteI N k)
      have hnew := q3 (leB N k)
      rw [fillB_set N k hlt] at hnew
      have HN := Lib.hid hnew
      have b0 := dig_lt N (k / 4)
      clear hnew q3
      go_wp2_with fail
      rw [HV.out]
      go_roundw
      case rel => exact ⟨k + 1, by omega, by go_num, Lib.hid (hbe.out.setCell (by show _ ≤ _; simp only; omega) _), Lib.hid (hec.out.one (by omega)), HN, Lib.hid ((Below.heap_setCell _ _ _ _ (by show _ ≠ _; simp only; omega)).trans hres.out)⟩
      case measure => simp [intOf]; omega
    · obtain rfl : k = 32 := by omega
      have haw : Hid (wr.heap[g4]? = some (.cells us 50 (0, 0))) := by
        rw [HUS.out, ← fillB_all]
        exact hbw
      have husz : us.size = 32 := by rw [HUS.out]; simp [leBytes_len]
      have hone : Hid (us.all (·.oneCell') = true) := by rw [HUS.out]; exact one_bytes _
      have hi : Hid ((Try.prog.info? 50).map (·.size) = some us.size) := by rw [husz]; show _ = _; kernel_rfl
      have ho : Hid (z.size = us.size) := by rw [husz, HZE.out]; show _ = _; rfl
      have hbe3 : Below w.heap.size w (wr.setRow (w.heap.size + 1) us) := row_below hbe.out (by omega) hbe.out.size
      clear husz hbw hbe
      rw [show ((32 : Nat) : Int) = 32 from rfl]
      go_wp2_with (first
        | (with_reducible refine wpList_load_row rfl 50 (.tmp 3) rfl (g4) rfl 50 us (0, 0) _ haw.out Try.underlying50 rfl hi.out ?_)
        | (with_reducible refine wpList_store_row rfl 50 (.tmp 2) (.tmp 22) rfl (w.heap.size + 1) us rfl rfl 50 _ hres.out hi.out ho.out hone.out ?_))
      (try simp only [Exit.inBlock, Exit.then])
      exact bodyPost_ret (results_cell_row rfl _ _ (w.heap.size + 1) 50 us (0, 0) _ rfl (setRow_heap wr (w.heap.size + 1) _ _ _ _ hres.out) Try.underlying50 rfl hi.out) rfl ⟨rfl, hbe3⟩
end Go.Proofs.Ytgkglielcbgpiaa
