/- The reference's clock: Due. -/
import Derived.Test.YtlheekbbioajpabT7
namespace Go.Proofs.Ytlheekbbioajpab
open Go.RowKit

theorem tv_eraseIdx (ts : List (Int × Int)) (m : Nat) : tv (ts.eraseIdx m) = (tv ts).eraseIdx m := by
  rw [tv_erase, List.eraseIdx_eq_take_drop_succ]
theorem P2.cellsAt {w : World} {S : Nat → Prop} {v : Value} {ts : List (Int × Int)} (h : P2 w S v (tv ts)) (hp : 0 < ts.length) : ∃ b off, (∃ c, v = .slice (some ⟨b, off, none⟩) ts.length c) ∧ b < w.heap.size ∧ ∀ j (hj : j < ts.length), w.cell? ⟨b, off + j * 2, none⟩ = some (.int .i64 ts[j].1) ∧ w.cell? ⟨b, off + j * 2 + 1, none⟩ = some (.int .i64 ts[j].2) := by
  obtain ⟨A, c, rfl, h1, h2, h3⟩ := h
  obtain ⟨b, off, rfl, hlt, _, hc⟩ := h3 (by rw [tv_len]; exact hp)
  refine ⟨b, off, ⟨c, by rw [tv_len]⟩, hlt, fun j hj => ?_⟩
  have := hc j (by rw [tv_len]; exact hj)
  rw [tv_at] at this
  exact this
theorem erase_take {α : Type} (xs : List α) (m k : Nat) (hk : k < xs.length) : ((xs.take (k + 1)).eraseIdx m) = if k = m then (xs.take k).eraseIdx m else (xs.take k).eraseIdx m ++ [xs[k]] := by
  rw [List.take_succ_eq_append_getElem hk]
  have hl : (xs.take k).length = k := by rw [List.length_take]; omega
  rcases Nat.lt_trichotomy k m with h | h | h
  · rw [if_neg (by omega), List.eraseIdx_append_of_length_le (by omega), hl, List.eraseIdx_of_length_le (by simp; omega), List.eraseIdx_of_length_le (by omega)]
  · subst h
    rw [if_pos rfl, List.eraseIdx_append_of_length_le (by omega), hl, Nat.sub_self, List.eraseIdx_of_length_le (l := xs.take k) (by omega)]
    simp
  · rw [if_neg (by omega), List.eraseIdx_append_of_lt_length (by omega)]

set_option maxRecDepth 100000 in
set_option maxHeartbeats 8000000 in
theorem rdue_no {w : World} {S : Nat → Prop} {v : Value} {ts : List (Int × Int)} {now u : Int} {m : Nat} (hv : P2 w S v (tv ts)) (hl : ts.length ≤ 64) (hf : FirstMin ts ts.length m) (hn : ∀ h : m < ts.length, u < ts[m].1) :
    Calls Try.prog 20 #[.agg #[.int .i64 now, v], .int .i64 u] w fun e w' => e = .returned (.tuple #[.agg #[.int .i64 now, v], .int .i64 0, .bool false]) ∧ Below w.heap.size w w' := by
  have HNO := Lib.hid hn; clear hn
  obtain ⟨n, hnn⟩ : ∃ n, n = ts.length := ⟨_, rfl⟩
  have hn64 : n ≤ 64 := by omega
  have HV := Lib.hid hv
  have HF := Lib.hid hf
  have HNN := Lib.hid hnn
  obtain ⟨A, c, rfl⟩ : ∃ A c, v = .slice A n c := by
    obtain ⟨A, c, h⟩ := hv.shape
    rw [tv_len, ← hnn] at h
    exact ⟨A, c, h⟩
  have hb2 : Below w.heap.size w ((w.alloc (.cells #[.int .i64 now, .slice A n c] 54)).alloc (.cells #[.int .i64 0, .slice none 0 0] 54)) := ((Below.refl _ _).alloc (Nat.le_refl _) _).alloc (by simp) _
  have hv2 := HV.out.below hb2 (Nat.le_refl _)
  have hk0 : ((w.alloc (.cells #[.int .i64 now, .slice A n c] 54)).alloc (.cells #[.int .i64 0, .slice none 0 0] 54)).heap[w.heap.size]? = some (.cells #[.int .i64 now, .slice A n c] 54 (0, 0)) := alloc_block _ _ (heap_alloc_new w _)
  have hk1 : ((w.alloc (.cells #[.int .i64 now, .slice A n c] 54)).alloc (.cells #[.int .i64 0, .slice none 0 0] 54)).heap[w.heap.size + 1]? = some (.cells #[.int .i64 0, .slice none 0 0] 54 (0, 0)) := by
    have := heap_alloc_new (w.alloc (.cells #[.int .i64 now, .slice A n c] 54)) (.cells #[.int .i64 0, .slice none 0 0] 54)
    simpa using this
  have hz2 : ((w.alloc (.cells #[.int .i64 now, .slice A n c] 54)).alloc (.cells #[.int .i64 0, .slice none 0 0] 54)).heap.size = w.heap.size + 2 := by simp
  have HB2 := Lib.hid hb2; have HV2 := Lib.hid hv2; have HK0 := Lib.hid hk0; have HK1 := Lib.hid hk1; have HZ2 := Lib.hid hz2
  clear hb2 hv2 hk0 hk1 hz2 hv hf hnn
  go_enter Try.func20, Try.ntmps20
  go_wp2_with fail
  generalize hW : ((w.alloc (.cells #[.int .i64 now, .slice A n c] 54)).alloc (.cells #[.int .i64 0, .slice none 0 0] 54)) = W2 at *
  clear hW
  obtain ⟨d0, d1⟩ := two_cells HK0.out
  obtain ⟨r0, r1⟩ := two_cells HK1.out
  have r2 := frozen_of_row W2 (w.heap.size + 1) 0 _ _ HK1.out
  have r3 := frozen_of_row W2 (w.heap.size + 1) 1 _ _ HK1.out
  go_loopw [7, 8] (fun b i wr => ∃ (k : Nat) (bz : Int), k ≤ n ∧ i = .int .i64 ((k : Int) - 1) ∧ b = .int .i64 bz ∧ Hid (BestD ts u k bz) ∧ Hid (Drew W2 wr)) (fun _ i _ => (intOf i + 1).toNat)
  case atStart => exact ⟨n, -1, Nat.le_refl _, rfl, rfl, Lib.hid (HNN.out ▸ BestD.start ts u), Lib.hid (Drew.refl _)⟩
  case round =>
    obtain ⟨k, bz, hk, rfl, rfl, hbest, hdr⟩ := hrel
    obtain ⟨nd, rfl⟩ := hdr.out
    rcases Nat.eq_zero_or_pos k with rfl | hpos
    · have e0 : ((0 : Nat) : Int) - 1 = -1 := rfl
      rw [e0]
      clear e0
      obtain rfl := hbest.out.no HF.out HNO.out
      have HBF := Lib.hid (below_set (below_set (below_drewN HB2.out nd) (Nat.le_succ _) 0 (.int .i64 now)) (Nat.le_succ _) 1 (.slice A n c))
      go_wp2
      refine bodyPost_ret (v := .tuple #[.agg #[.int .i64 now, .slice A n c], .int .i64 0, .bool false]) (by simp [results, Try.results20, go_sem, *]) rfl ⟨rfl, ?_⟩
      exact HBF.out

    · obtain ⟨q, rfl⟩ : ∃ q, k = q + 1 := ⟨k - 1, by omega⟩
      have hq : q < ts.length := by rw [← HNN.out]; omega
      obtain ⟨b, off, ⟨c', hsl⟩, hbs, hcell⟩ := HV2.out.cellsAt (by omega)
      simp only [Value.slice.injEq] at hsl
      obtain ⟨rfl, hjunk, rfl⟩ := hsl
      clear hjunk
      have k0 := (hcell q hq).1
      obtain ⟨x, hx⟩ : ∃ x, ts[q].1 = x := ⟨_, rfl⟩
      rw [hx] at k0
      have HX := Lib.hid hx
      have eq1 : ((q + 1 : Nat) : Int) - 1 = (q : Int) := by omega
      rw [eq1]
      have i0 : (0 : Int) ≤ (q : Int) := by omega
      have i1 : (q : Int) < (n : Int) := by omega
      have HQ := Lib.hid hq
      have HC := Lib.hid hcell
      have hrange := hbest.out.range
      clear hx hcell eq1
      by_cases hl : u < x
      · have t0 : decide (x ≤ u) = false := by simp; omega
        go_wp2_with fail
        go_quiet (fail)
        go_wp2
        go_roundw
        case rel => exact ⟨q, bz, by omega, rfl, rfl, Lib.hid (hbest.out.late HQ.out (by rw [HX.out]; exact hl)), Lib.hid (by first | exact (Drew.refl _).drewN _ | exact ((Drew.refl _).drewN _).drewN _)⟩
        case measure => simp [intOf]; try omega
      · have hl' : x ≤ u := by omega
        clear hl
        rcases hrange with rfl | ⟨m', rfl, hm1, hm2⟩
        · go_wp2_with fail
          go_quiet (fail)
          go_wp2
          go_roundw
          case rel => exact ⟨q, q, by omega, rfl, rfl, Lib.hid (hbest.out.none HQ.out (by rw [HX.out]; exact hl')), Lib.hid (by first | exact (Drew.refl _).drewN _ | exact ((Drew.refl _).drewN _).drewN _)⟩
          case measure => simp [intOf]; try omega
        · have k1 := (HC.out m' hm2).1
          obtain ⟨y, hy⟩ : ∃ y, ts[m'].1 = y := ⟨_, rfl⟩
          rw [hy] at k1
          have HY := Lib.hid hy
          have j0 : (0 : Int) ≤ (m' : Int) := by omega
          have j1 : (m' : Int) < (n : Int) := by have := HNN.out; omega
          have j2 : decide ((m' : Int) < 0) = false := by simp
          have HM2 := Lib.hid hm2
          clear hy
          by_cases hxy : x ≤ y
          · go_wp2_with fail
            go_quiet (fail)
            go_wp2
            go_roundw
            case rel => exact ⟨q, q, by omega, rfl, rfl, Lib.hid (hbest.out.turn HQ.out (by rw [HX.out]; exact hl') HM2.out (by rw [HX.out, HY.out]; exact hxy)), Lib.hid (by first | exact (Drew.refl _).drewN _ | exact ((Drew.refl _).drewN _).drewN _)⟩
            case measure => simp [intOf]; try omega
          · have hxy' : y < x := by omega
            clear hxy
            go_wp2_with fail
            go_quiet (fail)
            go_wp2
            go_roundw
            case rel => exact ⟨q, m', by omega, rfl, rfl, Lib.hid (hbest.out.keep HQ.out HM2.out (by rw [HX.out, HY.out]; omega)), Lib.hid (by first | exact (Drew.refl _).drewN _ | exact ((Drew.refl _).drewN _).drewN _)⟩
            case measure => simp [intOf]; try omega
end Go.Proofs.Ytlheekbbioajpab
