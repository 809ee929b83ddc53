/- The reference's masked key, inner sum and tag. -/
import Derived.Test.YtifgigpflfdmfaaMacTag2
import Derived.Deep.DeepCutAuto
namespace Go.Proofs.Ytifgigpflfdmfaa
open Go.RowKit

theorem made64 : madeCells #[Value.int .u8 0] 64 = ((zs 64).map vb).toArray := by
  apply Array.toList_inj.1
  rw [toList_madeCells_one]
  simp [zs, vb]
theorem Bw.own {w : World} {B g : Nat} {l : List UInt8} (h : Bw w g 5 l) (hB : B ≤ g) (hl : l.length ≤ maxLen) : Own w B (.slice (some ⟨g, 0, none⟩) l.length l.length) l :=
  Own.of_cells h hB hl rfl

set_option maxRecDepth 100000 in
set_option maxHeartbeats 1600000 in
theorem refblock_any {key : List UInt8} {v : Value} {w : World} {B : Nat} (hb : Bs w B v key) (hB : B ≤ w.heap.size) (hlen : key.length ≤ 140737488355128) (m : UInt8) :
    Calls Try.prog 71 #[v, .int .u8 (m.toNat : Int)] w fun e w' => ∃ u, e = .returned u ∧ Own w' w.heap.size u (maskL m (fillL key)) ∧ Below w.heap.size w w' := by
  obtain ⟨A, c, hv⟩ := hb.shape
  subst hv
  have hmk := run_make_row' (P := Try.prog) 22 5 (.int .u8 0) 1 Try.underlying22 u8info rfl .i64 .i64 64 (by omega) (by omega)
  rw [made64] at hmk
  obtain ⟨Zc, hZc⟩ : ∃ Zc, Zc = ((zs 64).map vb).toArray := ⟨_, rfl⟩
  rw [← hZc] at hmk
  have hmk2 : ∀ W, (Instr.makeSlice 22 (.int .i64 64) (.int .i64 64)).run Try.prog W = .ok (.slice (some ⟨W.heap.size, 0, none⟩) 64 64) (W.alloc (.cells Zc 5)) := hmk
  have hb0 : Below w.heap.size w (w.alloc (.cells Zc 5)) := (Below.refl _ _).alloc (Nat.le_refl _) _
  have hr0 : (w.alloc (.cells Zc 5)).heap[w.heap.size]? = some (.cells Zc 5 (0, 0)) := heap_alloc_new w _
  have hs0 : (w.alloc (.cells Zc 5)).heap.size = w.heap.size + 1 := by simp
  have hbs0 := hb.below hb0 hB
  have HBS := Lib.hid hbs0; have HB0 := Lib.hid hb0; have HR0 := Lib.hid hr0; have HS0 := Lib.hid hs0; have HZ := Lib.hid hZc
  clear hmk hb0 hr0 hs0 hbs0 hZc hb
  go_enter Try.func71, Try.ntmps71
  go_upto_if 11 with fail
  go_cut [] (fun wx => Below w.heap.size w wx ∧ Bw wx w.heap.size 5 (fillL key))
  case first =>
    clear hmk2
    by_cases hsm : key.length ≤ 64
    · have hd : decide ((64 : Int) < (key.length : Int)) = false := by simp; omega
      obtain ⟨X, hX⟩ : ∃ X, X = key.map vb := ⟨_, rfl⟩
      have hXl : X.length = key.length := by rw [hX, List.length_map]
      have hsrc : Hid (0 < X.length → ∃ ad, A = some ad ∧ ∀ (j : Nat) (v : Value), X[j]? = some v → (w.alloc (.cells Zc 5)).cell? (ad.add j) = some v) := by
        show _ → _
        intro hp
        obtain ⟨A', c', hv, _, _, h3⟩ := HBS.out
        simp only [Value.slice.injEq] at hv
        obtain ⟨rfl, _, _⟩ := hv
        obtain ⟨b, off, rfl, _, hc⟩ := h3 (by omega)
        refine ⟨_, rfl, fun j v hv => ?_⟩
        rw [hX, List.getElem?_map] at hv
        obtain ⟨z, hz, rfl⟩ := Option.map_eq_some_iff.1 hv
        obtain ⟨hj, rfl⟩ := List.getElem?_eq_some_iff.1 hz
        rw [add_none]
        exact hc j hj
      have hX1 : Hid (∀ v ∈ X, v.oneCell' = true) := by rw [hX]; exact vb_one _
      obtain ⟨cur, hcur⟩ : ∃ cur, cur = (zs 64).map vb := ⟨_, rfl⟩
      have hcl : cur.length = 64 := by rw [hcur]; simp [zs]
      have hfin : Hid ((splice cur 0 X) = (fillL key).map vb) := by
        show _ = _
        rw [hcur, hX, splice_front key hsm, fillL_small hsm]
      have hr1' : Hid ((w.alloc (.cells Zc 5)).heap[w.heap.size]? = some (.cells cur.toArray 5 (0, 0))) := by rw [hcur, ← HZ.out]; exact HR0
      have HXL := Lib.hid hXl; have HCL := Lib.hid hcl
      clear hX hXl hcur hcl
      go_wp2_with (with_reducible refine wpList_copy_splice rfl (.tmp 17) (.tmp 18) 22 22 rfl 5 Try.underlying22 u8size _ _ _ _ _ _ rfl rfl w.heap.size 0 _ 5 hr1'.out X ?_ ?_ ?_ ?_ w.heap.size w HB0.out (Nat.le_refl _) ?_)
      · rw [HXL.out]; exact (Nat.min_eq_left hsm).symm
      · exact hsrc.out
      · rw [HXL.out, HCL.out]; omega
      · exact hX1.out
      · intro w2 hrow2 hb2
        go_wp2_with fail
        go_meet
        exact ⟨hb2, by show _ = _; rw [← hfin.out]; exact hrow2.out⟩
    · have hd : decide ((64 : Int) < (key.length : Int)) = true := by simp; omega
      have CS := refSum_any HBS.out (by rw [HS0.out]; omega) hlen
      obtain ⟨cs, hcs⟩ : ∃ cs : Array Value, cs = ((sumL key).map vb).toArray := ⟨_, rfl⟩
      have HCS : Hid (Calls Try.prog 70 #[.slice A key.length c] (w.alloc (.cells Zc 5)) fun e w' => e = .returned (.agg cs) ∧ Below (w.alloc (.cells Zc 5)).heap.size (w.alloc (.cells Zc 5)) w') := by rw [hcs]; exact CS
      have hcz : cs.size = 32 := by rw [hcs]; simp [sumL_len]
      have hi2 : Hid ((Try.prog.info? 29).map (·.size) = some cs.size) := by rw [hcz]; show _ = _; kernel_rfl
      have ho2 : Hid ((#[.int .u8 0, .int .u8 0, .int .u8 0, .int .u8 0, .int .u8 0, .int .u8 0, .int .u8 0, .int .u8 0, .int .u8 0, .int .u8 0, .int .u8 0, .int .u8 0, .int .u8 0, .int .u8 0, .int .u8 0, .int .u8 0, .int .u8 0, .int .u8 0, .int .u8 0, .int .u8 0, .int .u8 0, .int .u8 0, .int .u8 0, .int .u8 0, .int .u8 0, .int .u8 0, .int .u8 0, .int .u8 0, .int .u8 0, .int .u8 0, .int .u8 0, .int .u8 0] : Array Value).size = cs.size) := by rw [hcz]; show _ = _; rfl
      have hone2 : Hid (cs.all (·.oneCell') = true) := by rw [hcs]; exact one_bytes _
      obtain ⟨X, hX⟩ : ∃ X, X = (sumL key).map vb := ⟨_, rfl⟩
      have hXl : X.length = 32 := by rw [hX, List.length_map, sumL_len]
      have hX1 : Hid (∀ v ∈ X, v.oneCell' = true) := by rw [hX]; exact vb_one _
      obtain ⟨cur, hcur⟩ : ∃ cur, cur = (zs 64).map vb := ⟨_, rfl⟩
      have hcl : cur.length = 64 := by rw [hcur]; simp [zs]
      have hfin : Hid ((splice cur 0 X) = (fillL key).map vb) := by
        show _ = _
        rw [hcur, hX, splice_front (sumL key) (by rw [sumL_len]; omega), fillL_big hsm]
      have hr1' : Hid ((w.alloc (.cells Zc 5)).heap[w.heap.size]? = some (.cells cur.toArray 5 (0, 0))) := by rw [hcur, ← HZ.out]; exact HR0
      have hcX : Hid (cs = X.toArray) := by rw [hX]; exact hcs
      have HXL := Lib.hid hXl; have HCL := Lib.hid hcl
      clear hX hXl hcur hcl hcs hcz CS
      go_wp2_with fail
      with_reducible refine (HCS.out).mono ?_
      rintro e4 w4 ⟨rfl, hb4⟩
      have hq4 : w4.heap[w.heap.size]? = some (.cells cur.toArray 5 (0, 0)) := (hb4.block _ (by rw [HS0.out]; omega)).trans hr1'.out
      have hl4 : w.heap.size < w4.heap.size := (Array.getElem?_eq_some_iff.1 hq4).1
      have hrow4 : Hid ((w4.alloc (.cells #[.int .u8 0, .int .u8 0, .int .u8 0, .int .u8 0, .int .u8 0, .int .u8 0, .int .u8 0, .int .u8 0, .int .u8 0, .int .u8 0, .int .u8 0, .int .u8 0, .int .u8 0, .int .u8 0, .int .u8 0, .int .u8 0, .int .u8 0, .int .u8 0, .int .u8 0, .int .u8 0, .int .u8 0, .int .u8 0, .int .u8 0, .int .u8 0, .int .u8 0, .int .u8 0, .int .u8 0, .int .u8 0, .int .u8 0, .int .u8 0, .int .u8 0, .int .u8 0] 29)).heap[w4.heap.size]? = some (.cells #[.int .u8 0, .int .u8 0, .int .u8 0, .int .u8 0, .int .u8 0, .int .u8 0, .int .u8 0, .int .u8 0, .int .u8 0, .int .u8 0, .int .u8 0, .int .u8 0, .int .u8 0, .int .u8 0, .int .u8 0, .int .u8 0, .int .u8 0, .int .u8 0, .int .u8 0, .int .u8 0, .int .u8 0, .int .u8 0, .int .u8 0, .int .u8 0, .int .u8 0, .int .u8 0, .int .u8 0, .int .u8 0, .int .u8 0, .int .u8 0, .int .u8 0, .int .u8 0] 29 (0, 0))) := heap_alloc_new w4 _
      have hg5 := grew_row w4 (.cells #[.int .u8 0, .int .u8 0, .int .u8 0, .int .u8 0, .int .u8 0, .int .u8 0, .int .u8 0, .int .u8 0, .int .u8 0, .int .u8 0, .int .u8 0, .int .u8 0, .int .u8 0, .int .u8 0, .int .u8 0, .int .u8 0, .int .u8 0, .int .u8 0, .int .u8 0, .int .u8 0, .int .u8 0, .int .u8 0, .int .u8 0, .int .u8 0, .int .u8 0, .int .u8 0, .int .u8 0, .int .u8 0, .int .u8 0, .int .u8 0, .int .u8 0, .int .u8 0] 29) cs
      have hbe4 := HB0.out.trans (hb4.mono HB0.out.size)
      have hbe5 : Below w.heap.size w ((w4.alloc (.cells #[.int .u8 0, .int .u8 0, .int .u8 0, .int .u8 0, .int .u8 0, .int .u8 0, .int .u8 0, .int .u8 0, .int .u8 0, .int .u8 0, .int .u8 0, .int .u8 0, .int .u8 0, .int .u8 0, .int .u8 0, .int .u8 0, .int .u8 0, .int .u8 0, .int .u8 0, .int .u8 0, .int .u8 0, .int .u8 0, .int .u8 0, .int .u8 0, .int .u8 0, .int .u8 0, .int .u8 0, .int .u8 0, .int .u8 0, .int .u8 0, .int .u8 0, .int .u8 0] 29)).setRow w4.heap.size cs) := hbe4.grown hg5 hbe4.size (by simp)
      have hq5 : ((w4.alloc (.cells #[.int .u8 0, .int .u8 0, .int .u8 0, .int .u8 0, .int .u8 0, .int .u8 0, .int .u8 0, .int .u8 0, .int .u8 0, .int .u8 0, .int .u8 0, .int .u8 0, .int .u8 0, .int .u8 0, .int .u8 0, .int .u8 0, .int .u8 0, .int .u8 0, .int .u8 0, .int .u8 0, .int .u8 0, .int .u8 0, .int .u8 0, .int .u8 0, .int .u8 0, .int .u8 0, .int .u8 0, .int .u8 0, .int .u8 0, .int .u8 0, .int .u8 0, .int .u8 0] 29)).setRow w4.heap.size cs).heap[w.heap.size]? = some (.cells cur.toArray 5 (0, 0)) := (hg5.block _ hl4 (by simp)).trans hq4
      have hs5 : ((w4.alloc (.cells #[.int .u8 0, .int .u8 0, .int .u8 0, .int .u8 0, .int .u8 0, .int .u8 0, .int .u8 0, .int .u8 0, .int .u8 0, .int .u8 0, .int .u8 0, .int .u8 0, .int .u8 0, .int .u8 0, .int .u8 0, .int .u8 0, .int .u8 0, .int .u8 0, .int .u8 0, .int .u8 0, .int .u8 0, .int .u8 0, .int .u8 0, .int .u8 0, .int .u8 0, .int .u8 0, .int .u8 0, .int .u8 0, .int .u8 0, .int .u8 0, .int .u8 0, .int .u8 0] 29)).setRow w4.heap.size cs).heap[w4.heap.size]? = some (.cells cs 29 (0, 0)) := setRow_heap (w4.alloc _) w4.heap.size _ _ _ _ hrow4.out
      obtain ⟨w5, hw5⟩ : ∃ w5, w5 = (w4.alloc (.cells #[.int .u8 0, .int .u8 0, .int .u8 0, .int .u8 0, .int .u8 0, .int .u8 0, .int .u8 0, .int .u8 0, .int .u8 0, .int .u8 0, .int .u8 0, .int .u8 0, .int .u8 0, .int .u8 0, .int .u8 0, .int .u8 0, .int .u8 0, .int .u8 0, .int .u8 0, .int .u8 0, .int .u8 0, .int .u8 0, .int .u8 0, .int .u8 0, .int .u8 0, .int .u8 0, .int .u8 0, .int .u8 0, .int .u8 0, .int .u8 0, .int .u8 0, .int .u8 0] 29)).setRow w4.heap.size cs := ⟨_, rfl⟩
      rw [← hw5] at hq5 hs5 hbe5
      have cutB : ∀ W, (Instr.sliceAt 29 (.pointer (some ⟨w4.heap.size, 0, none⟩)) none none none).run Try.prog W = .ok (.slice (some ⟨w4.heap.size, 0, none⟩) 32 32) W := fun W => cut32_all W
      have hsrc : Hid (0 < X.length → ∀ (j : Nat) (v : Value), X[j]? = some v → w5.cell? ⟨w4.heap.size, j, none⟩ = some v) := by
        show _ → _
        intro _ j v hv
        rw [cell_of_row _ _ j _ _ _ hs5, hcX.out]
        simpa using hv
      have HQ5 := Lib.hid hq5; have HBE5 := Lib.hid hbe5; have HW5 := Lib.hid hw5
      clear hq5 hs5 hbe5 hbe4 hg5 hq4 hb4 hw5
      go_wp2_with (first
        | (with_reducible refine wpList_store_row rfl 29 (.tmp 6) (.tmp 13) rfl w4.heap.size cs rfl rfl 29 _ hrow4.out hi2.out ho2.out hone2.out ?_; rw [← HW5.out])
        | (with_reducible refine wpList_copy_splice rfl (.tmp 14) (.tmp 15) 22 22 rfl 5 Try.underlying22 u8size _ _ _ _ _ _ rfl rfl w.heap.size 0 _ 5 HQ5.out X ?_ ?_ ?_ ?_ w.heap.size w HBE5.out (Nat.le_refl _) ?_))
      · rw [HXL.out]; rfl
      · exact hsrc.out
      · rw [HXL.out, HCL.out]; omega
      · exact hX1.out
      · intro w2 hrow2 hb2
        go_wp2_with fail
        go_meet
        exact ⟨hb2, by show _ = _; rw [← hfin.out]; exact hrow2.out⟩
  case rest =>
    obtain ⟨hbe, hbw⟩ := hcut
    have HBE := Lib.hid hbe; have HBW : Hid (Bw wc w.heap.size 5 (maskK m (fillL key) 0)) := by
      have : maskK m (fillL key) 0 = fillL key := by simp [maskK, maskL]
      rw [this]; exact hbw
    clear hbe hbw hmk2
    go_wp2_with fail
    go_loopw [7] (fun i wr => ∃ k : Nat, k ≤ 64 ∧ i = .int .i64 k ∧ Hid (Below w.heap.size w wr) ∧ Hid (Bw wr w.heap.size 5 (maskK m (fillL key) k))) (fun i _ => 64 - (intOf i).toNat)
    case atStart => exact ⟨0, Nat.zero_le _, rfl, HBE, HBW⟩
    case round =>
      obtain ⟨k, hk, rfl, hbe, hbw⟩ := hrel
      clear HBE HBW
      by_cases hlt : k < 64
      · have hkl : k < (maskK m (fillL key) k).length := by rw [maskK_len, fillL_len]; exact hlt
        obtain ⟨x, hx⟩ : ∃ x, x = (fillL key).getD k 0 := ⟨_, rfl⟩
        obtain ⟨q1, q2, q3⟩ := hbw.out.at_ hkl
        have hxe : (maskK m (fillL key) k)[k] = x := by
          have := maskK_at m (fillL key) k (by rw [fillL_len]; exact hlt)
          rw [List.getD_eq_getElem?_getD, List.getElem?_eq_getElem hkl, Option.getD_some] at this
          rw [this, hx]
        rw [hxe] at q1
        have hnew := q3 (x ^^^ m)
        rw [hx, maskK_set m (fillL key) k (by rw [fillL_len]; exact hlt), ← hx] at hnew
        have HN := Lib.hid hnew
        have hb2 : Hid (∀ v, Below w.heap.size w (wr.setCell ⟨w.heap.size, k, none⟩ v)) := Lib.hid (fun v => hbe.out.grown (setCell_grown wr w.heap.size k v) hbe.out.size (fun i hi => by simp only [Option.some.injEq] at hi; omega))
        have k0 : (0 : Int) ≤ (k : Int) := Int.natCast_nonneg _
        have k64 : (k : Int) < 64 := by omega
        clear hnew hxe hx hkl q3
        go_wp2_with fail
        rw [b_xor]
        go_roundw
        case rel => exact ⟨k + 1, by omega, by go_num, hb2.out _, HN⟩
        case measure => simp [intOf]; omega
      · obtain rfl : k = 64 := by omega
        have hfin : Own wr w.heap.size (.slice (some ⟨w.heap.size, 0, none⟩) 64 64) (maskL m (fillL key)) := by
          have h := hbw.out
          have e : maskK m (fillL key) 64 = maskL m (fillL key) := by
            rw [maskK, List.take_of_length_le (by rw [fillL_len]; exact Nat.le_refl _), List.drop_of_length_le (by rw [fillL_len]; exact Nat.le_refl _), List.append_nil]
          rw [e] at h
          have hl : (maskL m (fillL key)).length = 64 := by simp [maskL, fillL_len]
          have h2 := h.own (Nat.le_refl _) (by rw [hl]; unfold maxLen; omega)
          rw [hl] at h2
          exact h2
        have HF := Lib.hid hfin
        clear hfin hbw
        go_wp2
        go_ret
        exact ⟨_, rfl, HF.out, hbe.out⟩

set_option maxRecDepth 100000 in
set_option maxHeartbeats 1600000 in
theorem inside_any {key b : List UInt8} {v u : Value} {w : World} {B B2 : Nat} (hb : Bs w B v key) (hB : B ≤ w.heap.size) (hu : Bs w B2 u b) (hB2 : B2 ≤ w.heap.size) (hlen : key.length ≤ 140737488355128) (hlen2 : b.length ≤ 140737488355000) :
    Calls Try.prog 69 #[v, u] w fun e w' => e = .returned (arr32 (insideL key b)) ∧ Below w.heap.size w w' := by
  have hb0 : Below w.heap.size w (w.alloc (.cells #[.int .u8 0, .int .u8 0, .int .u8 0, .int .u8 0, .int .u8 0, .int .u8 0, .int .u8 0, .int .u8 0, .int .u8 0, .int .u8 0, .int .u8 0, .int .u8 0, .int .u8 0, .int .u8 0, .int .u8 0, .int .u8 0, .int .u8 0, .int .u8 0, .int .u8 0, .int .u8 0, .int .u8 0, .int .u8 0, .int .u8 0, .int .u8 0, .int .u8 0, .int .u8 0, .int .u8 0, .int .u8 0, .int .u8 0, .int .u8 0, .int .u8 0, .int .u8 0] 29)) := (Below.refl _ _).alloc (Nat.le_refl _) _
  have hs0 : (w.alloc (.cells #[.int .u8 0, .int .u8 0, .int .u8 0, .int .u8 0, .int .u8 0, .int .u8 0, .int .u8 0, .int .u8 0, .int .u8 0, .int .u8 0, .int .u8 0, .int .u8 0, .int .u8 0, .int .u8 0, .int .u8 0, .int .u8 0, .int .u8 0, .int .u8 0, .int .u8 0, .int .u8 0, .int .u8 0, .int .u8 0, .int .u8 0, .int .u8 0, .int .u8 0, .int .u8 0, .int .u8 0, .int .u8 0, .int .u8 0, .int .u8 0, .int .u8 0, .int .u8 0] 29)).heap.size = w.heap.size + 1 := by simp
  have hr0 : (w.alloc (.cells #[.int .u8 0, .int .u8 0, .int .u8 0, .int .u8 0, .int .u8 0, .int .u8 0, .int .u8 0, .int .u8 0, .int .u8 0, .int .u8 0, .int .u8 0, .int .u8 0, .int .u8 0, .int .u8 0, .int .u8 0, .int .u8 0, .int .u8 0, .int .u8 0, .int .u8 0, .int .u8 0, .int .u8 0, .int .u8 0, .int .u8 0, .int .u8 0, .int .u8 0, .int .u8 0, .int .u8 0, .int .u8 0, .int .u8 0, .int .u8 0, .int .u8 0, .int .u8 0] 29)).heap[w.heap.size]? = some (.cells #[.int .u8 0, .int .u8 0, .int .u8 0, .int .u8 0, .int .u8 0, .int .u8 0, .int .u8 0, .int .u8 0, .int .u8 0, .int .u8 0, .int .u8 0, .int .u8 0, .int .u8 0, .int .u8 0, .int .u8 0, .int .u8 0, .int .u8 0, .int .u8 0, .int .u8 0, .int .u8 0, .int .u8 0, .int .u8 0, .int .u8 0, .int .u8 0, .int .u8 0, .int .u8 0, .int .u8 0, .int .u8 0, .int .u8 0, .int .u8 0, .int .u8 0, .int .u8 0] 29 (0, 0)) := heap_alloc_new w _
  have CB := refblock_any (hb.below hb0 hB) (by rw [hs0]; omega) hlen 54
  have HCB : Hid (Calls Try.prog 71 #[v, .int .u8 54] (w.alloc (.cells #[.int .u8 0, .int .u8 0, .int .u8 0, .int .u8 0, .int .u8 0, .int .u8 0, .int .u8 0, .int .u8 0, .int .u8 0, .int .u8 0, .int .u8 0, .int .u8 0, .int .u8 0, .int .u8 0, .int .u8 0, .int .u8 0, .int .u8 0, .int .u8 0, .int .u8 0, .int .u8 0, .int .u8 0, .int .u8 0, .int .u8 0, .int .u8 0, .int .u8 0, .int .u8 0, .int .u8 0, .int .u8 0, .int .u8 0, .int .u8 0, .int .u8 0, .int .u8 0] 29)) fun e w' => ∃ u, e = .returned u ∧ Own w' (w.heap.size + 1) u (innerL key) ∧ Below (w.heap.size + 1) (w.alloc (.cells #[.int .u8 0, .int .u8 0, .int .u8 0, .int .u8 0, .int .u8 0, .int .u8 0, .int .u8 0, .int .u8 0, .int .u8 0, .int .u8 0, .int .u8 0, .int .u8 0, .int .u8 0, .int .u8 0, .int .u8 0, .int .u8 0, .int .u8 0, .int .u8 0, .int .u8 0, .int .u8 0, .int .u8 0, .int .u8 0, .int .u8 0, .int .u8 0, .int .u8 0, .int .u8 0, .int .u8 0, .int .u8 0, .int .u8 0, .int .u8 0, .int .u8 0, .int .u8 0] 29)) w') := by
    rw [hs0] at CB
    exact CB
  have hub0 := hu.below hb0 hB2
  obtain ⟨Au, cu, hue⟩ := hu.shape
  subst hue
  obtain ⟨cs, hcs⟩ : ∃ cs : Array Value, cs = ((insideL key b).map vb).toArray := ⟨_, rfl⟩
  have hcz : cs.size = 32 := by rw [hcs]; simp [insideL, sumL_len]
  have hi2 : Hid ((Try.prog.info? 29).map (·.size) = some cs.size) := by rw [hcz]; show _ = _; kernel_rfl
  have ho2 : Hid ((#[.int .u8 0, .int .u8 0, .int .u8 0, .int .u8 0, .int .u8 0, .int .u8 0, .int .u8 0, .int .u8 0, .int .u8 0, .int .u8 0, .int .u8 0, .int .u8 0, .int .u8 0, .int .u8 0, .int .u8 0, .int .u8 0, .int .u8 0, .int .u8 0, .int .u8 0, .int .u8 0, .int .u8 0, .int .u8 0, .int .u8 0, .int .u8 0, .int .u8 0, .int .u8 0, .int .u8 0, .int .u8 0, .int .u8 0, .int .u8 0, .int .u8 0, .int .u8 0] : Array Value).size = cs.size) := by rw [hcz]; show _ = _; rfl
  have hone2 : Hid (cs.all (·.oneCell') = true) := by rw [hcs]; exact one_bytes _
  have HB0 := Lib.hid hb0; have HR0 := Lib.hid hr0; have HCE := Lib.hid hcs; have HUB := Lib.hid hub0
  clear hb0 hr0 CB hcs hcz hb hu hub0 hs0
  go_enter Try.func69, Try.ntmps69
  go_wp2_with fail
  with_reducible refine (HCB.out).mono ?_
  rintro e1 w1 ⟨u1, rfl, h1, hb1⟩
  obtain ⟨A1, c1, rfl⟩ := h1.shape
  have hl1 : w.heap.size + 1 ≤ w1.heap.size := by have := hb1.size; simp at this; omega
  have hu1 : Hid (Bs w1 B2 (.slice Au b.length cu) b) := Lib.hid (HUB.out.below hb1 (by omega))
  have H1 := Lib.hid h1
  have HR1 : Hid (w1.heap[w.heap.size]? = some (.cells #[.int .u8 0, .int .u8 0, .int .u8 0, .int .u8 0, .int .u8 0, .int .u8 0, .int .u8 0, .int .u8 0, .int .u8 0, .int .u8 0, .int .u8 0, .int .u8 0, .int .u8 0, .int .u8 0, .int .u8 0, .int .u8 0, .int .u8 0, .int .u8 0, .int .u8 0, .int .u8 0, .int .u8 0, .int .u8 0, .int .u8 0, .int .u8 0, .int .u8 0, .int .u8 0, .int .u8 0, .int .u8 0, .int .u8 0, .int .u8 0, .int .u8 0, .int .u8 0] 29 (0, 0))) := Lib.hid ((hb1.block _ (by omega)).trans HR0.out)
  have HB1 := Lib.hid (HB0.out.trans (hb1.mono (by omega)))
  have hilen := innerL_len key
  have hsum : (innerL key).length + b.length ≤ 140737488355328 := by rw [hilen]; omega
  have HIL := Lib.hid hilen
  clear h1 hb1 hilen
  go_wp2_with (with_reducible refine wpList_app rfl (.tmp 6) (.tmp 7) rfl rfl H1.out rfl hu1.out hsum hl1 ?_)
  intro v2 w2 hv2 hg2 _
  have hb2 : Below w.heap.size w w2 := HB1.out.grown hg2 HB1.out.size (fun j hj => by have := (H1.out.lt j hj).1; omega)
  have hr2 : w2.heap[w.heap.size]? = some (.cells #[.int .u8 0, .int .u8 0, .int .u8 0, .int .u8 0, .int .u8 0, .int .u8 0, .int .u8 0, .int .u8 0, .int .u8 0, .int .u8 0, .int .u8 0, .int .u8 0, .int .u8 0, .int .u8 0, .int .u8 0, .int .u8 0, .int .u8 0, .int .u8 0, .int .u8 0, .int .u8 0, .int .u8 0, .int .u8 0, .int .u8 0, .int .u8 0, .int .u8 0, .int .u8 0, .int .u8 0, .int .u8 0, .int .u8 0, .int .u8 0, .int .u8 0, .int .u8 0] 29 (0, 0)) := (hg2.block _ (by omega) (fun e => by have := (H1.out.lt _ e.symm).1; omega)).trans HR1.out
  obtain ⟨M, hM⟩ : ∃ M, M = innerL key ++ b := ⟨_, rfl⟩
  rw [← hM] at hv2
  obtain ⟨A2, c2, rfl⟩ := hv2.shape
  have CS := refSum_any hv2.bs (Nat.le_refl _) (by rw [hM, List.length_append, HIL.out]; omega)
  have HCS : Hid (Calls Try.prog 70 #[.slice A2 M.length c2] w2 fun e w' => e = .returned (.agg cs) ∧ Below w2.heap.size w2 w') := by rw [HCE.out, insideL, ← hM]; exact CS
  have hl2 : w.heap.size < w2.heap.size := (Array.getElem?_eq_some_iff.1 hr2).1
  have HB2 := Lib.hid hb2; have HR2 := Lib.hid hr2
  clear CS hM hv2 hg2 hb2 hr2
  go_wp2_with fail
  with_reducible refine (HCS.out).mono ?_
  rintro e3 w3 ⟨rfl, hb3⟩
  have hr3 : Hid (w3.heap[w.heap.size]? = some (.cells #[.int .u8 0, .int .u8 0, .int .u8 0, .int .u8 0, .int .u8 0, .int .u8 0, .int .u8 0, .int .u8 0, .int .u8 0, .int .u8 0, .int .u8 0, .int .u8 0, .int .u8 0, .int .u8 0, .int .u8 0, .int .u8 0, .int .u8 0, .int .u8 0, .int .u8 0, .int .u8 0, .int .u8 0, .int .u8 0, .int .u8 0, .int .u8 0, .int .u8 0, .int .u8 0, .int .u8 0, .int .u8 0, .int .u8 0, .int .u8 0, .int .u8 0, .int .u8 0] 29 (0, 0))) := Lib.hid ((hb3.block _ hl2).trans HR2.out)
  have hb3' := HB2.out.trans (hb3.mono HB2.out.size)
  have hbe3 : Below w.heap.size w (w3.setRow w.heap.size cs) := hb3'.grown (row := some w.heap.size) ⟨rfl, rfl, rfl, by simp, fun j _ hj => setRow_other w3 w.heap.size j _ (fun e => hj (by rw [e]))⟩ hb3'.size (fun j hj => by simp only [Option.some.injEq] at hj; omega)
  have HB3 := Lib.hid hbe3
  clear hb3 hb3' hbe3
  go_wp2_with (with_reducible refine wpList_store_row rfl 29 (.tmp 4) (.tmp 9) rfl w.heap.size cs rfl rfl 29 _ hr3.out hi2.out ho2.out hone2.out ?_)
  (try simp only [Exit.inBlock, Exit.then])
  refine bodyPost_ret (results_cell_row rfl _ _ w.heap.size 29 cs (0, 0) _ rfl (setRow_heap w3 w.heap.size _ _ _ _ hr3.out) Try.underlying29 rfl hi2.out) rfl ?_
  exact ⟨by rw [HCE.out]; rfl, HB3.out⟩
end Go.Proofs.Ytifgigpflfdmfaa
