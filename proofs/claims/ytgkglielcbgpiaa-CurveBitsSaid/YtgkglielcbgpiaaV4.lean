/- The reference's Clamp. -/
import Derived.Test.YtgkglielcbgpiaaV3
import Derived.Laws.CopyOwn
namespace Go.Proofs.Ytgkglielcbgpiaa
open Go.RowKit

theorem bs_src {w : World} {B : Nat} {A : Option Addr} {c n : Nat} {l : List UInt8} (h : Bs w B (.slice A n c) l) (hn : n = l.length) {cs : List Value} (hcs : cs = l.map vb) : 0 < cs.length → ∃ ad, A = some ad ∧ ∀ j v, cs[j]? = some v → w.cell? (ad.add j) = some v := by
  intro hp
  subst hn hcs
  obtain ⟨A', c', hv, _, _, h3⟩ := h
  simp only [Value.slice.injEq] at hv
  obtain ⟨rfl, _, _⟩ := hv
  obtain ⟨b2, off2, rfl, _, hc2⟩ := h3 (by simpa using hp)
  refine ⟨_, rfl, fun j v hj => ?_⟩
  rw [List.getElem?_map] at hj
  obtain ⟨y, hy, rfl⟩ := Option.map_eq_some_iff.1 hj
  obtain ⟨hj2, rfl⟩ := List.getElem?_eq_some_iff.1 hy
  rw [add_none]
  exact hc2 j hj2
set_option maxRecDepth 100000 in
set_option maxHeartbeats 4000000 in
theorem refclamp_no {l : List UInt8} {v : Value} {w : World} (hb : Bs w w.heap.size v l) (hl : l.length ≠ 32) : Calls Try.prog 32 #[v] w fun e w' => e = .returned (.tuple #[.agg #[.int .u8 0, .int .u8 0, .int .u8 0, .int .u8 0, .int .u8 0, .int .u8 0, .int .u8 0, .int .u8 0, .int .u8 0, .int .u8 0, .int .u8 0, .int .u8 0, .int .u8 0, .int .u8 0, .int .u8 0, .int .u8 0, .int .u8 0, .int .u8 0, .int .u8 0, .int .u8 0, .int .u8 0, .int .u8 0, .int .u8 0, .int .u8 0, .int .u8 0, .int .u8 0, .int .u8 0, .int .u8 0, .int .u8 0, .int .u8 0, .int .u8 0, .int .u8 0], .int .i64 2]) ∧ Below w.heap.size w w' := by
  obtain ⟨A, c, rfl, h1, h2, h3⟩ := hb
  unfold maxLen at h2
  have ht : ((l.length : Int) != 32) = true := by simp; omega
  obtain ⟨zs, hzs⟩ : ∃ zs : Array Value, zs = #[.int .u8 0, .int .u8 0, .int .u8 0, .int .u8 0, .int .u8 0, .int .u8 0, .int .u8 0, .int .u8 0, .int .u8 0, .int .u8 0, .int .u8 0, .int .u8 0, .int .u8 0, .int .u8 0, .int .u8 0, .int .u8 0, .int .u8 0, .int .u8 0, .int .u8 0, .int .u8 0, .int .u8 0, .int .u8 0, .int .u8 0, .int .u8 0, .int .u8 0, .int .u8 0, .int .u8 0, .int .u8 0, .int .u8 0, .int .u8 0, .int .u8 0, .int .u8 0] := ⟨_, rfl⟩
  have hone : Hid (zs.all (·.oneCell') = true) := by rw [hzs]; exact Lib.hid (by show _ = _; kernel_rfl)
  have hi : Hid ((Try.prog.info? 50).map (·.size) = some zs.size) := by rw [hzs]; exact Lib.hid (by show _ = _; kernel_rfl)
  have r0 : ((w.alloc (.cells zs 50)).alloc (.cells zs 50)).heap[w.heap.size]? = some (.cells zs 50 (0, 0)) := (heap_alloc_old _ _ (by simp)).trans (heap_alloc_last w _)
  have r1 : ((w.alloc (.cells zs 50)).alloc (.cells zs 50)).heap[w.heap.size + 1]? = some (.cells zs 50 (0, 0)) := heap_alloc2_new w _ _
  have hbe : Below w.heap.size w ((w.alloc (.cells zs 50)).alloc (.cells zs 50)) := ((Below.refl _ _).alloc (Nat.le_refl _) _).alloc (by simp) _
  rw [← hzs]
  obtain ⟨V0, hV0⟩ : ∃ V0, V0 = (w.alloc (.cells zs 50)).alloc (.cells zs 50) := ⟨_, rfl⟩
  rw [← hV0] at r0 r1 hbe
  have R0 := Lib.hid r0; have R1 := Lib.hid r1; have HBE := Lib.hid hbe
  have hV0' : V0 = (w.alloc (.cells #[.int .u8 0, .int .u8 0, .int .u8 0, .int .u8 0, .int .u8 0, .int .u8 0, .int .u8 0, .int .u8 0, .int .u8 0, .int .u8 0, .int .u8 0, .int .u8 0, .int .u8 0, .int .u8 0, .int .u8 0, .int .u8 0, .int .u8 0, .int .u8 0, .int .u8 0, .int .u8 0, .int .u8 0, .int .u8 0, .int .u8 0, .int .u8 0, .int .u8 0, .int .u8 0, .int .u8 0, .int .u8 0, .int .u8 0, .int .u8 0, .int .u8 0, .int .u8 0] 50)).alloc (.cells #[.int .u8 0, .int .u8 0, .int .u8 0, .int .u8 0, .int .u8 0, .int .u8 0, .int .u8 0, .int .u8 0, .int .u8 0, .int .u8 0, .int .u8 0, .int .u8 0, .int .u8 0, .int .u8 0, .int .u8 0, .int .u8 0, .int .u8 0, .int .u8 0, .int .u8 0, .int .u8 0, .int .u8 0, .int .u8 0, .int .u8 0, .int .u8 0, .int .u8 0, .int .u8 0, .int .u8 0, .int .u8 0, .int .u8 0, .int .u8 0, .int .u8 0, .int .u8 0] 50) := by rw [hV0, hzs]
  have HV0 := Lib.hid hV0'
  clear h3 hl r0 r1 hbe hV0 hV0' hzs
  go_enter Try.func32, Try.ntmps32
  go_upto_region 2 with fail
  rw [show _ = V0 from HV0.out.symm]
  clear HV0
  go_wp2_with (first | (with_reducible refine wpList_load_row rfl 50 (.tmp 4) rfl (w.heap.size + 1) rfl 50 zs (0, 0) _ R1.out Try.underlying50 rfl hi.out ?_) | (with_reducible refine wpList_store_row rfl 50 (.tmp 2) (.tmp 8) rfl (w.heap.size) zs rfl rfl 50 _ R0.out hi.out rfl hone.out ?_) | fail)
  exact bodyPost_ret (results_cell_tmp rfl _ _ w.heap.size 50 zs (0, 0) _ _ rfl rfl (setRow_heap _ w.heap.size _ _ _ _ R0.out) Try.underlying50 rfl hi.out) rfl ⟨rfl, set_below HBE.out (Nat.le_refl _) _⟩
set_option maxRecDepth 100000 in
set_option maxHeartbeats 4000000 in
theorem refclamp_ok {l : List UInt8} {v : Value} {w : World} (hb : Bs w w.heap.size v l) (hl : l.length = 32) : Calls Try.prog 32 #[v] w fun e w' => e = .returned (.tuple #[.agg ((clampL l).map vb).toArray, .int .i64 0]) ∧ Below w.heap.size w w' := by
  obtain ⟨A, c, rfl⟩ := hb.shape
  rw [hl]
  obtain ⟨vs, hvs⟩ : ∃ vs, vs = ((clampL l).map vb).toArray := ⟨_, rfl⟩
  have hvsz : vs.size = 32 := by rw [hvs]; simpa [clampL_len] using hl
  have hone5 : Hid (vs.all (·.oneCell') = true) := by rw [hvs]; exact Lib.hid (one_bytes _)
  have hi5 : Hid ((Try.prog.info? 50).map (·.size) = some vs.size) := by rw [hvsz]; exact Lib.hid (by show _ = _; kernel_rfl)
  have ho5 : Hid ((((zs 32).map vb).toArray : Array Value).size = vs.size) := by rw [hvsz]; exact Lib.hid (by show _ = _; rfl)
  rw [← hvs]
  have HVS := Lib.hid hvs
  clear hvs hvsz
  obtain ⟨cs, hcs⟩ : ∃ cs, cs = l.map vb := ⟨_, rfl⟩
  have hcl : cs.length = 32 := by rw [hcs, List.length_map, hl]
  have hone : ∀ v ∈ cs, v.oneCell' = true := by rw [hcs]; exact vb_one _
  obtain ⟨V0, hV0⟩ : ∃ V0, V0 = (w.alloc (.cells #[.int .u8 0, .int .u8 0, .int .u8 0, .int .u8 0, .int .u8 0, .int .u8 0, .int .u8 0, .int .u8 0, .int .u8 0, .int .u8 0, .int .u8 0, .int .u8 0, .int .u8 0, .int .u8 0, .int .u8 0, .int .u8 0, .int .u8 0, .int .u8 0, .int .u8 0, .int .u8 0, .int .u8 0, .int .u8 0, .int .u8 0, .int .u8 0, .int .u8 0, .int .u8 0, .int .u8 0, .int .u8 0, .int .u8 0, .int .u8 0, .int .u8 0, .int .u8 0] 50)).alloc (.cells #[.int .u8 0, .int .u8 0, .int .u8 0, .int .u8 0, .int .u8 0, .int .u8 0, .int .u8 0, .int .u8 0, .int .u8 0, .int .u8 0, .int .u8 0, .int .u8 0, .int .u8 0, .int .u8 0, .int .u8 0, .int .u8 0, .int .u8 0, .int .u8 0, .int .u8 0, .int .u8 0, .int .u8 0, .int .u8 0, .int .u8 0, .int .u8 0, .int .u8 0, .int .u8 0, .int .u8 0, .int .u8 0, .int .u8 0, .int .u8 0, .int .u8 0, .int .u8 0] 50) := ⟨_, rfl⟩
  have r0 : V0.heap[w.heap.size]? = some (.cells ((zs 32).map vb).toArray 50 (0, 0)) := by rw [hV0]; exact (heap_alloc_old _ _ (by simp)).trans (heap_alloc_last w _)
  have r1 : V0.heap[w.heap.size + 1]? = some (.cells ((zs 32).map vb).toArray 50 (0, 0)) := by rw [hV0]; exact heap_alloc2_new w _ _
  have hbe : Below w.heap.size w V0 := by rw [hV0]; exact ((Below.refl _ _).alloc (Nat.le_refl _) _).alloc (by simp) _
  have hb0 := (hb.below hbe (Nat.le_refl _))
  have hpos := bs_src (l := l) hb0 rfl hcs
  have hpos2 : 0 < cs.length → (some (⟨w.heap.size + 1, 0, none⟩ : Addr)) = some ⟨w.heap.size + 1, 0, none⟩ ∧ ∃ ad, A = some ad ∧ ∀ j v, cs[j]? = some v → V0.cell? (ad.add j) = some v := fun h => ⟨rfl, hpos h⟩
  have hsp : splice ((zs 32).map vb) 0 cs = l.map vb := by
    have e := splice_end ([] : List Value) ((zs 32).map vb) cs
    simp only [List.nil_append, List.length_nil] at e
    rw [e, hcl, hcs, List.drop_of_length_le (by simp [zs]), List.append_nil]
  have hcut := fun W => cut32_all (g := w.heap.size + 1) W
  have HV0 := Lib.hid hV0; have R0 := Lib.hid r0; have R1 := Lib.hid r1; have HBE := Lib.hid hbe; have HPOS := Lib.hid hpos2; have HONE := Lib.hid hone; have HCL := Lib.hid hcl; have HSP := Lib.hid hsp; have HL := Lib.hid hl
  clear hb hb0 hpos hpos2 hcs hcl hone hV0 r0 r1 hbe hsp hl
  go_enter Try.func32, Try.ntmps32
  go_upto_region 2 with fail
  rw [show _ = V0 from HV0.out.symm]
  clear HV0
  go_wp2_with (with_reducible refine wpList_copy_splice rfl (.tmp 9) (.tmp 10) 47 47 rfl 5 Try.underlying47 u8size _ _ _ _ _ _ rfl rfl (w.heap.size + 1) 0 ((zs 32).map vb) 50 R1.out cs ?_ HPOS.out ?_ HONE.out (w.heap.size + 1) V0 (Below.refl _ _) (Nat.le_refl _) ?_)
  all_goals first
    | exact HCL.out
    | (rw [HCL.out]; rfl)
    | (rw [HCL.out]; simp [zs]; done)
    | skip
  intro w2 hg2 hb2
  have hbw : Bw w2 (w.heap.size + 1) 50 l := by unfold Bw; rw [← HSP.out]; exact hg2.out
  have q0 : w2.heap[w.heap.size]? = some (.cells ((zs 32).map vb).toArray 50 (0, 0)) := (hb2.block w.heap.size (by omega)).trans R0.out
  have hbe2 : Below w.heap.size w w2 := HBE.out.trans (hb2.mono (by omega))
  clear hg2 hcut hb2 R0 R1 HBE HPOS HONE HSP
  obtain ⟨c0, f0, s0⟩ := hbw.at_ (j := 0) (by rw [HL.out]; omega)
  obtain ⟨c31, f31, _⟩ := hbw.at_ (j := 31) (by rw [HL.out]; omega)
  have g0 : l[0]'(by rw [HL.out]; omega) = l.getD 0 0 := by simp [show 0 < l.length by rw [HL.out]; omega]
  have g31 : l[31]'(by rw [HL.out]; omega) = l.getD 31 0 := by simp [show 31 < l.length by rw [HL.out]; omega]
  rw [g0] at c0
  rw [g31] at c31
  obtain ⟨x0, hx0⟩ : ∃ x, x = l.getD 0 0 := ⟨_, rfl⟩
  obtain ⟨x31, hx31⟩ : ∃ x, x = l.getD 31 0 := ⟨_, rfl⟩
  rw [← hx0] at c0
  rw [← hx31] at c31
  have b0 := x0.toNat_lt
  have b31 := x31.toNat_lt
  have w1 := s0 (UInt8.ofNat (x0.toNat / 8 * 8))
  rw [u8n (by omega)] at w1
  have s1 := (w1.at_ (j := 31) (by rw [List.length_set, HL.out]; omega)).2.2
  have w3 := s1 (UInt8.ofNat (x31.toNat % 64 + 64))
  rw [u8n (by omega)] at w3
  have e3 : (l.set 0 (UInt8.ofNat (x0.toNat / 8 * 8))).set 31 (UInt8.ofNat (x31.toNat % 64 + 64)) = clampL l := by rw [hx0, hx31]; rfl
  rw [e3] at w3
  obtain ⟨va, hva⟩ : ∃ va : Nat, va = x0.toNat / 8 * 8 := ⟨_, rfl⟩
  obtain ⟨vc, hvc⟩ : ∃ vc : Nat, vc = x31.toNat % 64 + 64 := ⟨_, rfl⟩
  rw [← hva, ← hvc] at w3
  obtain ⟨y0, hy0⟩ : ∃ y0, y0 = x0.toNat := ⟨_, rfl⟩
  obtain ⟨y31, hy31⟩ : ∃ y31, y31 = x31.toNat := ⟨_, rfl⟩
  rw [← hy0] at c0 hva b0
  rw [← hy31] at c31 hvc b31
  have ea : (y0 : Int) / 8 * 8 = (va : Int) := by omega
  have ec : (y31 : Int) % 64 + 64 = (vc : Int) := by omega
  have k0 : (0 : Int) ≤ (y0 : Int) := by omega
  have k1 : (y0 : Int) ≤ 255 := by omega
  have k2 : (0 : Int) ≤ (y31 : Int) := by omega
  have k3 : (y31 : Int) ≤ 255 := by omega
  unfold Bw at w3
  rw [← HVS.out] at w3
  have zF : w.heap.size ≤ w.heap.size + 1 := by omega
  have hzF : ((w2.setCell ⟨w.heap.size + 1, 0, none⟩ (.int .u8 (va : Int))).setCell ⟨w.heap.size + 1, 31, none⟩ (.int .u8 (vc : Int))).heap[w.heap.size]? = some (.cells ((zs 32).map vb).toArray 50 (0, 0)) :=
    (Below.heap_setCell _ _ _ _ (by show _ ≠ _; simp only; omega)).trans ((Below.heap_setCell _ _ _ _ (by show _ ≠ _; simp only; omega)).trans q0)
  have hbF := (hbe2.setCell (p := ⟨w.heap.size + 1, 0, none⟩) zF (.int .u8 (va : Int))).setCell (p := ⟨w.heap.size + 1, 31, none⟩) zF (.int .u8 (vc : Int))
  have W3F := Lib.hid w3; have HZF := Lib.hid hzF; have HBF := Lib.hid hbF
  clear s0 s1 w1 w3 e3 hbw q0 g0 g31 hzF hbF b0 b31 hbe2 hx0 hx31 hy0 hy31 hva hvc
  go_wp2_with (first
    | (with_reducible refine wpList_load_row rfl 50 (.tmp 4) rfl (w.heap.size + 1) rfl 50 vs (0, 0) _ W3F.out Try.underlying50 rfl hi5.out ?_)
    | (with_reducible refine wpList_store_row rfl 50 (.tmp 2) (.tmp 22) rfl (w.heap.size) vs rfl rfl 50 _ HZF.out hi5.out ho5.out hone5.out ?_))
  exact bodyPost_ret (results_cell_tmp rfl _ _ w.heap.size 50 vs (0, 0) _ _ rfl rfl (setRow_heap _ w.heap.size _ _ _ _ HZF.out) Try.underlying50 rfl hi5.out) rfl ⟨rfl, row_below HBF.out (by omega) HBF.out.size⟩
end Go.Proofs.Ytgkglielcbgpiaa
