/- A flow's bytes, not yet taken. -/
import Derived.Test.YtifgigpflfdmfaaC1
namespace Go.Proofs.Ytifgigpflfdmfaa
open Go.RowKit

set_option maxRecDepth 100000 in
set_option maxHeartbeats 4000000 in
theorem ahead_any {w : World} {g d n : Nat} {T : TypeId} {ex : List Value} {key : List UInt8} (h : Flw w g T ex key d) (hn : d + n ≤ 65536) :
    Calls Try.prog 68 #[.pointer (some ⟨g, 0, none⟩), .int .i64 (n : Int)] w fun e w' => ∃ u, e = .returned u ∧ Own w' w.heap.size u (strL key d n) ∧ Below w.heap.size w w' := by
  have H := Lib.hid h
  have hk : key.length = 32 := h.1
  have hgw := h.lt
  have HK := Lib.hid hk
  have hmk0 : ∀ W : World, (Instr.makeSlice 22 (.int .i64 12) (.int .i64 12)).run Try.prog W = .ok (.slice (some ⟨W.heap.size, 0, none⟩) 12 12) (W.alloc (.cells (madeCells #[Value.int .u8 0] 12) 5)) := fun W => by
    have h := run_make_row' (P := Try.prog) 22 5 (.int .u8 0) 1 Try.underlying22 u8info rfl .i64 .i64 12 (by omega) (by omega) W
    exact h
  have hmk : ∀ W : World, (Instr.makeSlice 22 (.int .i64 (n : Int)) (.int .i64 (n : Int))).run Try.prog W = .ok (.slice (some ⟨W.heap.size, 0, none⟩) n n) (W.alloc (.cells (madeCells #[Value.int .u8 0] n) 5)) := fun W => by
    have h := run_make_row' (P := Try.prog) 22 5 (.int .u8 0) 1 Try.underlying22 u8info rfl .i64 .i64 n (by omega) (by omega) W
    exact h
  obtain ⟨gn, hgn⟩ : ∃ x, x = w.heap.size := ⟨_, rfl⟩
  have hN0 : (w.alloc (.cells (madeCells #[Value.int .u8 0] 12) 5)).heap[w.heap.size]? = some (.cells (zs12.map vb).toArray 5 (0, 0)) := by
    rw [heap_alloc_new w _]
    have e : zs12.map vb = List.replicate 12 (Value.int .u8 0) := by simp [zs12, vb]
    rw [e, ← toList_madeCells_one, Array.toArray_toList]
  have hal1 : Below w.heap.size w (w.alloc (.cells (madeCells #[Value.int .u8 0] 12) 5)) := (Below.refl _ _).alloc (Nat.le_refl _) _
  have hF1 := h.below hal1 hgw
  obtain ⟨W1, hW1⟩ : ∃ W1, W1 = w.alloc (.cells (madeCells #[Value.int .u8 0] 12) 5) := ⟨_, rfl⟩
  have hs1 : W1.heap.size = w.heap.size + 1 := by rw [hW1]; simp
  rw [← hW1] at hN0 hal1 hF1
  have hal2 : Below W1.heap.size W1 (W1.alloc (.cells (madeCells #[Value.int .u8 0] n) 5)) := (Below.refl _ _).alloc (Nat.le_refl _) _
  have HF2 := Lib.hid (hF1.below hal2 hF1.lt)
  have HN2 := Lib.hid ((hal2.block w.heap.size (by omega)).trans hN0)
  have HB2 := Lib.hid (hal1.trans (hal2.mono hal1.size))
  have HG2 : Hid ((W1.alloc (.cells (madeCells #[Value.int .u8 0] n) 5)).heap[W1.heap.size]? = some (.cells ((strP key d n 0).map vb).toArray 5 (0, 0))) := Lib.hid (by
    have e : (strP key d n 0).map vb = List.replicate n (Value.int .u8 0) := by simp [strP, strL, vb]
    rw [heap_alloc_new W1 _, e, ← toList_madeCells_one, Array.toArray_toList])
  have HW1 := Lib.hid hW1
  have hs2 : w.heap.size < W1.heap.size := by omega
  have HS1 := Lib.hid hs1
  obtain ⟨go, hgo⟩ : ∃ x, x = W1.heap.size := ⟨_, rfl⟩
  rw [← hgo] at HG2
  have HGO := Lib.hid hgo; have HGN := Lib.hid hgn
  rw [← hgn] at HN2
  have hgle0 : g < w.heap.size := hgw
  clear h hk hN0 hal1 hF1 hal2 hW1 hs1 hgo hgn
  go_enter Try.func68, Try.ntmps68
  go_upto_region 2 with fail
  rw [← HW1.out, ← HGN.out]
  have hnI : (0 : Int) ≤ (n : Int) := by omega
  go_upto_region 3 with fail
  rw [← HGO.out]
  have hgg : w.heap.size ≤ go := by rw [HGO.out]; omega
  have hggn : gn < go := by rw [HGO.out, HGN.out]; omega
  have hgle : w.heap.size ≤ gn := by rw [HGN.out]; omega
  generalize W1.alloc (.cells (madeCells #[Value.int .u8 0] n) 5) = W2 at HF2 HN2 HB2 HG2 ⊢
  clear hmk hmk0 HW1 hs2 HGO HGN HS1
  go_wp2_with fail
  go_loopw [7] (fun i wr => ∃ k : Nat, k ≤ n ∧ i = .int .i64 (k : Int) ∧ Hid (Flw wr g T ex key d) ∧ Hid (wr.heap[gn]? = some (.cells (zs12.map vb).toArray 5 (0, 0))) ∧ Hid (wr.heap[go]? = some (.cells ((strP key d n k).map vb).toArray 5 (0, 0))) ∧ Hid (Below w.heap.size w wr)) (fun i _ => n - (intOf i).toNat)
  case atStart => exact ⟨0, Nat.zero_le _, rfl, HF2, HN2, HG2, HB2⟩
  case round =>
    obtain ⟨k, hkn, rfl, hfl, hno, hou, hbe⟩ := hrel
    clear HF2 HN2 HB2 HG2
    by_cases hlt : k < n
    · have hI : (k : Int) < (n : Int) := by omega
      have hI0 : (0 : Int) ≤ (k : Int) := by omega
      obtain ⟨hd1, hd2⟩ := hfl.out.done
      have hsum : IntKind.i64.wrap ((d : Int) + (k : Int)) = ((d + k : Nat) : Int) := by rw [IntWalk.i64_in _ (by omega)]; omega
      obtain ⟨c, hc⟩ : ∃ c, c = UInt32.ofNat ((d + k) / 64) := ⟨_, rfl⟩
      have hcI : (c.toNat : Int) = ((d : Int) + (k : Int)) / 64 := by rw [hc, UInt32.toNat_ofNat']; omega
      have hnon : Bs wr wr.heap.size (.slice (some ⟨gn, 0, none⟩) 12 12) zs12 := by
        have h := (Own.of_cells (B := w.heap.size) (l := zs12) hno.out hgle (by unfold maxLen zs12; simp) rfl).bs
        exact h
      have C := block_any (c := c) hfl.out.key hnon (Nat.le_refl _) HK.out (by rfl)
      rw [hcI] at C
      obtain ⟨b, hb⟩ : ∃ b, b = blockL key zs12 c := ⟨_, rfl⟩
      rw [← hb] at C
      have hbl : b.length = 64 := by rw [hb]; exact blockL_len _ _ _
      obtain ⟨r, hr⟩ : ∃ r, r = (d + k) % 64 := ⟨_, rfl⟩
      have hr64 : r < 64 := by omega
      have hrI : ((d : Int) + (k : Int)) % 64 = (r : Int) := by omega
      have htm : ((d : Int) + (k : Int)).tmod 64 = (r : Int) := by rw [Int.tmod_eq_emod_of_nonneg (by omega)]; exact hrI
      obtain ⟨m, hm⟩ : ∃ m, m = min (64 - r) (n - k) := ⟨_, rfl⟩
      have hm1 : 1 ≤ m := by omega
      have hmk : k + m ≤ n := by omega
      have hm64 : m ≤ 64 - r := by omega
      have hms : strL key (d + k) m = (b.drop r).take m := by rw [strL_block key (d + k) m (by omega), hb, hc, hr]
      have hmI : IntKind.i64.wrap ((k : Int) + (m : Int)) = (k : Int) + (m : Int) := IntWalk.i64_in _ (by omega)
      have C := Lib.hid C
      have HBL := Lib.hid hbl
      have HMS := Lib.hid hms
      have hcutk := fun W => cut32_k (g := g) W
      obtain ⟨D1, hD1, hcut1⟩ := cut_l (A := some ⟨go, 0, none⟩) (n := n) (c := n) (l := k) (by omega) (Nat.le_refl _)
      have HD1 := Lib.hid hD1
      have HM := Lib.hid hm
      clear hc hcI hb hbl hr hm hms hnon hD1 hsum
      go_wp2_with fail
      with_reducible refine (C.out).mono ?_
      rintro e5 w5 ⟨v5, rfl, ho5, hb5⟩
      obtain ⟨A5, c5, rfl⟩ := ho5.shape
      have hc5 : 64 ≤ c5 := by
        have h := ho5.bs
        obtain ⟨A', c', hv, h1, _⟩ := h
        simp only [Value.slice.injEq] at hv
        have := HBL.out
        omega
      rw [HBL.out]
      obtain ⟨D2, hD2, hcut2⟩ := cut_l (A := A5) (n := 64) (c := c5) (l := r) (by omega) hc5
      have HD2 := Lib.hid hD2
      have HO5 := Lib.hid ho5
      have HFL5 := Lib.hid (hfl.out.below hb5 hfl.out.lt)
      have hgnl : gn < wr.heap.size := (Array.getElem?_eq_some_iff.1 hno.out).1
      have hgol : go < wr.heap.size := (Array.getElem?_eq_some_iff.1 hou.out).1
      have HNO5 := Lib.hid ((hb5.block gn hgnl).trans hno.out)
      have HOU5 := Lib.hid ((hb5.block go hgol).trans hou.out)
      have HBE5 := Lib.hid (hbe.out.trans (hb5.mono hbe.out.size))
      clear hb5 ho5 hfl hno hou hbe hD2 C hcutk
      go_wp2_with fail
      obtain ⟨cs, hcs⟩ : ∃ cs, cs = (strL key (d + k) m).map vb := ⟨_, rfl⟩
      have hcl : cs.length = m := by rw [hcs, List.length_map, strL_len]
      have hone : ∀ v ∈ cs, v.oneCell' = true := by rw [hcs]; exact vb_one _
      have hmin : cs.length = Nat.min (64 - r) (n - k) := by rw [hcl, HM.out]
      have hpos : 0 < cs.length → D1 = some ⟨go, k, none⟩ ∧ ∃ ad, D2 = some ad ∧ ∀ j v, cs[j]? = some v → w5.drew.cell? (ad.add j) = some v := by
        intro _
        have hb5 := HO5.out.bs
        obtain ⟨A', c', hv, _, _, h3⟩ := hb5
        simp only [Value.slice.injEq] at hv
        obtain ⟨rfl, _, _⟩ := hv
        obtain ⟨b2, off2, rfl, _, hc2⟩ := h3 (by have := HBL.out; omega)
        refine ⟨by rw [HD1.out hlt]; simp [Addr.add_lit], _, HD2.out (by omega), fun j v hj => ?_⟩
        rw [hcs, HMS.out, List.getElem?_map] at hj
        obtain ⟨y, hy, rfl⟩ := Option.map_eq_some_iff.1 hj
        obtain ⟨hj2, rfl⟩ := List.getElem?_eq_some_iff.1 hy
        simp only [List.length_take, List.length_drop] at hj2
        have := HBL.out
        simp only [add_none]
        rw [Nat.add_assoc]
        refine (hc2 (r + j) (by omega)).trans ?_
        simp [List.getElem_take, List.getElem_drop, vb]
      have HFIT : Hid (k + cs.length ≤ ((strP key d n k).map vb).length) := Lib.hid (by rw [hcl, List.length_map, strP_len key d hkn]; omega)
      have HRW : Hid (w5.drew.heap[go]? = some (.cells ((strP key d n k).map vb).toArray 5 (0, 0))) := Lib.hid HOU5.out
      obtain ⟨cur, hcur⟩ : ∃ cur, cur = (strP key d n k).map vb := ⟨_, rfl⟩
      rw [← hcur] at HFIT HRW
      have HCUR := Lib.hid hcur
      clear hcur
      have HPOS := Lib.hid hpos; have HMIN := Lib.hid hmin; have HONE := Lib.hid hone; have HCS := Lib.hid hcs; have HCL := Lib.hid hcl
      clear hcs hcl hone hmin hpos HM
      go_region_held3 (fun _ => True) (trivial) (first | (refine step_copy_splice rfl (.tmp 34) (.tmp 38) 22 22 rfl 5 Try.underlying22 u8size D1 D2 (n - k) (n - k) (64 - r) (c5 - r) rfl rfl go k cur 5 HRW.out cs HMIN.out HPOS.out HFIT.out HONE.out go w5.drew (Below.refl _ _) (Nat.le_refl _) ?_; intro w6 hg6 hb6; rw [HCL.out]) | fail)
      have HOU6 : Hid (w6.heap[go]? = some (.cells ((strP key d n (k + m)).map vb).toArray 5 (0, 0))) := Lib.hid (by
        have h := hg6.out
        rw [HCUR.out, HCS.out, strP_splice key d hmk] at h
        exact h)
      have hb6' : Below go w5 w6 := ⟨hb6.os, hb6.tape, hb6.output, hb6.size, hb6.block⟩
      have HF6 := Lib.hid (HFL5.out.below hb6' (by omega))
      have HN6 := Lib.hid ((hb6'.block gn (by omega)).trans HNO5.out)
      have HB6 := Lib.hid (HBE5.out.trans (hb6'.mono hgg))
      clear hg6 hb6 hb6' HFL5 HNO5 HBE5 HRW HPOS HMIN HFIT HONE hcut1 hcut2 htm hmI
      go_wp2
      go_roundw
      case rel => exact ⟨k + m, by omega, by go_num, HF6, HN6, HOU6, HB6⟩
      case measure => simp [intOf]; omega
    · have hI : ¬ (k : Int) < (n : Int) := by omega
      have hke : k = n := by omega
      have hown : Own wr w.heap.size (.slice (some ⟨go, 0, none⟩) n n) (strL key d n) := by
        have h := hou.out
        rw [hke, strP_end] at h
        have h2 := Own.of_cells (B := w.heap.size) (l := strL key d n) h hgg (by rw [strL_len]; unfold maxLen; omega) rfl
        rw [strL_len] at h2
        exact h2
      have HOWN := Lib.hid hown
      clear hke hown hou hfl hno
      go_wp2
      go_ret
      exact ⟨_, rfl, HOWN.out, hbe.out⟩
end Go.Proofs.Ytifgigpflfdmfaa
