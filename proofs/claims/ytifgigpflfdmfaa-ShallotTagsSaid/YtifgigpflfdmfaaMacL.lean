/- The masked key of a tag: mac's fill and masked. -/
import Derived.Test.YtifgigpflfdmfaaRefSum
import Derived.Test.YtifgigpflfdmfaaArr
namespace Go.Proofs.Ytifgigpflfdmfaa
open Go.RowKit

/-- block g is a row of bytes -/
def Bw (w : World) (g : Nat) (t : TypeId) (l : List UInt8) : Prop := w.heap[g]? = some (.cells (l.map vb).toArray t (0, 0))
theorem Bw.at_ {w : World} {g : Nat} {t : TypeId} {l : List UInt8} (h : Bw w g t l) {j : Nat} (hj : j < l.length) :
    w.cell? ⟨g, j, none⟩ = some (.int .u8 (l[j].toNat : Int)) ∧ w.frozen? ⟨g, j, none⟩ = false ∧ ∀ x : UInt8, Bw (w.setCell ⟨g, j, none⟩ (.int .u8 (x.toNat : Int))) g t (l.set j x) := by
  refine ⟨?_, frozen_of_row w g j _ _ h, fun x => ?_⟩
  · rw [cell_of_row w g j _ _ _ h]
    simp [hj, vb]
  · unfold Bw
    rw [heap_setCell_same w g j _ _ _ h, List.map_set]
    simp [vb]
theorem Bw.lt {w : World} {g : Nat} {t : TypeId} {l : List UInt8} (h : Bw w g t l) : g < w.heap.size := (Array.getElem?_eq_some_iff.1 h).1
theorem Bw.bs {w : World} {g : Nat} {t : TypeId} {l : List UInt8} (h : Bw w g t l) (hl : l.length ≤ maxLen) : Bs w w.heap.size (.slice (some ⟨g, 0, none⟩) l.length l.length) l :=
  ⟨_, _, rfl, Nat.le_refl _, hl, fun _ => ⟨g, 0, rfl, h.lt, fun j hj => by rw [Nat.zero_add]; exact (h.at_ hj).1⟩⟩
theorem Bw.below {w w' : World} {B g : Nat} {t : TypeId} {l : List UInt8} (h : Bw w g t l) (hb : Below B w w') (hB : g < B) : Bw w' g t l := (hb.block g hB).trans h
theorem one_bytes (l : List UInt8) : ((l.map vb).toArray).all (·.oneCell') = true := by
  rw [Array.all_eq_true_iff_forall_mem]
  intro u hu
  rw [List.mem_toArray] at hu
  exact vb_one _ u hu
theorem b_xor (a b : UInt8) : bits .xor .u8 (a.toNat : Int) (b.toNat : Int) = ((a ^^^ b).toNat : Int) := by
  rw [u8_xor_nat _ _ a.toNat_lt b.toNat_lt, UInt8.toNat_xor]
def ba64 (l : List UInt8) : Value := .agg (l.map vb).toArray
/-- the key as 64 bytes -/
def fillL (key : List UInt8) : List UInt8 := if key.length ≤ 64 then key ++ zs (64 - key.length) else sumL key ++ zs 32
theorem fillL_len (key : List UInt8) : (fillL key).length = 64 := by
  unfold fillL
  split
  · simp [zs]; omega
  · simp [zs, sumL_len]
def maskL (m : UInt8) (l : List UInt8) : List UInt8 := l.map (· ^^^ m)
def maskK (m : UInt8) (l : List UInt8) (k : Nat) : List UInt8 := maskL m (l.take k) ++ l.drop k
theorem maskK_len (m : UInt8) (l : List UInt8) (k : Nat) : (maskK m l k).length = l.length := by simp [maskK, maskL]; omega
theorem maskK_at (m : UInt8) (l : List UInt8) (k : Nat) (h : k < l.length) : (maskK m l k).getD k 0 = l.getD k 0 := by
  have h1 : (maskL m (l.take k)).length = k := by simp [maskL]; omega
  rw [maskK, List.getD_eq_getElem?_getD, List.getElem?_append_right (by omega), h1, Nat.sub_self, List.getD_eq_getElem?_getD]
  simp
theorem maskK_set (m : UInt8) (l : List UInt8) (k : Nat) (h : k < l.length) : (maskK m l k).set k (l.getD k 0 ^^^ m) = maskK m l (k + 1) := by
  have h1 : (maskL m (l.take k)).length = k := by simp [maskL]; omega
  have hg : l.getD k 0 = l[k] := by rw [List.getD_eq_getElem?_getD, List.getElem?_eq_getElem h, Option.getD_some]
  rw [hg, maskK, maskK, List.set_append_right _ _ (by omega), h1, Nat.sub_self, List.take_succ_eq_append_getElem h, List.drop_eq_getElem_cons h, List.set_cons_zero, maskL, maskL, List.map_append, List.append_assoc]
  rfl

set_option maxRecDepth 100000 in
set_option maxHeartbeats 1600000 in
theorem masked_any {l : List UInt8} (hl : l.length = 64) (m : UInt8) (w : World) :
    Calls Try.prog 45 #[ba64 l, .int .u8 (m.toNat : Int)] w fun e w' => e = .returned (ba64 (maskL m l)) ∧ Below w.heap.size w w' := by
  obtain ⟨cs, hcs⟩ : ∃ cs : Array Value, cs = (l.map vb).toArray := ⟨_, rfl⟩
  have hv : ba64 l = .agg cs := by rw [hcs]; rfl
  rw [hv]
  have hb0 : Below w.heap.size w ((w.alloc (.cells cs 37)).alloc (.cells #[.int .u8 0, .int .u8 0, .int .u8 0, .int .u8 0, .int .u8 0, .int .u8 0, .int .u8 0, .int .u8 0, .int .u8 0, .int .u8 0, .int .u8 0, .int .u8 0, .int .u8 0, .int .u8 0, .int .u8 0, .int .u8 0, .int .u8 0, .int .u8 0, .int .u8 0, .int .u8 0, .int .u8 0, .int .u8 0, .int .u8 0, .int .u8 0, .int .u8 0, .int .u8 0, .int .u8 0, .int .u8 0, .int .u8 0, .int .u8 0, .int .u8 0, .int .u8 0, .int .u8 0, .int .u8 0, .int .u8 0, .int .u8 0, .int .u8 0, .int .u8 0, .int .u8 0, .int .u8 0, .int .u8 0, .int .u8 0, .int .u8 0, .int .u8 0, .int .u8 0, .int .u8 0, .int .u8 0, .int .u8 0, .int .u8 0, .int .u8 0, .int .u8 0, .int .u8 0, .int .u8 0, .int .u8 0, .int .u8 0, .int .u8 0, .int .u8 0, .int .u8 0, .int .u8 0, .int .u8 0, .int .u8 0, .int .u8 0, .int .u8 0, .int .u8 0] 37)) := ((Below.refl _ _).alloc (Nat.le_refl _) _).alloc (by simp) _
  have hw0 : Hid (Bw ((w.alloc (.cells cs 37)).alloc (.cells #[.int .u8 0, .int .u8 0, .int .u8 0, .int .u8 0, .int .u8 0, .int .u8 0, .int .u8 0, .int .u8 0, .int .u8 0, .int .u8 0, .int .u8 0, .int .u8 0, .int .u8 0, .int .u8 0, .int .u8 0, .int .u8 0, .int .u8 0, .int .u8 0, .int .u8 0, .int .u8 0, .int .u8 0, .int .u8 0, .int .u8 0, .int .u8 0, .int .u8 0, .int .u8 0, .int .u8 0, .int .u8 0, .int .u8 0, .int .u8 0, .int .u8 0, .int .u8 0, .int .u8 0, .int .u8 0, .int .u8 0, .int .u8 0, .int .u8 0, .int .u8 0, .int .u8 0, .int .u8 0, .int .u8 0, .int .u8 0, .int .u8 0, .int .u8 0, .int .u8 0, .int .u8 0, .int .u8 0, .int .u8 0, .int .u8 0, .int .u8 0, .int .u8 0, .int .u8 0, .int .u8 0, .int .u8 0, .int .u8 0, .int .u8 0, .int .u8 0, .int .u8 0, .int .u8 0, .int .u8 0, .int .u8 0, .int .u8 0, .int .u8 0, .int .u8 0] 37)) w.heap.size 37 (maskK m l 0)) := by
    have : maskK m l 0 = l := by simp [maskK, maskL]
    rw [this]
    show _ = _
    rw [← hcs]
    exact (heap_alloc_old _ _ (by simp)).trans (heap_alloc_new w _)
  have hr0 : Hid (((w.alloc (.cells cs 37)).alloc (.cells #[.int .u8 0, .int .u8 0, .int .u8 0, .int .u8 0, .int .u8 0, .int .u8 0, .int .u8 0, .int .u8 0, .int .u8 0, .int .u8 0, .int .u8 0, .int .u8 0, .int .u8 0, .int .u8 0, .int .u8 0, .int .u8 0, .int .u8 0, .int .u8 0, .int .u8 0, .int .u8 0, .int .u8 0, .int .u8 0, .int .u8 0, .int .u8 0, .int .u8 0, .int .u8 0, .int .u8 0, .int .u8 0, .int .u8 0, .int .u8 0, .int .u8 0, .int .u8 0, .int .u8 0, .int .u8 0, .int .u8 0, .int .u8 0, .int .u8 0, .int .u8 0, .int .u8 0, .int .u8 0, .int .u8 0, .int .u8 0, .int .u8 0, .int .u8 0, .int .u8 0, .int .u8 0, .int .u8 0, .int .u8 0, .int .u8 0, .int .u8 0, .int .u8 0, .int .u8 0, .int .u8 0, .int .u8 0, .int .u8 0, .int .u8 0, .int .u8 0, .int .u8 0, .int .u8 0, .int .u8 0, .int .u8 0, .int .u8 0, .int .u8 0, .int .u8 0] 37)).heap[w.heap.size + 1]? = some (.cells #[.int .u8 0, .int .u8 0, .int .u8 0, .int .u8 0, .int .u8 0, .int .u8 0, .int .u8 0, .int .u8 0, .int .u8 0, .int .u8 0, .int .u8 0, .int .u8 0, .int .u8 0, .int .u8 0, .int .u8 0, .int .u8 0, .int .u8 0, .int .u8 0, .int .u8 0, .int .u8 0, .int .u8 0, .int .u8 0, .int .u8 0, .int .u8 0, .int .u8 0, .int .u8 0, .int .u8 0, .int .u8 0, .int .u8 0, .int .u8 0, .int .u8 0, .int .u8 0, .int .u8 0, .int .u8 0, .int .u8 0, .int .u8 0, .int .u8 0, .int .u8 0, .int .u8 0, .int .u8 0, .int .u8 0, .int .u8 0, .int .u8 0, .int .u8 0, .int .u8 0, .int .u8 0, .int .u8 0, .int .u8 0, .int .u8 0, .int .u8 0, .int .u8 0, .int .u8 0, .int .u8 0, .int .u8 0, .int .u8 0, .int .u8 0, .int .u8 0, .int .u8 0, .int .u8 0, .int .u8 0, .int .u8 0, .int .u8 0, .int .u8 0, .int .u8 0] 37 (0, 0))) := heap_alloc2_new w _ _
  have HB0 := Lib.hid hb0; have HL := Lib.hid hl
  clear hcs hv hb0 hl
  go_enter Try.func45, Try.ntmps45
  go_wp2_with fail
  go_loopw [6] (fun i wr => ∃ k : Nat, k ≤ 64 ∧ i = .int .i64 k ∧ Hid (Below w.heap.size w wr) ∧ Hid (Bw wr w.heap.size 37 (maskK m l k)) ∧ Hid (wr.heap[w.heap.size + 1]? = some (.cells #[.int .u8 0, .int .u8 0, .int .u8 0, .int .u8 0, .int .u8 0, .int .u8 0, .int .u8 0, .int .u8 0, .int .u8 0, .int .u8 0, .int .u8 0, .int .u8 0, .int .u8 0, .int .u8 0, .int .u8 0, .int .u8 0, .int .u8 0, .int .u8 0, .int .u8 0, .int .u8 0, .int .u8 0, .int .u8 0, .int .u8 0, .int .u8 0, .int .u8 0, .int .u8 0, .int .u8 0, .int .u8 0, .int .u8 0, .int .u8 0, .int .u8 0, .int .u8 0, .int .u8 0, .int .u8 0, .int .u8 0, .int .u8 0, .int .u8 0, .int .u8 0, .int .u8 0, .int .u8 0, .int .u8 0, .int .u8 0, .int .u8 0, .int .u8 0, .int .u8 0, .int .u8 0, .int .u8 0, .int .u8 0, .int .u8 0, .int .u8 0, .int .u8 0, .int .u8 0, .int .u8 0, .int .u8 0, .int .u8 0, .int .u8 0, .int .u8 0, .int .u8 0, .int .u8 0, .int .u8 0, .int .u8 0, .int .u8 0, .int .u8 0, .int .u8 0] 37 (0, 0)))) (fun i _ => 64 - (intOf i).toNat)
  case atStart => exact ⟨0, Nat.zero_le _, rfl, HB0, hw0, hr0⟩
  case round =>
    obtain ⟨k, hk, rfl, hbe, hbw, hres⟩ := hrel
    clear HB0 hw0 hr0
    by_cases hlt : k < 64
    · have hkl : k < (maskK m l k).length := by rw [maskK_len, HL.out]; exact hlt
      obtain ⟨x, hx⟩ : ∃ x, x = l.getD k 0 := ⟨_, rfl⟩
      obtain ⟨q1, q2, q3⟩ := hbw.out.at_ hkl
      have hxe : (maskK m l k)[k] = x := by
        have := maskK_at m l k (by rw [HL.out]; exact hlt)
        rw [List.getD_eq_getElem?_getD, List.getElem?_eq_getElem hkl, Option.getD_some] at this
        rw [this, hx]
      rw [hxe] at q1
      have hnew := q3 (x ^^^ m)
      rw [hx, maskK_set m l k (by rw [HL.out]; exact hlt), ← hx] at hnew
      have HN := Lib.hid hnew
      have hgr : ∀ v, Hid (wr.grownBy (wr.setCell ⟨w.heap.size, k, none⟩ v) (some w.heap.size)) := fun v => Lib.hid (setCell_grown wr w.heap.size k v)
      have hb2 : Hid (∀ v, Below w.heap.size w (wr.setCell ⟨w.heap.size, k, none⟩ v)) := Lib.hid (fun v => hbe.out.grown (hgr v).out hbe.out.size (fun i hi => by simp only [Option.some.injEq] at hi; omega))
      have rs2 : Hid (∀ v, (wr.setCell ⟨w.heap.size, k, none⟩ v).heap[w.heap.size + 1]? = some (.cells #[.int .u8 0, .int .u8 0, .int .u8 0, .int .u8 0, .int .u8 0, .int .u8 0, .int .u8 0, .int .u8 0, .int .u8 0, .int .u8 0, .int .u8 0, .int .u8 0, .int .u8 0, .int .u8 0, .int .u8 0, .int .u8 0, .int .u8 0, .int .u8 0, .int .u8 0, .int .u8 0, .int .u8 0, .int .u8 0, .int .u8 0, .int .u8 0, .int .u8 0, .int .u8 0, .int .u8 0, .int .u8 0, .int .u8 0, .int .u8 0, .int .u8 0, .int .u8 0, .int .u8 0, .int .u8 0, .int .u8 0, .int .u8 0, .int .u8 0, .int .u8 0, .int .u8 0, .int .u8 0, .int .u8 0, .int .u8 0, .int .u8 0, .int .u8 0, .int .u8 0, .int .u8 0, .int .u8 0, .int .u8 0, .int .u8 0, .int .u8 0, .int .u8 0, .int .u8 0, .int .u8 0, .int .u8 0, .int .u8 0, .int .u8 0, .int .u8 0, .int .u8 0, .int .u8 0, .int .u8 0, .int .u8 0, .int .u8 0, .int .u8 0, .int .u8 0] 37 (0, 0))) := Lib.hid (fun v => ((hgr v).out.block _ (Array.getElem?_eq_some_iff.1 hres.out).1 (by simp)).trans hres.out)
      have k0 : (0 : Int) ≤ (k : Int) := Int.natCast_nonneg _
      have k64 : (k : Int) < 64 := by omega
      clear hnew hxe hx hkl q3 hgr
      go_wp2_with fail
      rw [b_xor]
      go_roundw
      case rel => exact ⟨k + 1, by omega, by go_num, hb2.out _, HN, rs2.out _⟩
      case measure => simp [intOf]; omega
    · obtain rfl : k = 64 := by omega
      obtain ⟨us, hus⟩ : ∃ us : Array Value, us = ((maskL m l).map vb).toArray := ⟨_, rfl⟩
      have haw : Hid (wr.heap[w.heap.size]? = some (.cells us 37 (0, 0))) := by
        rw [hus]
        have h := hbw.out
        have e : maskK m l 64 = maskL m l := by
          rw [maskK, List.take_of_length_le (by rw [HL.out]; exact Nat.le_refl _), List.drop_of_length_le (by rw [HL.out]; exact Nat.le_refl _), List.append_nil]
        rw [e] at h
        exact h
      have husz : us.size = 64 := by rw [hus]; simp [maskL, HL.out]
      have hone : Hid (us.all (·.oneCell') = true) := by rw [hus]; exact one_bytes _
      have hi : Hid ((Try.prog.info? 37).map (·.size) = some us.size) := by rw [husz]; show _ = _; kernel_rfl
      have ho : Hid ((#[.int .u8 0, .int .u8 0, .int .u8 0, .int .u8 0, .int .u8 0, .int .u8 0, .int .u8 0, .int .u8 0, .int .u8 0, .int .u8 0, .int .u8 0, .int .u8 0, .int .u8 0, .int .u8 0, .int .u8 0, .int .u8 0, .int .u8 0, .int .u8 0, .int .u8 0, .int .u8 0, .int .u8 0, .int .u8 0, .int .u8 0, .int .u8 0, .int .u8 0, .int .u8 0, .int .u8 0, .int .u8 0, .int .u8 0, .int .u8 0, .int .u8 0, .int .u8 0, .int .u8 0, .int .u8 0, .int .u8 0, .int .u8 0, .int .u8 0, .int .u8 0, .int .u8 0, .int .u8 0, .int .u8 0, .int .u8 0, .int .u8 0, .int .u8 0, .int .u8 0, .int .u8 0, .int .u8 0, .int .u8 0, .int .u8 0, .int .u8 0, .int .u8 0, .int .u8 0, .int .u8 0, .int .u8 0, .int .u8 0, .int .u8 0, .int .u8 0, .int .u8 0, .int .u8 0, .int .u8 0, .int .u8 0, .int .u8 0, .int .u8 0, .int .u8 0] : Array Value).size = us.size) := by rw [husz]; show _ = _; rfl
      have hbe3 : Below w.heap.size w (wr.setRow (w.heap.size + 1) us) := hbe.out.grown (row := some (w.heap.size + 1)) ⟨rfl, rfl, rfl, by simp, fun j _ hj => setRow_other wr (w.heap.size + 1) j _ (fun e => hj (by rw [e]))⟩ hbe.out.size (fun j hj => by simp only [Option.some.injEq] at hj; omega)
      have HUS := Lib.hid hus
      clear hus husz hbw hbe
      go_wp2_with (first
        | (with_reducible refine wpList_load_row rfl 37 (.tmp 2) rfl w.heap.size rfl 37 us (0, 0) _ haw.out Try.underlying37 rfl hi.out ?_)
        | (with_reducible refine wpList_store_row rfl 37 (.tmp 4) (.tmp 16) rfl (w.heap.size + 1) us rfl rfl 37 _ hres.out hi.out ho.out hone.out ?_))
      (try simp only [Exit.inBlock, Exit.then])
      refine bodyPost_ret (results_cell_row rfl _ _ (w.heap.size + 1) 37 us (0, 0) _ rfl (setRow_heap wr (w.heap.size + 1) _ _ _ _ hres.out) Try.underlying37 rfl hi.out) rfl ?_
      exact ⟨by rw [HUS.out]; rfl, hbe3⟩
end Go.Proofs.Ytifgigpflfdmfaa
