/- Spare and Kept of the reference: a copy with marked room behind it. -/
import Derived.Test.YthgdficgjldobaaLib
namespace Go.Proofs.Ythgdficgjldobaa
open Go.RowKit

/-- the mark at place p -/
def markS (p : Nat) : UInt8 := UInt8.ofNat (160 + p % 31)
theorem markS_val (p : Nat) : ((markS p).toNat : Int) = 160 + ((p % 31 : Nat) : Int) := by
  rw [markS, UInt8.toNat_ofNat']
  omega
/-- the whole after k marks -/
def rowS (l : List UInt8) (k : Nat) : List UInt8 := l ++ ((List.range k).map fun i => markS (l.length + i)) ++ List.replicate (40 - k) 0
/-- the whole that Spare makes -/
def fullS (l : List UInt8) : List UInt8 := l ++ (List.range 40).map fun i => markS (l.length + i)
theorem rowS_len (l : List UInt8) {k : Nat} (h : k ≤ 40) : (rowS l k).length = l.length + 40 := by
  simp only [rowS, List.length_append, List.length_map, List.length_range, List.length_replicate]; omega
theorem fullS_len (l : List UInt8) : (fullS l).length = l.length + 40 := by simp [fullS]
theorem rowS_full (l : List UInt8) : rowS l 40 = fullS l := by simp [rowS, fullS]
theorem rowS_set (l : List UInt8) {k : Nat} (h : k < 40) : (rowS l k).set (l.length + k) (markS (l.length + k)) = rowS l (k + 1) := by
  have e : (40 - k) = (40 - (k + 1)) + 1 := by omega
  have hl : (l ++ (List.range k).map fun i => markS (l.length + i)).length = l.length + k := by simp
  rw [rowS, e, List.replicate_succ, ← hl, List.set_append_right _ _ (Nat.le_refl _), Nat.sub_self, List.set_cons_zero, hl, rowS, List.range_succ, List.map_append]
  simp
theorem fullS_at (l : List UInt8) {j : Nat} (h : l.length ≤ j) (h2 : j < l.length + 40) : (fullS l)[j]? = some (markS j) := by
  rw [fullS, List.getElem?_append_right h, List.getElem?_map, List.getElem?_range (by omega)]
  simp only [Option.map_some]
  congr 2
  omega
theorem fullS_take (l : List UInt8) : (fullS l).take l.length = l := by simp [fullS]

set_option maxRecDepth 100000 in
set_option maxHeartbeats 4000000 in
theorem spare_any {l : List UInt8} {v : Value} {w : World} {B : Nat} (hb : Bs w B v l) (hB : B ≤ w.heap.size) (hl : l.length ≤ 140737488355000) :
    Calls Try.prog 29 #[v] w fun e w' => ∃ g, e = .returned (.tuple #[.slice (some ⟨g, 0, none⟩) l.length (l.length + 40), .slice (some ⟨g, 0, none⟩) (l.length + 40) (l.length + 40)]) ∧ w.heap.size ≤ g ∧
      Own w' w.heap.size (.slice (some ⟨g, 0, none⟩) (l.length + 40) (l.length + 40)) (fullS l) ∧ Below w.heap.size w w' := by
  obtain ⟨A, c, rfl, h1, h2, h3⟩ := hb
  have H3 := Lib.hid h3; clear h3
  unfold maxLen at h2
  have hN1 : l.length + 40 ≤ 281474976710656 := by omega
  have hmk := run_make_row' (P := Try.prog) 28 5 (.int .u8 0) 1 Try.underlying28 u8info rfl .i64 .i64 (l.length + 40) (by omega) (by omega)
  rw [show ((l.length + 40 : Nat) : Int) = (l.length : Int) + 40 by omega] at hmk
  obtain ⟨Z, hZ⟩ : ∃ Z, Z = (List.replicate (l.length + 40) (0 : UInt8)).map vb := ⟨_, rfl⟩
  obtain ⟨M, hM⟩ : ∃ M, M = madeCells #[Value.int .u8 0] (l.length + 40) := ⟨_, rfl⟩
  have hMZ : M = Z.toArray := by
    rw [hM, hZ]
    apply Array.toList_inj.1
    rw [toList_madeCells_one]
    simp [vb]
  have hrow : Hid ((w.alloc (.cells M 5)).heap[w.heap.size]? = some (.cells Z.toArray 5 (0, 0))) := by
    show _ = _
    rw [heap_alloc_new, hMZ]
  rw [← hM] at hmk
  have hZl : Z.length = l.length + 40 := by rw [hZ]; simp
  have HZL := Lib.hid hZl; have HZ := Lib.hid hZ
  have hbel : Below w.heap.size w (w.alloc (.cells M 5)) := (Below.refl _ _).alloc (Nat.le_refl _) _
  obtain ⟨X, hX⟩ : ∃ X, X = l.map vb := ⟨_, rfl⟩
  have HX := Lib.hid hX
  clear hX hM hMZ hZ hZl
  go_enter Try.func29, Try.ntmps29
  go_wp2_with (with_reducible refine wpList_copy_splice rfl (.tmp 10) (.tmp 11) 28 28 rfl 5 Try.underlying28 u8size _ _ _ _ _ _ rfl rfl w.heap.size 0 _ 5 hrow.out X ?_ ?_ ?_ ?_ w.heap.size w hbel (Nat.le_refl _) ?_)
  case refine_1 => simp only [HX.out, List.length_map]; exact (Nat.min_eq_left (by omega)).symm
  case refine_2 =>
    intro hp
    have hp' : 0 < l.length := by simpa [HX.out] using hp
    obtain ⟨b2, off2, rfl, _, hc2⟩ := H3.out hp'
    refine ⟨_, rfl, fun i x hx => ?_⟩
    rw [HX.out, List.getElem?_map] at hx
    obtain ⟨y, hy, rfl⟩ := Option.map_eq_some_iff.1 hx
    obtain ⟨hi, rfl⟩ := List.getElem?_eq_some_iff.1 hy
    rw [add_none]; exact (hbel.cell (by show b2 < _; omega)).trans (hc2 i hi)
  case refine_3 => simp only [HX.out, List.length_map, HZL.out]; omega
  case refine_4 => rw [HX.out]; exact vb_one _
  intro w2 hg2 hb2
  have hs : splice Z 0 X = (rowS l 0).map vb := by
    rw [splice, HX.out, HZ.out]
    simp [rowS]
  have hown := Own.of_cells (B := w.heap.size) (l := rowS l 0) hg2.out (Nat.le_refl _) (by rw [rowS_len l (by omega)]; unfold maxLen; omega) hs
  rw [rowS_len l (by omega)] at hown
  have HO := Lib.hid hown
  have HB2 := Lib.hid hb2
  clear hown hg2 hs hb2 hmk hbel hrow
  go_wp2_with fail
  go_loopw [5] (fun i wr => ∃ k p : Nat, k ≤ 40 ∧ Hid (p = l.length + k) ∧ i = .int .i64 (p : Int) ∧ Hid (Own wr w.heap.size (.slice (some ⟨w.heap.size, 0, none⟩) (l.length + 40) (l.length + 40)) (rowS l k)) ∧ Hid (Below w.heap.size w wr)) (fun i _ => l.length + 40 - (intOf i).toNat)
  case atStart => exact ⟨0, l.length, by omega, Lib.hid rfl, rfl, HO, HB2⟩
  case round =>
    obtain ⟨k, p, hk, hp, rfl, hown, hbe⟩ := hrel
    clear HO HB2
    have hp' := hp.out
    by_cases hlt : k < 40
    · obtain ⟨g', hg', _, _, hcell0, hfrz, hset⟩ := hown.out.at_ (j := p) (by rw [rowS_len l hk]; omega)
      obtain ⟨y, hcell⟩ : ∃ y : Int, wr.cell? ⟨g', p, none⟩ = some (.int .u8 y) := ⟨_, hcell0⟩
      simp only [Option.some.injEq, Addr.mk.injEq] at hg'
      obtain ⟨rfl, _⟩ := hg'
      obtain ⟨bt, hbt⟩ : ∃ bt, bt = markS p := ⟨_, rfl⟩
      have hmi : 160 + (p : Int) % 31 = (bt.toNat : Int) := by rw [hbt, markS_val]; omega
      have hset2 := hset bt
      rw [hbt, show (rowS l k).set p (markS p) = rowS l (k + 1) by rw [hp']; exact rowS_set l hlt, ← hbt] at hset2
      have HSET := Lib.hid hset2
      have hbb := Lib.hid (hbe.out.setCell (p := ⟨w.heap.size, p, none⟩) (Nat.le_refl _) (.int .u8 (bt.toNat : Int)))
      have hlp : (p : Int) < (l.length : Int) + 40 := by omega
      have hpp : p < l.length + 40 := by omega
      clear hcell0 hset hset2 hbt hown hbe hp'
      go_wp2_with fail
      go_roundw
      case rel => exact ⟨k + 1, p + 1, by omega, Lib.hid (by have := hp.out; omega), by go_num, HSET, hbb⟩
      case measure => simp [intOf]; omega
    · obtain rfl : k = 40 := by omega
      clear hp
      subst hp'
      have HO := hown.out
      rw [rowS_full] at HO
      have HO2 := Lib.hid HO
      clear HO hown
      go_wp2
      go_ret2
      exact ⟨_, rfl, Nat.le_refl _, HO2.out, hbe.out⟩
end Go.Proofs.Ythgdficgjldobaa
