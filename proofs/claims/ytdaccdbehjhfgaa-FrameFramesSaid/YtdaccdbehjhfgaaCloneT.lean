/- clone of codec. -/
import Derived.Test.YtdaccdbehjhfgaaLib
import Derived.Deep.RegionHeld3
namespace Go.Proofs.Ytdaccdbehjhfgaa
open Go.RowKit

set_option maxHeartbeats 400000 in
theorem clone_any {l : List UInt8} {v : Value} {w : World} {B : Nat} (hb : Bs w B v l) (hB : B ≤ w.heap.size) (hl : l.length ≤ 281474976710656) :
    Calls Try.prog 54 #[v] w fun e w' => ∃ u, e = .returned u ∧ Own w' w.heap.size u l ∧ Below w.heap.size w w' := by
  obtain ⟨A, c, rfl, h1, h2, h3⟩ := hb
  have H3 := Lib.hid h3; clear h3
  unfold maxLen at h2
  obtain ⟨N, hN⟩ : ∃ N : Nat, N = l.length := ⟨_, rfl⟩
  rw [← hN]
  have hN1 : N ≤ 281474976710656 := by omega
  have hN2 : N ≤ c := by omega
  have HN := Lib.hid hN; clear hN
  have hmk := run_make_row' (P := Try.prog) 23 5 (.int .u8 0) 1 Try.underlying23 u8info rfl .i64 .i64 N (by omega) (by omega)
  have hrow : Hid ((w.alloc (.cells (madeCells #[Value.int .u8 0] N) 5)).heap[w.heap.size]? = some (.cells (madeCells #[Value.int .u8 0] N).toList.toArray 5 (0, 0))) := by
    show _ = _
    rw [heap_alloc_new, Array.toArray_toList]
  have hlen : (madeCells #[Value.int .u8 0] N).toList.length = N := by rw [toList_madeCells_one]; simp
  have HL := Lib.hid hlen; clear hlen
  obtain ⟨Z, hZ⟩ : ∃ Z, Z = (madeCells #[Value.int .u8 0] N).toList := ⟨_, rfl⟩
  rw [← hZ] at hrow HL
  clear hZ
  have hbel : Below w.heap.size w (w.alloc (.cells (madeCells #[Value.int .u8 0] N) 5)) := (Below.refl _ _).alloc (Nat.le_refl _) _
  obtain ⟨X, hX⟩ : ∃ X, X = l.map vb := ⟨_, rfl⟩
  have HX := Lib.hid hX; clear hX
  go_enter Try.func54, Try.ntmps54
  go_wp2_with (with_reducible refine wpList_copy_splice rfl (.tmp 7) (.tmp 8) 23 23 rfl 5 Try.underlying23 u8size _ _ _ _ _ _ rfl rfl w.heap.size 0 _ 5 hrow.out X ?_ ?_ ?_ ?_ w.heap.size w hbel (Nat.le_refl _) ?_)
  case refine_1 => simp only [HX.out, List.length_map, ← HN.out]; exact (Nat.min_self N).symm
  case refine_2 =>
    intro hp
    have hp' : 0 < l.length := by simpa [HX.out] using hp
    obtain ⟨b2, off2, rfl, _, hc2⟩ := H3.out hp'
    refine ⟨_, rfl, fun i x hx => ?_⟩
    rw [HX.out, List.getElem?_map] at hx
    obtain ⟨y, hy, rfl⟩ := Option.map_eq_some_iff.1 hx
    obtain ⟨hi, rfl⟩ := List.getElem?_eq_some_iff.1 hy
    rw [add_none]; exact (hbel.cell (by show b2 < _; omega)).trans (hc2 i hi)
  case refine_3 => simp only [HX.out, List.length_map, ← HN.out, HL.out]; omega
  case refine_4 => rw [HX.out]; exact vb_one _
  case refine_5 =>
    intro w2 hg2 hb2
    have hs : splice Z 0 X = l.map vb := by
      have hd : Z.drop (0 + X.length) = [] := List.drop_eq_nil_of_le (by rw [HL.out, HX.out, List.length_map, ← HN.out]; omega)
      rw [splice, hd, HX.out]; simp
    have HS := Lib.hid hs; clear hs
    have hown := Own.of_cells (B := w.heap.size) (l := l) hg2.out (Nat.le_refl _) (by rw [← HN.out]; unfold maxLen; omega) HS.out
    rw [← HN.out] at hown
    have HO := Lib.hid hown; clear hown hg2
    go_wp2
    go_ret
    exact ⟨_, rfl, HO.out, hb2⟩
end Go.Proofs.Ytdaccdbehjhfgaa
