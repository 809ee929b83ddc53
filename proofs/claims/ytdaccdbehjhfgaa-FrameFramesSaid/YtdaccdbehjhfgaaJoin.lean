/- codec.Join: the parts one behind the other. -/
import Derived.Test.YtdaccdbehjhfgaaLib
namespace Go.Proofs.Ytdaccdbehjhfgaa
open Go.RowKit

def preL (ls : List (List UInt8)) (k : Nat) : List UInt8 := (ls.take k).flatten
theorem preL_succ (ls : List (List UInt8)) {k : Nat} (h : k < ls.length) : preL ls (k + 1) = preL ls k ++ ls[k] := by
  unfold preL
  rw [List.take_succ_eq_append_getElem h, List.flatten_append]
  simp
theorem preL_len (ls : List (List UInt8)) {k : Nat} (h : k < ls.length) : (preL ls (k + 1)).length = (preL ls k).length + ls[k].length := by rw [preL_succ ls h]; simp
theorem preL_le (ls : List (List UInt8)) (k : Nat) : (preL ls k).length ≤ ls.flatten.length := by
  have h : ls.flatten = preL ls k ++ (ls.drop k).flatten := by
    unfold preL
    rw [← List.flatten_append, List.take_append_drop]
  rw [h]; simp
theorem preL_all (ls : List (List UInt8)) : preL ls ls.length = ls.flatten := by simp [preL]
theorem preL_end (ls : List (List UInt8)) {k : Nat} (h : ls.length ≤ k) : preL ls k = ls.flatten := by
  unfold preL
  rw [List.take_of_length_le h]

/-- the row behind k parts -/
def rowJ (ls : List (List UInt8)) (N k : Nat) : List Value := (preL ls k).map vb ++ List.replicate (N - (preL ls k).length) (Value.int .u8 0)
theorem rowJ_len (ls : List (List UInt8)) {N k : Nat} (h : (preL ls k).length ≤ N) : (rowJ ls N k).length = N := by simp [rowJ]; omega
theorem rowJ_succ (ls : List (List UInt8)) {N k : Nat} (hk : k < ls.length) : splice (rowJ ls N k) (preL ls k).length (ls[k].map vb) = rowJ ls N (k + 1) := by
  have h : splice (rowJ ls N k) (preL ls k).length (ls[k].map vb) = (preL ls k).map vb ++ ls[k].map vb ++ (List.replicate (N - (preL ls k).length) (Value.int .u8 0)).drop (ls[k].map vb).length := by
    have := splice_end ((preL ls k).map vb) (List.replicate (N - (preL ls k).length) (Value.int .u8 0)) (ls[k].map vb)
    rw [List.length_map] at this
    exact this
  rw [h, rowJ, preL_succ ls hk]
  simp [Nat.sub_sub]
theorem rowJ_zero (ls : List (List UInt8)) (N : Nat) : rowJ ls N 0 = List.replicate N (Value.int .u8 0) := by simp [rowJ, preL]
theorem rowJ_all (ls : List (List UInt8)) {N k : Nat} (h : ls.length ≤ k) (hN : N = ls.flatten.length) : rowJ ls N k = ls.flatten.map vb := by
  simp [rowJ, preL_end ls h, hN]

set_option maxHeartbeats 400000 in
theorem join_any {ls : List (List UInt8)} {v : Value} {w : World} {B : Nat} (hr : Rs w B v ls) (hB : B ≤ w.heap.size) (hsum : ls.flatten.length ≤ 281474976710656) :
    Calls Try.prog 41 #[v] w fun e w' => ∃ u, e = .returned u ∧ Own w' w.heap.size u ls.flatten ∧ Below w.heap.size w w' := by
  obtain ⟨A, c, rfl, h1, h2, h3⟩ := hr
  have H3 := Lib.hid h3; clear h3
  unfold maxLen at h2
  go_enter Try.func41, Try.ntmps41
  go_wp2
  go_loop [3, 12] (fun s i => ∃ k : Nat, k ≤ ls.length ∧ i = .int .i64 k ∧ s = .int .i64 (preL ls k).length) (fun _ i => ls.length - (intOf i).toNat)
  case atStart => exact ⟨0, Nat.zero_le _, rfl, by simp [preL]⟩
  case round =>
    obtain ⟨k, hk, rfl, rfl⟩ := hrel
    by_cases hlt : k < ls.length
    · obtain ⟨b, off, rfl, hbB, hc⟩ := H3.out (by omega)
      obtain ⟨u, hu, A2, c2, rfl, g1, g2, _⟩ := hc k hlt
      clear hc
      have hp := preL_len ls hlt
      have hp1 := preL_le ls (k + 1)
      have HP := Lib.hid hp
      have hp2 : (preL ls k).length + ls[k].length ≤ 281474976710656 := by omega
      clear hp hp1
      go_wp2
      go_round
      case rel => exact ⟨k + 1, by omega, by go_num, by rw [HP.out]; go_num⟩
      case measure => simp [intOf]; omega
    · have hp := preL_end ls (k := k) (by omega)
      rw [hp]
      clear hp
      obtain ⟨N, hN⟩ : ∃ N : Nat, N = ls.flatten.length := ⟨_, rfl⟩
      rw [← hN]
      have hN1 : N ≤ 281474976710656 := by omega
      have HN := Lib.hid hN; clear hN
      have hmk := run_make_row' (P := Try.prog) 23 5 (.int .u8 0) 1 Try.underlying23 u8info rfl .i64 .i64 N (by omega) (by omega)
      go_wp2
      clear hmk
      go_loopw [7, 25] (fun a i wr => ∃ k : Nat, k ≤ ls.length ∧ i = .int .i64 k ∧ a = .int .i64 (preL ls k).length ∧ Below w.heap.size w wr ∧
        Hid (wr.heap[w.heap.size]? = some (.cells (rowJ ls N k).toArray 5 (0, 0)))) (fun _ i _ => ls.length - (intOf i).toNat)
      case atStart => exact ⟨0, Nat.zero_le _, rfl, by simp [preL], (Below.refl _ _).alloc (Nat.le_refl _) _, by
        show _ = _
        rw [heap_alloc_new, rowJ_zero, ← toList_madeCells_one, Array.toArray_toList]⟩
      case round =>
        obtain ⟨j, hj, rfl, rfl, hbel, hrow⟩ := hrel
        by_cases hlt2 : j < ls.length
        · obtain ⟨b, off, rfl, hbB, hc⟩ := H3.out (by omega)
          obtain ⟨u, hu, A2, c2, rfl, g1, g2, g3⟩ := hc j hlt2
          have hu' := (hbel.cell (p := ⟨b, off + j, none⟩) (by show b < _; omega)).trans hu
          clear hc hu
          have hp := preL_len ls hlt2
          have hp1 := preL_le ls (j + 1)
          have hp2 : (preL ls j).length + ls[j].length ≤ N := by rw [HN.out]; omega
          have HP := Lib.hid hp; clear hp hp1
          obtain ⟨D, hD, hcut⟩ := cut_l (A := some ⟨w.heap.size, 0, none⟩) (n := N) (c := N) (l := (preL ls j).length) (by omega) (Nat.le_refl _)
          have HD := Lib.hid hD; clear hD
          have G3 := Lib.hid g3; clear g3
          go_wp2_with (with_reducible refine wpList_copy_splice rfl (.tmp 32) (.tmp 33) 23 23 rfl 5 Try.underlying23 u8size _ _ _ _ _ _ rfl rfl w.heap.size (preL ls j).length _ 5 hrow.out (ls[j].map vb) ?_ ?_ ?_ (vb_one _) w.heap.size w hbel (Nat.le_refl _) ?_)
          all_goals first
            | (rw [List.length_map]; exact (Nat.min_eq_left (by omega)).symm)
            | (rw [rowJ_len ls (by omega), List.length_map]; omega)
            | (intro hp; have hp' : 0 < ls[j].length := by simpa using hp
               obtain ⟨b2, off2, rfl, _, hc2⟩ := G3.out hp'
               refine ⟨by rw [HD.out (by omega)]; simp [Addr.add_lit], _, rfl, fun i x hx => ?_⟩
               rw [List.getElem?_map] at hx
               obtain ⟨y, hy, rfl⟩ := Option.map_eq_some_iff.1 hx
               obtain ⟨hi, rfl⟩ := List.getElem?_eq_some_iff.1 hy
               rw [add_none]; exact (hbel.cell (by show b2 < _; omega)).trans (hc2 i hi))
            | skip
          intro w2 hg2 hb2
          rw [rowJ_succ ls hlt2] at hg2
          clear hcut
          go_wp2
          go_roundw
          case rel => exact ⟨j + 1, by omega, by go_num, by rw [HP.out]; go_num, hb2, hg2⟩
          case measure => simp [intOf]; omega
        · have hg2 := hrow.out
          rw [rowJ_all ls (by omega) HN.out] at hg2
          have HG := Lib.hid hg2; clear hg2 hrow
          go_wp2
          go_ret
          have hown := Own.of_cells (B := w.heap.size) (l := ls.flatten) HG.out (Nat.le_refl _) (by rw [← HN.out]; unfold maxLen; omega) rfl
          rw [← HN.out] at hown
          exact ⟨_, rfl, hown, hbel⟩
end Go.Proofs.Ytdaccdbehjhfgaa
