/- The law's list. -/
import Derived.Test.YtkgghakdccbfpaaE1
import Derived.Test.YtkgghakdccbfpaaL2
namespace Go.Proofs.Ytkgghakdccbfpaa
open Go.RowKit

set_option maxRecDepth 100000 in
set_option maxHeartbeats 4000000 in
theorem listE {xs : List Nat} {v : Value} {w : World} {B : Nat} (he : Es w B v xs) (hBw : B ≤ w.heap.size) (hn : xs.length ≤ 4398046511103) :
    Calls Try.prog 35 #[v] w fun e w' => ∃ u, e = .returned u ∧ OwnEs w' w.heap.size u xs ∧ Below w.heap.size w w' := by
  obtain ⟨A, c, rfl, hlen, hcm, hcs⟩ := he
  unfold maxLen at hcm
  go_enter Try.func35, Try.ntmps35
  go_wp2_with fail
  go_loopw [3, 8] (fun s i wr => ∃ k : Nat, k ≤ xs.length ∧ i = .int .i64 k ∧ Hid (Below w.heap.size w wr) ∧ Hid (OwnEs wr w.heap.size s (xs.take k))) (fun _ i _ => xs.length - (intOf i).toNat)
  case atStart => exact ⟨0, Nat.zero_le _, rfl, Lib.hid (Below.refl _ _), Lib.hid (OwnEs.nil _ _)⟩
  case round =>
    obtain ⟨k, hk, rfl, hbe, hown⟩ := hrel
    by_cases hlt : k < xs.length
    · obtain ⟨b, off, rfl, hb, hcell⟩ := hcs (by omega)
      obtain ⟨hx4, hcell⟩ := hcell k hlt
      have hl := limbs_of xs[k]
      have hb2 : b < w.heap.size := by omega
      have e0 : wr.cell? ⟨b, off + k * 4, none⟩ = some (.int .u64 (l0 xs[k] : Int)) := (hbe.out.cell (p := ⟨b, off + k * 4, none⟩) hb2).trans (by rw [← hl.1]; exact hcell 0 (by omega))
      have e1 : wr.cell? ⟨b, off + k * 4 + 1, none⟩ = some (.int .u64 (l1 xs[k] : Int)) := (hbe.out.cell (p := ⟨b, off + k * 4 + 1, none⟩) hb2).trans (by rw [← hl.2.1]; exact hcell 1 (by omega))
      have e2 : wr.cell? ⟨b, off + k * 4 + 2, none⟩ = some (.int .u64 (l2 xs[k] : Int)) := (hbe.out.cell (p := ⟨b, off + k * 4 + 2, none⟩) hb2).trans (by rw [← hl.2.2.1]; exact hcell 2 (by omega))
      have e3 : wr.cell? ⟨b, off + k * 4 + 3, none⟩ = some (.int .u64 (l3 xs[k] : Int)) := (hbe.out.cell (p := ⟨b, off + k * 4 + 3, none⟩) hb2).trans (by rw [← hl.2.2.2]; exact hcell 3 (by omega))
      have htk : xs.take (k + 1) = xs.take k ++ [xs[k]] := List.take_succ_eq_append_getElem hlt
      have htl : (xs.take k).length = k := by rw [List.length_take]; omega
      obtain ⟨x, hx⟩ : ∃ x, x = xs[k] := ⟨_, rfl⟩
      rw [← hx] at e0 e1 e2 e3 hx4 htk
      have HX4 := Lib.hid hx4; have HTK := Lib.hid htk; have HTL := Lib.hid htl
      have k0 : (0 : Int) ≤ (k : Int) := Int.natCast_nonneg _
      have kn : (k : Int) < (xs.length : Int) := by omega
      have hwz := hbe.out.size
      have HOI := Lib.hid ((hown.out.alloc (.cells #[.int .u64 (l0 (x) : Int), .int .u64 (l1 (x) : Int), .int .u64 (l2 (x) : Int), .int .u64 (l3 (x) : Int)] 24)).alloc (.cells #[.int .u64 (l0 (x) : Int), .int .u64 (l1 (x) : Int), .int .u64 (l2 (x) : Int), .int .u64 (l3 (x) : Int)] 32))
      have HEC : Hid (Ec ((wr.alloc (.cells #[.int .u64 (l0 (x) : Int), .int .u64 (l1 (x) : Int), .int .u64 (l2 (x) : Int), .int .u64 (l3 (x) : Int)] 24)).alloc (.cells #[.int .u64 (l0 (x) : Int), .int .u64 (l1 (x) : Int), .int .u64 (l2 (x) : Int), .int .u64 (l3 (x) : Int)] 32)) (wr.heap.size + 1) x) := Lib.hid (by
        have h := Ec.newT (wr.alloc (.cells #[.int .u64 (l0 (x) : Int), .int .u64 (l1 (x) : Int), .int .u64 (l2 (x) : Int), .int .u64 (l3 (x) : Int)] 24)) 32 x
        simpa using h)
      have HAL := Lib.hid ((hbe.out.alloc hwz (.cells #[.int .u64 (l0 (x) : Int), .int .u64 (l1 (x) : Int), .int .u64 (l2 (x) : Int), .int .u64 (l3 (x) : Int)] 24)).alloc (by simp only [World.size_alloc]; omega) (.cells #[.int .u64 (l0 (x) : Int), .int .u64 (l1 (x) : Int), .int .u64 (l2 (x) : Int), .int .u64 (l3 (x) : Int)] 32))
      clear hcs hcell hl hx hx4 htk htl hown
      go_wp2_with (at_builtin; refine wpList_appE rfl (.tmp 12) (.tmp 14) rfl rfl HOI.out rfl HEC.out HX4.out (by rw [HTL.out]; omega) (by simp only [World.size_alloc]; omega) ?_)
      intro v' w3 hown3 hg3
      have hb3 : Below w.heap.size w w3 := HAL.out.grown hg3 (by simp only [World.size_alloc]; omega) HOI.out.lt
      rw [← HTK.out] at hown3
      have HB3 := Lib.hid hb3; have HO3 := Lib.hid hown3
      clear hown3 hg3 hb3
      go_wp2
      go_roundw
      case rel => exact ⟨k + 1, by omega, by go_num, HB3, HO3⟩
      case measure => simp [intOf]; omega
    · obtain rfl : k = xs.length := by omega
      have ho := hown.out
      rw [List.take_length] at ho
      have HO := Lib.hid ho
      clear ho hown hcs
      go_wp2_with fail
      go_ret
      exact ⟨_, rfl, HO.out, hbe.out⟩
end Go.Proofs.Ytkgghakdccbfpaa
