/- awake of the law. -/
import Derived.Test.YthgdficgjldobaaC3S
import Derived.Test.YthgdficgjldobaaCopyB
namespace Go.Proofs.Ythgdficgjldobaa
open Go.RowKit

theorem str_awake : strL (List.replicate 32 0) 0 4 = [0x76, 0xb8, 0xe0, 0xad] := by decide +kernel
set_option maxRecDepth 100000 in
set_option maxHeartbeats 4000000 in
theorem awake_any (w : World) : Calls Try.prog 11 #[] w fun e w' => e = .returned (.bool true) ∧ Below w.heap.size w w' := by
  have hz : (w.alloc (.cells (madeCells #[Value.int .u8 0] 32) 5)).heap[w.heap.size]? = some (.cells ((List.replicate 32 (0 : UInt8)).map vb).toArray 5 (0, 0)) := by
    rw [heap_alloc_new w _]
    have e : (List.replicate 32 (0 : UInt8)).map vb = List.replicate 32 (Value.int .u8 0) := by simp [vb]
    rw [e, ← toList_madeCells_one, Array.toArray_toList]
  have hmk0 : ∀ W : World, (Instr.makeSlice 28 (.int .i64 32) (.int .i64 32)).run Try.prog W = .ok (.slice (some ⟨W.heap.size, 0, none⟩) 32 32) (W.alloc (.cells (madeCells #[Value.int .u8 0] 32) 5)) := fun W => by
    have h := run_make_row' (P := Try.prog) 28 5 (.int .u8 0) 1 Try.underlying28 u8info rfl .i64 .i64 32 (by omega) (by omega) W
    exact h
  have hbs : Bs (w.alloc (.cells (madeCells #[Value.int .u8 0] 32) 5)) (w.heap.size + 1) (.slice (some ⟨w.heap.size, 0, none⟩) 32 32) (List.replicate 32 0) := by
    have h := (Own.of_cells (B := w.heap.size) (l := List.replicate 32 0) hz (Nat.le_refl _) (by unfold maxLen; simp) rfl).bs
    simp only [List.length_replicate, World.size_alloc] at h
    exact h
  have CS := Lib.hid (stream_ok (n := 4) hbs (by simp) (by simp) (by omega))
  rw [str_awake] at CS
  rw [show ((4 : Nat) : Int) = 4 from rfl] at CS
  have HAL := Lib.hid ((Below.refl w.heap.size w).alloc (Nat.le_refl _) (.cells (madeCells #[Value.int .u8 0] 32) 5))
  clear hz hbs
  go_enter Try.func11, Try.ntmps11
  go_wp2_with fail
  with_reducible refine (CS.out).mono ?_
  rintro e1 w1 ⟨u, rfl, ho, hb⟩
  obtain ⟨A, c, rfl⟩ := ho.shape
  have HB := Lib.hid (HAL.out.trans (hb.mono HAL.out.size))
  have hal2 := ((Below.refl w1.heap.size w1).alloc (Nat.le_refl _) (.cells #[.int .u8 0x76, .int .u8 0xb8, .int .u8 0xe0, .int .u8 0xad] 5))
  have h1 : Bs (w1.alloc (.cells #[.int .u8 0x76, .int .u8 0xb8, .int .u8 0xe0, .int .u8 0xad] 5)) (w1.heap.size + 1) (.slice A 4 c) [0x76, 0xb8, 0xe0, 0xad] := (ho.bs.below hal2 (Nat.le_refl _)).more (B' := w1.heap.size + 1) (by omega)
  have h2 : Bs (w1.alloc (.cells #[.int .u8 0x76, .int .u8 0xb8, .int .u8 0xe0, .int .u8 0xad] 5)) (w1.heap.size + 1) (.slice (some ⟨w1.heap.size, 0, none⟩) 4 4) [0x76, 0xb8, 0xe0, 0xad] := Bs.lit w1 [0x76, 0xb8, 0xe0, 0xad] (by unfold maxLen; simp)
  have CE := Lib.hid (equal_same h1 h2)
  have HB2 := Lib.hid (HB.out.alloc HB.out.size (.cells #[.int .u8 0x76, .int .u8 0xb8, .int .u8 0xe0, .int .u8 0xad] 5))
  clear ho hb hal2 h1 h2 CS HAL hmk0
  go_wp2_with fail
  with_reducible refine (CE.out).mono ?_
  rintro e2 w2 ⟨rfl, hd⟩
  have HB3 := Lib.hid (HB2.out.trans ((hd.below _).mono HB2.out.size))
  clear hd CE
  go_wp2
  go_ret
  exact ⟨rfl, HB3.out⟩
end Go.Proofs.Ythgdficgjldobaa
