/- Rotations to the left, by 16, 12, 8 and 7; the quarter round. -/
import Derived.Test.YtifgigpflfdmfaaWordC
namespace Go.Proofs.Ytifgigpflfdmfaa
open Go.RowKit

theorem w_add3q (a b c : UInt32) : ((a.toNat : Int) + (b.toNat : Int) + (c.toNat : Int)) % 4294967296 = ((a + b + c).toNat : Int) := by
  simp only [UInt32.toNat_add]
  omega
theorem w_addq (a b : UInt32) : ((a.toNat : Int) + (b.toNat : Int)) % 4294967296 = ((a + b).toNat : Int) := by
  rw [← w_add, IntKind.wrap_u32']

theorem rotp_16 (y : Nat) (hlt : y < 4294967296) (w : World) :
    Calls Try.prog 102 #[.int .u32 (y : Int), .int .i64 16] w fun e w' => e = .returned (.int .u32 (rotN y 16 : Int)) ∧ w' = w := by
  have hb : bits BinOp.and IntKind.u64 16 31 = 16 := by decide
  have hr : Hid (bits .or .u32 (IntKind.u32.wrap ((y : Int) * 65536)) ((y : Int) / 65536) = (rotN y 16 : Int)) := ro_val y 65536 65536 hlt
  go_enter Try.func102, Try.ntmps102
  go_wp2
  go_ret
  exact ⟨ret_int hr.out, rfl⟩
theorem left_16 (y : Nat) (hlt : y < 4294967296) (w : World) :
    Calls Try.prog 100 #[.int .u32 (y : Int), .int .i64 16] w fun e w' => e = .returned (.int .u32 (rotN y 16 : Int)) ∧ w' = w.drew := by
  have hw' : IntKind.i64.wrap 16 = 16 := by decide
  have hr : Hid (bits .or .u32 (IntKind.u32.wrap ((y : Int) * 65536)) ((y : Int) / 65536) = (rotN y 16 : Int)) := ro_val y 65536 65536 hlt
  go_enter Try.func100, Try.ntmps100
  go_wp2_with fail
  go_region_held3 (fun _ => True) (exact trivial) (fail)
  go_wp2
  go_ret
  exact ⟨ret_int hr.out, rfl⟩

theorem rotp_12 (y : Nat) (hlt : y < 4294967296) (w : World) :
    Calls Try.prog 102 #[.int .u32 (y : Int), .int .i64 12] w fun e w' => e = .returned (.int .u32 (rotN y 20 : Int)) ∧ w' = w := by
  have hb : bits BinOp.and IntKind.u64 12 31 = 12 := by decide
  have hr : Hid (bits .or .u32 (IntKind.u32.wrap ((y : Int) * 4096)) ((y : Int) / 1048576) = (rotN y 20 : Int)) := ro_val y 1048576 4096 hlt
  go_enter Try.func102, Try.ntmps102
  go_wp2
  go_ret
  exact ⟨ret_int hr.out, rfl⟩
theorem left_12 (y : Nat) (hlt : y < 4294967296) (w : World) :
    Calls Try.prog 100 #[.int .u32 (y : Int), .int .i64 12] w fun e w' => e = .returned (.int .u32 (rotN y 20 : Int)) ∧ w' = w.drew := by
  have hw' : IntKind.i64.wrap 20 = 20 := by decide
  have hr : Hid (bits .or .u32 (IntKind.u32.wrap ((y : Int) * 4096)) ((y : Int) / 1048576) = (rotN y 20 : Int)) := ro_val y 1048576 4096 hlt
  go_enter Try.func100, Try.ntmps100
  go_wp2_with fail
  go_region_held3 (fun _ => True) (exact trivial) (fail)
  go_wp2
  go_ret
  exact ⟨ret_int hr.out, rfl⟩

theorem rotp_8 (y : Nat) (hlt : y < 4294967296) (w : World) :
    Calls Try.prog 102 #[.int .u32 (y : Int), .int .i64 8] w fun e w' => e = .returned (.int .u32 (rotN y 24 : Int)) ∧ w' = w := by
  have hb : bits BinOp.and IntKind.u64 8 31 = 8 := by decide
  have hr : Hid (bits .or .u32 (IntKind.u32.wrap ((y : Int) * 256)) ((y : Int) / 16777216) = (rotN y 24 : Int)) := ro_val y 16777216 256 hlt
  go_enter Try.func102, Try.ntmps102
  go_wp2
  go_ret
  exact ⟨ret_int hr.out, rfl⟩
theorem left_8 (y : Nat) (hlt : y < 4294967296) (w : World) :
    Calls Try.prog 100 #[.int .u32 (y : Int), .int .i64 8] w fun e w' => e = .returned (.int .u32 (rotN y 24 : Int)) ∧ w' = w.drew := by
  have hw' : IntKind.i64.wrap 24 = 24 := by decide
  have hr : Hid (bits .or .u32 (IntKind.u32.wrap ((y : Int) * 256)) ((y : Int) / 16777216) = (rotN y 24 : Int)) := ro_val y 16777216 256 hlt
  go_enter Try.func100, Try.ntmps100
  go_wp2_with fail
  go_region_held3 (fun _ => True) (exact trivial) (fail)
  go_wp2
  go_ret
  exact ⟨ret_int hr.out, rfl⟩

theorem rotp_7 (y : Nat) (hlt : y < 4294967296) (w : World) :
    Calls Try.prog 102 #[.int .u32 (y : Int), .int .i64 7] w fun e w' => e = .returned (.int .u32 (rotN y 25 : Int)) ∧ w' = w := by
  have hb : bits BinOp.and IntKind.u64 7 31 = 7 := by decide
  have hr : Hid (bits .or .u32 (IntKind.u32.wrap ((y : Int) * 128)) ((y : Int) / 33554432) = (rotN y 25 : Int)) := ro_val y 33554432 128 hlt
  go_enter Try.func102, Try.ntmps102
  go_wp2
  go_ret
  exact ⟨ret_int hr.out, rfl⟩
theorem left_7 (y : Nat) (hlt : y < 4294967296) (w : World) :
    Calls Try.prog 100 #[.int .u32 (y : Int), .int .i64 7] w fun e w' => e = .returned (.int .u32 (rotN y 25 : Int)) ∧ w' = w.drew := by
  have hw' : IntKind.i64.wrap 25 = 25 := by decide
  have hr : Hid (bits .or .u32 (IntKind.u32.wrap ((y : Int) * 128)) ((y : Int) / 33554432) = (rotN y 25 : Int)) := ro_val y 33554432 128 hlt
  go_enter Try.func100, Try.ntmps100
  go_wp2_with fail
  go_region_held3 (fun _ => True) (exact trivial) (fail)
  go_wp2
  go_ret
  exact ⟨ret_int hr.out, rfl⟩

theorem rot_p (x : UInt32) (s : Int) (hs : s = 16 ∨ s = 12 ∨ s = 8 ∨ s = 7) (w : World) :
    Calls Try.prog 102 #[.int .u32 (x.toNat : Int), .int .i64 s] w fun e w' => e = .returned (.int .u32 ((rotr x (32 - s.toNat)).toNat : Int)) ∧ w' = w := by
  rw [← rotr_val]
  have hlt := x.toNat_lt
  rcases hs with rfl | rfl | rfl | rfl
  exact rotp_16 _ hlt w
  exact rotp_12 _ hlt w
  exact rotp_8 _ hlt w
  exact rotp_7 _ hlt w
theorem left_p (x : UInt32) (s : Int) (hs : s = 16 ∨ s = 12 ∨ s = 8 ∨ s = 7) (w : World) :
    Calls Try.prog 100 #[.int .u32 (x.toNat : Int), .int .i64 s] w fun e w' => e = .returned (.int .u32 ((rotr x (32 - s.toNat)).toNat : Int)) ∧ w' = w.drew := by
  rw [← rotr_val]
  have hlt := x.toNat_lt
  rcases hs with rfl | rfl | rfl | rfl
  exact left_16 _ hlt w
  exact left_12 _ hlt w
  exact left_8 _ hlt w
  exact left_7 _ hlt w
/-- the quarter round's words -/
def qa1 (a b : UInt32) : UInt32 := a + b
def qd1 (a b d : UInt32) : UInt32 := rotr (d ^^^ (a + b)) 16
def qc1 (a b c d : UInt32) : UInt32 := c + qd1 a b d
def qb1 (a b c d : UInt32) : UInt32 := rotr (b ^^^ qc1 a b c d) 20
def qa2 (a b c d : UInt32) : UInt32 := a + b + qb1 a b c d
def qd2 (a b c d : UInt32) : UInt32 := rotr (qd1 a b d ^^^ qa2 a b c d) 24
def qc2 (a b c d : UInt32) : UInt32 := qc1 a b c d + qd2 a b c d
def qb2 (a b c d : UInt32) : UInt32 := rotr (qb1 a b c d ^^^ qc2 a b c d) 25

set_option maxRecDepth 100000 in
set_option maxHeartbeats 800000 in
theorem quarter_any (a b c d : UInt32) (w : World) :
    Calls Try.prog 104 #[.int .u32 (a.toNat : Int), .int .u32 (b.toNat : Int), .int .u32 (c.toNat : Int), .int .u32 (d.toNat : Int)] w fun e w' => e = .returned (.tuple #[.int .u32 ((qa2 a b c d).toNat : Int), .int .u32 ((qb2 a b c d).toNat : Int), .int .u32 ((qc2 a b c d).toNat : Int), .int .u32 ((qd2 a b c d).toNat : Int)]) ∧ w' = w := by
  have L1 : Hid (∀ x : UInt32, Calls Try.prog 102 #[.int .u32 (x.toNat : Int), .int .i64 16] w fun e' w' => e' = .returned (.int .u32 ((rotr x 16).toNat : Int)) ∧ w' = w) := fun x => rot_p x 16 (by decide) w
  have L2 : Hid (∀ x : UInt32, Calls Try.prog 102 #[.int .u32 (x.toNat : Int), .int .i64 12] w fun e' w' => e' = .returned (.int .u32 ((rotr x 20).toNat : Int)) ∧ w' = w) := fun x => rot_p x 12 (by decide) w
  have L3 : Hid (∀ x : UInt32, Calls Try.prog 102 #[.int .u32 (x.toNat : Int), .int .i64 8] w fun e' w' => e' = .returned (.int .u32 ((rotr x 24).toNat : Int)) ∧ w' = w) := fun x => rot_p x 8 (by decide) w
  have L4 : Hid (∀ x : UInt32, Calls Try.prog 102 #[.int .u32 (x.toNat : Int), .int .i64 7] w fun e' w' => e' = .returned (.int .u32 ((rotr x 25).toNat : Int)) ∧ w' = w) := fun x => rot_p x 7 (by decide) w
  go_enter Try.func104, Try.ntmps104
  go_wp2_with fail
  simp only [w_addq, w_xor]
  with_reducible refine (L1.out _).mono ?_
  rintro e w2 ⟨rfl, rfl⟩
  go_wp2_with fail
  simp only [w_addq, w_xor]
  with_reducible refine (L2.out _).mono ?_
  rintro e w2 ⟨rfl, rfl⟩
  go_wp2_with fail
  simp only [w_add3q, w_addq, w_xor]
  with_reducible refine (L3.out _).mono ?_
  rintro e w2 ⟨rfl, rfl⟩
  go_wp2_with fail
  simp only [w_add3q, w_addq, w_xor]
  with_reducible refine (L4.out _).mono ?_
  rintro e w2 ⟨rfl, rfl⟩
  go_wp2_with fail
  simp only [w_add3q, w_addq]
  refine bodyPost_ret (v := .tuple #[.int .u32 ((qa2 a b c d).toNat : Int), .int .u32 ((qb2 a b c d).toNat : Int), .int .u32 ((qc2 a b c d).toNat : Int), .int .u32 ((qd2 a b c d).toNat : Int)]) ?_ rfl ⟨rfl, rfl⟩
  simp [results, Try.results104, go_sem]
  rw [w_add3q, w_add3q]
  exact ⟨rfl, rfl, rfl, rfl⟩

def qs (a b c d : UInt32) : Nat → List UInt32
  | 0 => [a, b, c, d]
  | 1 => [qa1 a b, b, c, qd1 a b d]
  | 2 => [qa1 a b, qb1 a b c d, qc1 a b c d, qd1 a b d]
  | 3 => [qa2 a b c d, qb1 a b c d, qc1 a b c d, qd2 a b c d]
  | _ => [qa2 a b c d, qb2 a b c d, qc2 a b c d, qd2 a b c d]
/-- what the reference's Quarter holds -/
def Wq (w : World) (g : Nat) (l : List UInt32) : Prop := w.heap[g]? = some (.cells (l.map vw).toArray 117 (0, 0))
theorem Wq.at_ {w : World} {g : Nat} {l : List UInt32} (h : Wq w g l) {j : Nat} (hj : j < l.length) :
    w.cell? ⟨g, j, none⟩ = some (.int .u32 (l[j].toNat : Int)) ∧ w.frozen? ⟨g, j, none⟩ = false ∧ ∀ x : UInt32, Wq (w.setCell ⟨g, j, none⟩ (.int .u32 (x.toNat : Int))) g (l.set j x) := by
  refine ⟨?_, frozen_of_row w g j _ _ h, fun x => ?_⟩
  · rw [cell_of_row w g j _ _ _ h]
    simp [hj, vw]
  · unfold Wq
    rw [heap_setCell_same w g j _ _ _ h, List.map_set]
    simp [vw]
structure QM (w0 : World) (L : List UInt32) (wr : World) : Prop where
  below : Below w0.heap.size w0 wr
  v : Wq wr w0.heap.size L
  r : wr.heap[w0.heap.size + 1]? = some (.cells #[.int .u32 0, .int .u32 0, .int .u32 0, .int .u32 0] 117 (0, 0))
  t : wr.heap[w0.heap.size + 2]? = some (.cells #[.int .i64 16, .int .i64 12, .int .i64 8, .int .i64 7] 115 (0, 0))
theorem QM.drew {w0 wr : World} {L : List UInt32} (h : QM w0 L wr) : QM w0 L wr.drew := ⟨h.below.drew, h.v, h.r, h.t⟩
theorem QM.set {w0 wr : World} {L : List UInt32} (h : QM w0 L wr) {j : Nat} (hj : j < L.length) (x : UInt32) : QM w0 (L.set j x) (wr.setCell ⟨w0.heap.size, j, none⟩ (.int .u32 (x.toNat : Int))) :=
  ⟨h.below.setCell (Nat.le_refl _) _, (h.v.at_ hj).2.2 x, (Below.heap_setCell wr ⟨w0.heap.size, j, none⟩ _ (w0.heap.size + 1) (by simp)).trans h.r, (Below.heap_setCell wr ⟨w0.heap.size, j, none⟩ _ (w0.heap.size + 2) (by simp)).trans h.t⟩
theorem QM.cell {w0 wr : World} {L : List UInt32} (h : QM w0 L wr) {j : Nat} (hj : j < L.length) : wr.cell? ⟨w0.heap.size, j, none⟩ = some (.int .u32 (L[j].toNat : Int)) ∧ wr.frozen? ⟨w0.heap.size, j, none⟩ = false := ⟨(h.v.at_ hj).1, (h.v.at_ hj).2.1⟩
theorem QM.turn {w0 wr : World} {L : List UInt32} (h : QM w0 L wr) :
    wr.cell? ⟨w0.heap.size + 2, 0, none⟩ = some (.int .i64 16) ∧ wr.cell? ⟨w0.heap.size + 2, 1, none⟩ = some (.int .i64 12) ∧ wr.cell? ⟨w0.heap.size + 2, 2, none⟩ = some (.int .i64 8) ∧ wr.cell? ⟨w0.heap.size + 2, 3, none⟩ = some (.int .i64 7) := by
  refine ⟨?_, ?_, ?_, ?_⟩ <;> (rw [cell_of_row _ _ _ _ _ _ h.t]; rfl)

set_option maxRecDepth 100000 in
set_option maxHeartbeats 1600000 in
theorem refQuarter_any (a b c d : UInt32) (w : World) :
    Calls Try.prog 89 #[.agg #[.int .u32 (a.toNat : Int), .int .u32 (b.toNat : Int), .int .u32 (c.toNat : Int), .int .u32 (d.toNat : Int)]] w fun e w' => e = .returned (.agg #[.int .u32 ((qa2 a b c d).toNat : Int), .int .u32 ((qb2 a b c d).toNat : Int), .int .u32 ((qc2 a b c d).toNat : Int), .int .u32 ((qd2 a b c d).toNat : Int)]) ∧ Below w.heap.size w w' := by
  have M : QM w (qs a b c d 0) (((w.alloc (.cells #[.int .u32 (a.toNat : Int), .int .u32 (b.toNat : Int), .int .u32 (c.toNat : Int), .int .u32 (d.toNat : Int)] 117)).alloc (.cells #[.int .u32 0, .int .u32 0, .int .u32 0, .int .u32 0] 117)).alloc (.cells #[.int .i64 16, .int .i64 12, .int .i64 8, .int .i64 7] 115)) := by
    refine ⟨(((Below.refl _ _).alloc (Nat.le_refl _) _).alloc (by simp) _).alloc (by simp; omega) _, ?_, ?_, ?_⟩
    · exact (heap_alloc_old _ _ (by simp; omega)).trans ((heap_alloc_old _ _ (by simp)).trans (heap_alloc_new w _))
    · exact (heap_alloc_old _ _ (by simp)).trans (heap_alloc2_new w _ _)
    · have h := heap_alloc_new ((w.alloc (.cells #[.int .u32 (a.toNat : Int), .int .u32 (b.toNat : Int), .int .u32 (c.toNat : Int), .int .u32 (d.toNat : Int)] 117)).alloc (.cells #[.int .u32 0, .int .u32 0, .int .u32 0, .int .u32 0] 117)) (.cells #[.int .i64 16, .int .i64 12, .int .i64 8, .int .i64 7] 115)
      simpa using h
  go_enter Try.func89, Try.ntmps89
  go_wp2_with fail
  go_loopw [4] (fun i wr => ∃ i' : Nat, i' ≤ 4 ∧ i = .int .i64 i' ∧ QM w (qs a b c d i') wr) (fun i _ => 4 - (intOf i).toNat)
  case atStart => exact ⟨0, Nat.zero_le _, rfl, M⟩
  case round =>
    obtain ⟨i, hi, rfl, M1⟩ := hrel
    clear M
    have L1 : Hid (∀ (x : UInt32) (W : World), Calls Try.prog 100 #[.int .u32 (x.toNat : Int), .int .i64 16] W fun e' w' => e' = .returned (.int .u32 ((rotr x 16).toNat : Int)) ∧ w' = W.drew) := fun x W => left_p x 16 (by decide) W
    have L2 : Hid (∀ (x : UInt32) (W : World), Calls Try.prog 100 #[.int .u32 (x.toNat : Int), .int .i64 12] W fun e' w' => e' = .returned (.int .u32 ((rotr x 20).toNat : Int)) ∧ w' = W.drew) := fun x W => left_p x 12 (by decide) W
    have L3 : Hid (∀ (x : UInt32) (W : World), Calls Try.prog 100 #[.int .u32 (x.toNat : Int), .int .i64 8] W fun e' w' => e' = .returned (.int .u32 ((rotr x 24).toNat : Int)) ∧ w' = W.drew) := fun x W => left_p x 8 (by decide) W
    have L4 : Hid (∀ (x : UInt32) (W : World), Calls Try.prog 100 #[.int .u32 (x.toNat : Int), .int .i64 7] W fun e' w' => e' = .returned (.int .u32 ((rotr x 25).toNat : Int)) ∧ w' = W.drew) := fun x W => left_p x 7 (by decide) W
    obtain ⟨t0, t1, t2, t3⟩ := M1.turn
    rcases (by omega : i = 0 ∨ i = 1 ∨ i = 2 ∨ i = 3 ∨ i = 4) with rfl | rfl | rfl | rfl | rfl
    · obtain ⟨x0, x1, x2, x3, hrow, hfin⟩ : ∃ x0 x1 x2 x3 : UInt32, qs a b c d 0 = [x0, x1, x2, x3] ∧ (([x0, x1, x2, x3].set 0 (x0 + x1)).set 3 (rotr (x3 ^^^ (x0 + x1)) 16)) = qs a b c d (0 + 1) := ⟨_, _, _, _, rfl, rfl⟩
      rw [hrow] at M1
      obtain ⟨cP, fP⟩ := M1.cell (j := 0) (by simp)
      obtain ⟨cQ, _⟩ := M1.cell (j := 1) (by simp)
      simp only [List.getElem_cons_zero, List.getElem_cons_succ] at cP cQ
      have HF := Lib.hid hfin
      clear hrow hfin
      have M2 := M1.set (j := 0) (by simp) (x0 + x1)
      go_wp2_with fail
      rw [w_addq]
      obtain ⟨wv, hwv⟩ : ∃ wv, wv = wr.setCell ⟨w.heap.size, 0, none⟩ (.int .u32 ((x0 + x1).toNat : Int)) := ⟨_, rfl⟩
      rw [← hwv] at M2 ⊢
      clear hwv cP fP cQ M1 t0 t1 t2 t3
      obtain ⟨y, hy⟩ : ∃ y, y = x0 + x1 := ⟨_, rfl⟩
      rw [← hy] at M2 ⊢
      have HY := Lib.hid hy
      clear hy
      obtain ⟨cS, _⟩ := M2.cell (j := 0) (by simp)
      obtain ⟨cR, fR⟩ := M2.cell (j := 3) (by simp)
      simp at cS cR
      obtain ⟨t0, t1, t2, t3⟩ := M2.turn
      have M3 := M2.set (j := 3) (by simp) (rotr (x3 ^^^ y) 16)
      rw [HY.out, HF.out, ← HY.out] at M3
      go_region_with (go_at_call 100; rw [w_xor]; with_reducible refine (L1.out _ _).mono ?_; rintro e' w' ⟨rfl, rfl⟩)
      all_goals
        go_wp2
        go_roundw
        case rel => exact ⟨0 + 1, by omega, by go_num, M3.drew.drew⟩
        case measure => simp [intOf]
    · obtain ⟨x0, x1, x2, x3, hrow, hfin⟩ : ∃ x0 x1 x2 x3 : UInt32, qs a b c d 1 = [x0, x1, x2, x3] ∧ (([x0, x1, x2, x3].set 2 (x2 + x3)).set 1 (rotr (x1 ^^^ (x2 + x3)) 20)) = qs a b c d (1 + 1) := ⟨_, _, _, _, rfl, rfl⟩
      rw [hrow] at M1
      obtain ⟨cP, fP⟩ := M1.cell (j := 2) (by simp)
      obtain ⟨cQ, _⟩ := M1.cell (j := 3) (by simp)
      simp only [List.getElem_cons_zero, List.getElem_cons_succ] at cP cQ
      have HF := Lib.hid hfin
      clear hrow hfin
      have M2 := M1.set (j := 2) (by simp) (x2 + x3)
      go_wp2_with fail
      rw [w_addq]
      obtain ⟨wv, hwv⟩ : ∃ wv, wv = wr.setCell ⟨w.heap.size, 2, none⟩ (.int .u32 ((x2 + x3).toNat : Int)) := ⟨_, rfl⟩
      rw [← hwv] at M2 ⊢
      clear hwv cP fP cQ M1 t0 t1 t2 t3
      obtain ⟨y, hy⟩ : ∃ y, y = x2 + x3 := ⟨_, rfl⟩
      rw [← hy] at M2 ⊢
      have HY := Lib.hid hy
      clear hy
      obtain ⟨cS, _⟩ := M2.cell (j := 2) (by simp)
      obtain ⟨cR, fR⟩ := M2.cell (j := 1) (by simp)
      simp at cS cR
      obtain ⟨t0, t1, t2, t3⟩ := M2.turn
      have M3 := M2.set (j := 1) (by simp) (rotr (x1 ^^^ y) 20)
      rw [HY.out, HF.out, ← HY.out] at M3
      go_region_with (go_at_call 100; rw [w_xor]; with_reducible refine (L2.out _ _).mono ?_; rintro e' w' ⟨rfl, rfl⟩)
      all_goals
        go_wp2
        go_roundw
        case rel => exact ⟨1 + 1, by omega, by go_num, M3.drew.drew⟩
        case measure => simp [intOf]
    · obtain ⟨x0, x1, x2, x3, hrow, hfin⟩ : ∃ x0 x1 x2 x3 : UInt32, qs a b c d 2 = [x0, x1, x2, x3] ∧ (([x0, x1, x2, x3].set 0 (x0 + x1)).set 3 (rotr (x3 ^^^ (x0 + x1)) 24)) = qs a b c d (2 + 1) := ⟨_, _, _, _, rfl, rfl⟩
      rw [hrow] at M1
      obtain ⟨cP, fP⟩ := M1.cell (j := 0) (by simp)
      obtain ⟨cQ, _⟩ := M1.cell (j := 1) (by simp)
      simp only [List.getElem_cons_zero, List.getElem_cons_succ] at cP cQ
      have HF := Lib.hid hfin
      clear hrow hfin
      have M2 := M1.set (j := 0) (by simp) (x0 + x1)
      go_wp2_with fail
      rw [w_addq]
      obtain ⟨wv, hwv⟩ : ∃ wv, wv = wr.setCell ⟨w.heap.size, 0, none⟩ (.int .u32 ((x0 + x1).toNat : Int)) := ⟨_, rfl⟩
      rw [← hwv] at M2 ⊢
      clear hwv cP fP cQ M1 t0 t1 t2 t3
      obtain ⟨y, hy⟩ : ∃ y, y = x0 + x1 := ⟨_, rfl⟩
      rw [← hy] at M2 ⊢
      have HY := Lib.hid hy
      clear hy
      obtain ⟨cS, _⟩ := M2.cell (j := 0) (by simp)
      obtain ⟨cR, fR⟩ := M2.cell (j := 3) (by simp)
      simp at cS cR
      obtain ⟨t0, t1, t2, t3⟩ := M2.turn
      have M3 := M2.set (j := 3) (by simp) (rotr (x3 ^^^ y) 24)
      rw [HY.out, HF.out, ← HY.out] at M3
      go_region_with (go_at_call 100; rw [w_xor]; with_reducible refine (L3.out _ _).mono ?_; rintro e' w' ⟨rfl, rfl⟩)
      all_goals
        go_wp2
        go_roundw
        case rel => exact ⟨2 + 1, by omega, by go_num, M3.drew.drew⟩
        case measure => simp [intOf]
    · obtain ⟨x0, x1, x2, x3, hrow, hfin⟩ : ∃ x0 x1 x2 x3 : UInt32, qs a b c d 3 = [x0, x1, x2, x3] ∧ (([x0, x1, x2, x3].set 2 (x2 + x3)).set 1 (rotr (x1 ^^^ (x2 + x3)) 25)) = qs a b c d (3 + 1) := ⟨_, _, _, _, rfl, rfl⟩
      rw [hrow] at M1
      obtain ⟨cP, fP⟩ := M1.cell (j := 2) (by simp)
      obtain ⟨cQ, _⟩ := M1.cell (j := 3) (by simp)
      simp only [List.getElem_cons_zero, List.getElem_cons_succ] at cP cQ
      have HF := Lib.hid hfin
      clear hrow hfin
      have M2 := M1.set (j := 2) (by simp) (x2 + x3)
      go_wp2_with fail
      rw [w_addq]
      obtain ⟨wv, hwv⟩ : ∃ wv, wv = wr.setCell ⟨w.heap.size, 2, none⟩ (.int .u32 ((x2 + x3).toNat : Int)) := ⟨_, rfl⟩
      rw [← hwv] at M2 ⊢
      clear hwv cP fP cQ M1 t0 t1 t2 t3
      obtain ⟨y, hy⟩ : ∃ y, y = x2 + x3 := ⟨_, rfl⟩
      rw [← hy] at M2 ⊢
      have HY := Lib.hid hy
      clear hy
      obtain ⟨cS, _⟩ := M2.cell (j := 2) (by simp)
      obtain ⟨cR, fR⟩ := M2.cell (j := 1) (by simp)
      simp at cS cR
      obtain ⟨t0, t1, t2, t3⟩ := M2.turn
      have M3 := M2.set (j := 1) (by simp) (rotr (x1 ^^^ y) 25)
      rw [HY.out, HF.out, ← HY.out] at M3
      go_region_with (go_at_call 100; rw [w_xor]; with_reducible refine (L4.out _ _).mono ?_; rintro e' w' ⟨rfl, rfl⟩)
      all_goals
        go_wp2
        go_roundw
        case rel => exact ⟨3 + 1, by omega, by go_num, M3.drew.drew⟩
        case measure => simp [intOf]
    · obtain ⟨us, hus⟩ : ∃ us : Array Value, us = ((qs a b c d 4).map vw).toArray := ⟨_, rfl⟩
      have aw2 : Hid (wr.heap[w.heap.size]? = some (.cells us 117 (0, 0))) := by rw [hus]; exact M1.v
      have rs : Hid (wr.heap[w.heap.size + 1]? = some (.cells #[.int .u32 0, .int .u32 0, .int .u32 0, .int .u32 0] 117 (0, 0))) := M1.r
      have HONE : Hid (us.all (·.oneCell') = true) := by rw [hus]; show _ = _; simp [qs, vw, Value.oneCell']
      have hi4 : Hid ((Try.prog.info? 117).map (·.size) = some us.size) := by rw [hus]; show _ = _; kernel_rfl
      have ho : Hid ((#[.int .u32 0, .int .u32 0, .int .u32 0, .int .u32 0] : Array Value).size = us.size) := by rw [hus]; show _ = _; rfl
      have hbe3 : Below w.heap.size w (wr.setRow (w.heap.size + 1) us) := M1.below.grown (row := some (w.heap.size + 1)) ⟨rfl, rfl, rfl, by simp, fun j _ hj => setRow_other wr (w.heap.size + 1) j _ (fun e => hj (by rw [e]))⟩ M1.below.size (fun j hj => by simp only [Option.some.injEq] at hj; omega)
      have HUS := Lib.hid hus
      clear hus M1 t0 t1 t2 t3
      go_wp2_with (first
        | (with_reducible refine wpList_load_row rfl 117 (.tmp 1) rfl w.heap.size rfl 117 us (0, 0) _ aw2.out Try.underlying117 rfl hi4.out ?_)
        | (with_reducible refine wpList_store_row rfl 117 (.tmp 2) (.tmp 45) rfl (w.heap.size + 1) us rfl rfl 117 _ rs.out hi4.out ho.out HONE.out ?_))
      (try simp only [Exit.inBlock, Exit.then])
      refine bodyPost_ret (results_cell_row rfl _ _ (w.heap.size + 1) 117 us (0, 0) _ rfl (setRow_heap wr (w.heap.size + 1) _ _ _ _ rs.out) Try.underlying117 rfl hi4.out) rfl ?_
      exact ⟨by rw [HUS.out]; rfl, hbe3⟩
end Go.Proofs.Ytifgigpflfdmfaa
