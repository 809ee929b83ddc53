/- Twin and SamePart of the reference. -/
import Derived.Test.YtdaccdbehjhfgaaP3
import Derived.Test.YtdaccdbehjhfgaaEqual
namespace Go.Proofs.Ytdaccdbehjhfgaa
open Go.RowKit

theorem info25 (k id i n : Int) (s : Value) : (Try.prog.info? 25).map (·.size) = some (#[.int .u8 k, .int .u64 id, .int .i64 i, .int .i64 n, s] : Array Value).size := by
  show _ = some 5
  kernel_rfl
/-- five cells written one after the other -/
theorem set5_row {W : World} {b : Nat} {t : TypeId} {z0 z1 z2 z3 z4 v0 v1 v2 v3 v4 : Value} (h : W.heap[b]? = some (.cells #[z0, z1, z2, z3, z4] t (0, 0))) :
    (((((W.setCell ⟨b, 0, none⟩ v0).setCell ⟨b, 1, none⟩ v1).setCell ⟨b, 2, none⟩ v2).setCell ⟨b, 3, none⟩ v3).setCell ⟨b, 4, none⟩ v4).heap[b]? = some (.cells #[v0, v1, v2, v3, v4] t (0, 0)) := by
  have h0 := heap_setCell_same W b 0 _ _ v0 h
  have h1 := heap_setCell_same _ b 1 _ _ v1 h0
  have h2 := heap_setCell_same _ b 2 _ _ v2 h1
  have h3 := heap_setCell_same _ b 3 _ _ v3 h2
  have h4 := heap_setCell_same _ b 4 _ _ v4 h3
  exact h4
set_option maxRecDepth 100000 in
set_option maxHeartbeats 4000000 in
theorem twin_any {k id c B : Nat} {i n : Int} {A : Option Addr} {d : List UInt8} {w : World} (hd : Bs w B (.slice A d.length c) d) (hB : B ≤ w.heap.size) (hl : d.length ≤ 140737488355328) :
    Calls Try.prog 12 #[.agg #[.int .u8 (k : Int), .int .u64 (id : Int), .int .i64 i, .int .i64 n, .slice A d.length c]] w fun e w' => ∃ A2 c2, e = .returned (.agg #[.int .u8 (k : Int), .int .u64 (id : Int), .int .i64 i, .int .i64 n, .slice A2 d.length c2]) ∧ Own w' w.heap.size (.slice A2 d.length c2) d ∧ Below w.heap.size w w' := by
  obtain ⟨L, hLL⟩ : ∃ L, L = d.length := ⟨_, rfl⟩
  rw [← hLL] at hd hl ⊢
  obtain ⟨W0, hW0⟩ : ∃ W0, W0 = (w.alloc (.cells #[.int .u8 (k : Int), .int .u64 (id : Int), .int .i64 i, .int .i64 n, .slice A L c] 25)).alloc (.cells #[.int .u8 0, .int .u64 0, .int .i64 0, .int .i64 0, .slice none 0 0] 25) := ⟨_, rfl⟩
  have hal : Below w.heap.size w W0 := by rw [hW0]; exact ((Below.refl w.heap.size w).alloc (Nat.le_refl _) _).alloc (by simp) _
  have hz0 : W0.heap.size = w.heap.size + 1 + 1 := by rw [hW0]; simp
  have hr0 : W0.heap[w.heap.size]? = some (.cells #[.int .u8 (k : Int), .int .u64 (id : Int), .int .i64 i, .int .i64 n, .slice A L c] 25 (0, 0)) := by rw [hW0]; exact (heap_alloc_old _ _ (by simp)).trans (heap_alloc_new w _)
  have hr1 : W0.heap[w.heap.size + 1]? = some (.cells #[.int .u8 0, .int .u64 0, .int .i64 0, .int .i64 0, .slice none 0 0] 25 (0, 0)) := by
    rw [hW0]
    have h := heap_alloc_new (w.alloc (.cells #[.int .u8 (k : Int), .int .u64 (id : Int), .int .i64 i, .int .i64 n, .slice A L c] 25)) (.cells #[.int .u8 0, .int .u64 0, .int .i64 0, .int .i64 0, .slice none 0 0] 25)
    simpa using h
  have p4 : W0.cell? ⟨w.heap.size, 4, none⟩ = some (.slice A L c) := by rw [cell_of_row _ _ _ _ _ _ hr0]; rfl
  have C := Lib.hid (copy_any (hd.below hal hB) (Nat.le_trans hB hal.size) (by omega))
  have HR0 := Lib.hid hr0; have HR1 := Lib.hid hr1; have HZ0 := Lib.hid hz0; have HW0 := Lib.hid hW0; have HAL := Lib.hid hal; have HLL := Lib.hid hLL
  clear hd hr0 hr1 hal hW0 hLL
  go_enter Try.func12, Try.ntmps12
  go_upto_region 1 with fail
  rw [← HW0.out]
  have hzg : w.heap.size < W0.heap.size := by omega
  clear hz0 HW0
  go_wp2_with fail
  with_reducible refine (C.out).mono ?_
  rintro e1 w1 ⟨u, rfl, ho, hb1⟩
  obtain ⟨A2, c2, rfl⟩ := ho.shape
  rw [← HLL.out] at ho ⊢
  have hr01 := (hb1.block w.heap.size hzg).trans HR0.out
  have hr11 := (hb1.block (w.heap.size + 1) (by have := HZ0.out; omega)).trans HR1.out
  have q4 : w1.cell? ⟨w.heap.size, 4, none⟩ = some (.slice A L c) := by rw [cell_of_row _ _ _ _ _ _ hr01]; rfl
  have f4 := frozen_of_row w1 w.heap.size 4 _ _ hr01
  have hr02 := heap_setCell_same _ w.heap.size 4 _ _ (.slice A2 L c2) hr01
  have hr12 := (Below.heap_setCell w1 ⟨w.heap.size, 4, none⟩ (.slice A2 L c2) (w.heap.size + 1) (by show w.heap.size + 1 ≠ w.heap.size; omega)).trans hr11
  have HR02 : Hid ((w1.setCell ⟨w.heap.size, 4, none⟩ (.slice A2 L c2)).heap[w.heap.size]? = some (.cells #[.int .u8 (k : Int), .int .u64 (id : Int), .int .i64 i, .int .i64 n, .slice A2 L c2] 25 (0, 0))) := Lib.hid hr02
  have HR12 := Lib.hid hr12
  have hbw := HAL.out.trans (hb1.mono HAL.out.size)
  have HBW := Lib.hid (hbw.setCell (p := ⟨w.heap.size, 4, none⟩) (Nat.le_refl _) (.slice A2 L c2))
  have how : Own (w1.setCell ⟨w.heap.size, 4, none⟩ (.slice A2 L c2)) w.heap.size (.slice A2 L c2) d := by
    have h := ho.more (B' := w.heap.size) (by omega)
    exact h.kept (scGrown w1 w.heap.size 4 _) (by
      rcases hv : (Value.slice A2 L c2).ownBlock with _ | q
      · exact .inl rfl
      · right
        have := (World.ownsRow.lt ho q hv).1
        intro e
        simp only [Option.some.injEq] at e
        omega)
  have HOW := Lib.hid how
  have hfar : ∀ j, (Value.slice A2 L c2).ownBlock = some j → j ≠ w.heap.size + 1 := fun j hj => by have := (World.ownsRow.lt ho j hj).1; have := HZ0.out; omega
  have HFAR := Lib.hid hfar
  clear ho hb1 hr01 hr11 hr02 hr12 hbw how C hfar
  go_upto_region 2 with fail
  generalize w1.setCell ⟨w.heap.size, 4, none⟩ (.slice A2 L c2) = W2 at HR02 HR12 HBW HOW ⊢
  have ri := info25 (k : Int) (id : Int) i n (.slice A2 L c2)
  have HRI := Lib.hid ri
  have ho1 : Hid ((#[.int .u8 (k : Int), .int .u64 (id : Int), .int .i64 i, .int .i64 n, .slice A2 L c2] : Array Value).all (·.oneCell') = true) := Lib.hid (by simp [Value.oneCell'])
  have r0 := cell_of_row _ _ 0 _ _ _ HR02.out
  have r1 := cell_of_row _ _ 1 _ _ _ HR02.out
  have r2 := cell_of_row _ _ 2 _ _ _ HR02.out
  have r3 := cell_of_row _ _ 3 _ _ _ HR02.out
  have r4 := cell_of_row _ _ 4 _ _ _ HR02.out
  have s0 := cell_of_row _ _ 0 _ _ _ HR12.out
  have s1 := cell_of_row _ _ 1 _ _ _ HR12.out
  have s2 := cell_of_row _ _ 2 _ _ _ HR12.out
  have s3 := cell_of_row _ _ 3 _ _ _ HR12.out
  have s4 := cell_of_row _ _ 4 _ _ _ HR12.out
  have g0 := frozen_of_row W2 (w.heap.size + 1) 0 _ _ HR12.out
  have g1 := frozen_of_row W2 (w.heap.size + 1) 1 _ _ HR12.out
  have g2 := frozen_of_row W2 (w.heap.size + 1) 2 _ _ HR12.out
  have g3 := frozen_of_row W2 (w.heap.size + 1) 3 _ _ HR12.out
  have g4 := frozen_of_row W2 (w.heap.size + 1) 4 _ _ HR12.out
  simp at r0 r1 r2 r3 r4 s0 s1 s2 s3 s4
  clear ri
  go_wp2_with fail
  refine bodyPost_ret (results_cell_row rfl _ _ (w.heap.size + 1) 25 #[.int .u8 (k : Int), .int .u64 (id : Int), .int .i64 i, .int .i64 n, .slice A2 L c2] (0, 0) _ rfl (set5_row HR12.out) Try.underlying25 rfl HRI.out) rfl ?_
  refine ⟨A2, c2, rfl, ?_, ?_⟩
  · have hk : ∀ (X : World) (q : Nat) (x : Value), Own X w.heap.size (.slice A2 L c2) d → Own (X.setCell ⟨w.heap.size + 1, q, none⟩ x) w.heap.size (.slice A2 L c2) d := fun X q x h => h.kept (scGrown X (w.heap.size + 1) q x) (by
      rcases hv : (Value.slice A2 L c2).ownBlock with _ | j
      · exact .inl rfl
      · right
        have := HFAR.out j hv
        intro e
        simp only [Option.some.injEq] at e
        omega)
    exact hk _ _ _ (hk _ _ _ (hk _ _ _ (hk _ _ _ (hk _ _ _ HOW.out))))
  · exact ((((HBW.out.setCell (p := ⟨w.heap.size + 1, 0, none⟩) (by show w.heap.size ≤ w.heap.size + 1; omega) _).setCell (p := ⟨w.heap.size + 1, 1, none⟩) (by show w.heap.size ≤ w.heap.size + 1; omega) _).setCell (p := ⟨w.heap.size + 1, 2, none⟩) (by show w.heap.size ≤ w.heap.size + 1; omega) _).setCell (p := ⟨w.heap.size + 1, 3, none⟩) (by show w.heap.size ≤ w.heap.size + 1; omega) _).setCell (p := ⟨w.heap.size + 1, 4, none⟩) (by show w.heap.size ≤ w.heap.size + 1; omega) _
set_option maxRecDepth 100000 in
set_option maxHeartbeats 4000000 in
theorem samepart_same {k id c c2 B B2 : Nat} {i n : Int} {A A2 : Option Addr} {d : List UInt8} {w : World} (hd : Bs w B (.slice A d.length c) d) (hB : B ≤ w.heap.size) (hd2 : Bs w B2 (.slice A2 d.length c2) d) (hB2 : B2 ≤ w.heap.size) :
    Calls Try.prog 18 #[.agg #[.int .u8 (k : Int), .int .u64 (id : Int), .int .i64 i, .int .i64 n, .slice A d.length c], .agg #[.int .u8 (k : Int), .int .u64 (id : Int), .int .i64 i, .int .i64 n, .slice A2 d.length c2]] w fun e w' => e = .returned (.bool true) ∧ Below w.heap.size w w' := by
  obtain ⟨L, hLL⟩ : ∃ L, L = d.length := ⟨_, rfl⟩
  rw [← hLL] at hd hd2 ⊢
  have hal : Below w.heap.size w ((w.alloc (.cells #[.int .u8 (k : Int), .int .u64 (id : Int), .int .i64 i, .int .i64 n, .slice A L c] 25)).alloc (.cells #[.int .u8 (k : Int), .int .u64 (id : Int), .int .i64 i, .int .i64 n, .slice A2 L c2] 25)) := ((Below.refl w.heap.size w).alloc (Nat.le_refl _) _).alloc (by simp) _
  have C := Lib.hid (equal_same (hd.below hal hB) (hd2.below hal hB2))
  have HAL := Lib.hid hal
  clear hd hd2 hal hLL
  go_enter Try.func18, Try.ntmps18
  go_wp2_with fail
  with_reducible refine (C.out).mono ?_
  rintro e1 w1 ⟨rfl, hd1⟩
  have HB := Lib.hid (HAL.out.trans ((hd1.below _).mono HAL.out.size))
  clear hd1 C HAL
  go_wp2
  go_ret
  exact ⟨rfl, HB.out⟩
end Go.Proofs.Ytdaccdbehjhfgaa
