/- field's Inv. -/
import Derived.Test.YtgkglielcbgpiaaR12
import Derived.Test.YtgkglielcbgpiaaF13
import Derived.Test.YtgkglielcbgpiaaF12
namespace Go.Proofs.Ytgkglielcbgpiaa
open Go.RowKit

theorem arr32u : Try.prog.underlying 50 = some (.array (Try.prog.arrayLen 50) (Try.prog.elem 50)) := by kernel_rfl
theorem elem32 : Try.prog.elem 50 = 5 := by kernel_rfl
theorem len32 : Try.prog.arrayLen 50 = 32 := by kernel_rfl
/-- x[:] of an array of 32 bytes -/
theorem cut32_all {g : Nat} (W : World) : (Instr.sliceAt 50 (.pointer (some ⟨g, 0, none⟩)) none none none).run Try.prog W = .ok (.slice (some ⟨g, 0, none⟩) 32 32) W := by
  rw [run_sliceAt_array_all _ _ _ arr32u, elem32, u8sizeOf, len32]
  simp [Result.andThen, slicedAt, Addr.add_lit]
theorem of0 (w : World) : Calls Try.prog 12 #[.int .u64 0] w fun e w' => e = .returned (.agg #[.int .u64 (l0 (0) : Int), .int .u64 (l1 (0) : Int), .int .u64 (l2 (0) : Int), .int .u64 (l3 (0) : Int)]) ∧ Below w.heap.size w w' := ofE 0 (by omega) w
theorem of2 (w : World) : Calls Try.prog 12 #[.int .u64 2] w fun e w' => e = .returned (.agg #[.int .u64 (l0 (2) : Int), .int .u64 (l1 (2) : Int), .int .u64 (l2 (2) : Int), .int .u64 (l3 (2) : Int)]) ∧ Below w.heap.size w w' := ofE 2 (by omega) w
theorem eInv_le : leBytes (subN 0 2 % PP) 32 = eInv := by decide +kernel

set_option maxRecDepth 100000 in
set_option maxHeartbeats 4000000 in
theorem invE {V : Nat} (hV : V < W4) (w : World) : Calls Try.prog 26 #[.agg #[.int .u64 (l0 (V) : Int), .int .u64 (l1 (V) : Int), .int .u64 (l2 (V) : Int), .int .u64 (l3 (V) : Int)]] w fun e w' => e = .returned (.agg #[.int .u64 (l0 (invP V) : Int), .int .u64 (l1 (invP V) : Int), .int .u64 (l2 (invP V) : Int), .int .u64 (l3 (invP V) : Int)]) ∧ Below w.heap.size w w' := by
  have C0 := Lib.hid (fun W => of0 W)
  have C2 := Lib.hid (fun W => of2 W)
  have CS := Lib.hid (fun W => subE (V := 0) (U := 2) (by decide) (by decide) W)
  have CB := Lib.hid (fun W => bytesE (V := subN 0 2) (subN_lt 0 2) W)
  rw [eInv_le] at CB
  obtain ⟨N, hN⟩ : ∃ N, N = invP V := ⟨_, rfl⟩
  rw [← hN]
  obtain ⟨M, hM⟩ : ∃ M, M = subN 0 2 := ⟨_, rfl⟩
  rw [← hM] at CS CB
  obtain ⟨us, hus⟩ : ∃ us : Array Value, us = (eInv.map vb).toArray := ⟨_, rfl⟩
  rw [← hus] at CB
  have husz : us.size = 32 := by rw [hus]; rfl
  have hone : Hid (us.all (·.oneCell') = true) := by rw [hus]; exact one_bytes _
  have hi : Hid ((Try.prog.info? 50).map (·.size) = some us.size) := by rw [husz]; show _ = _; kernel_rfl
  have ho : Hid ((#[.int .u8 0, .int .u8 0, .int .u8 0, .int .u8 0, .int .u8 0, .int .u8 0, .int .u8 0, .int .u8 0, .int .u8 0, .int .u8 0, .int .u8 0, .int .u8 0, .int .u8 0, .int .u8 0, .int .u8 0, .int .u8 0, .int .u8 0, .int .u8 0, .int .u8 0, .int .u8 0, .int .u8 0, .int .u8 0, .int .u8 0, .int .u8 0, .int .u8 0, .int .u8 0, .int .u8 0, .int .u8 0, .int .u8 0, .int .u8 0, .int .u8 0, .int .u8 0] : Array Value).size = us.size) := by rw [husz]; show _ = _; rfl
  have CP : Hid (∀ (g : Nat) (W : World), W.heap[g]? = some (.cells us 50 (0, 0)) → Calls Try.prog 28 #[.agg #[.int .u64 (l0 (V) : Int), .int .u64 (l1 (V) : Int), .int .u64 (l2 (V) : Int), .int .u64 (l3 (V) : Int)], .slice (some ⟨g, 0, none⟩) 32 32] W fun e w' => e = .returned (.agg #[.int .u64 (l0 (N) : Int), .int .u64 (l1 (N) : Int), .int .u64 (l2 (N) : Int), .int .u64 (l3 (N) : Int)]) ∧ Below W.heap.size W w') := Lib.hid (fun g W hg => by
    rw [hus] at hg
    have hb : Bw W g 50 eInv := hg
    have h := powE hV (l := eInv) (v := .slice (some ⟨g, 0, none⟩) 32 32) (w := W) ⟨_, _, rfl, by decide, by decide, fun _ => ⟨g, 0, rfl, hb.lt, fun j hj => by rw [Nat.zero_add]; exact (hb.at_ hj).1⟩⟩
    rw [hN]
    exact h)
  clear hV hN hM husz hus
  go_enter Try.func26, Try.ntmps26
  go_wp2_with fail
  with_reducible refine (C0.out _).mono ?_
  rintro e w1 ⟨rfl, hb1⟩
  have B1 := Lib.hid hb1
  obtain ⟨hc1, hf1⟩ := bcell hb1
  have zz1 := hb1.size
  try simp only [World.size_alloc] at zz1
  have z1_0 : w.heap.size + 1 < w1.heap.size := by omega
  have z1_1 : w.heap.size < w1.heap.size := by omega
  clear hb1 zz1
  go_wp2_with fail
  with_reducible refine (C2.out _).mono ?_
  rintro e w2 ⟨rfl, hb2⟩
  have B2 := Lib.hid hb2
  obtain ⟨hc2, hf2⟩ := bcell hb2
  have zz2 := hb2.size
  try simp only [World.size_alloc] at zz2
  have z2_0 : w.heap.size + 1 < w2.heap.size := by omega
  have z2_1 : w.heap.size < w2.heap.size := by omega
  clear hb2 zz2
  go_wp2_with fail
  with_reducible refine (CS.out _).mono ?_
  rintro e w3 ⟨rfl, hb3⟩
  have B3 := Lib.hid hb3
  obtain ⟨hc3, hf3⟩ := bcell hb3
  have zz3 := hb3.size
  try simp only [World.size_alloc] at zz3
  have z3_0 : w.heap.size + 1 < w3.heap.size := by omega
  have z3_1 : w.heap.size < w3.heap.size := by omega
  clear hb3 zz3
  go_wp2_with fail
  with_reducible refine (CB.out _).mono ?_
  rintro e w4 ⟨rfl, hb4⟩
  have B4 := Lib.hid hb4
  obtain ⟨hc4, hf4⟩ := bcell hb4
  have zz4 := hb4.size
  try simp only [World.size_alloc] at zz4
  have z4_0 : w.heap.size + 1 < w4.heap.size := by omega
  have z4_1 : w.heap.size < w4.heap.size := by omega
  clear hb4 zz4
  have hrow := Lib.hid (heap_alloc_new w4 (.cells #[.int .u8 0, .int .u8 0, .int .u8 0, .int .u8 0, .int .u8 0, .int .u8 0, .int .u8 0, .int .u8 0, .int .u8 0, .int .u8 0, .int .u8 0, .int .u8 0, .int .u8 0, .int .u8 0, .int .u8 0, .int .u8 0, .int .u8 0, .int .u8 0, .int .u8 0, .int .u8 0, .int .u8 0, .int .u8 0, .int .u8 0, .int .u8 0, .int .u8 0, .int .u8 0, .int .u8 0, .int .u8 0, .int .u8 0, .int .u8 0, .int .u8 0, .int .u8 0] 50))
  have b4 : Below w.heap.size w w4 := by
    have b1 := B1.out
    simp only [World.size_alloc] at b1
    exact ((((Below.refl w.heap.size w).alloc (Nat.le_refl _) _).alloc (by simp) _).trans (b1.mono (by omega))).trans (B2.out.mono (by omega)) |>.trans (B3.out.mono (by omega)) |>.trans (B4.out.mono (by omega))
  have e1 : Ec w1 w.heap.size V := ((Ec.new w V).below ((Below.refl _ _).alloc (Nat.le_refl _) (.cells #[.int .u64 0, .int .u64 0, .int .u64 0, .int .u64 0] 26)) (by simp)).below B1.out (by simp only [World.size_alloc]; omega)
  have e4 : Ec w4 w.heap.size V := ((e1.below B2.out z1_1).below B3.out z2_1).below B4.out z3_1
  have z0 : Ez ((w.alloc (.cells #[.int .u64 (l0 (V) : Int), .int .u64 (l1 (V) : Int), .int .u64 (l2 (V) : Int), .int .u64 (l3 (V) : Int)] 26)).alloc (.cells #[.int .u64 0, .int .u64 0, .int .u64 0, .int .u64 0] 26)) (w.heap.size + 1) := by constructor <;> simp [go_sem]
  have z4 : Ez w4 (w.heap.size + 1) := (((z0.below B1.out (by simp only [World.size_alloc]; omega)).below B2.out z1_0).below B3.out z2_0).below B4.out z3_0
  obtain ⟨W5, hW5⟩ : ∃ W5, W5 = (w4.alloc (.cells #[.int .u8 0, .int .u8 0, .int .u8 0, .int .u8 0, .int .u8 0, .int .u8 0, .int .u8 0, .int .u8 0, .int .u8 0, .int .u8 0, .int .u8 0, .int .u8 0, .int .u8 0, .int .u8 0, .int .u8 0, .int .u8 0, .int .u8 0, .int .u8 0, .int .u8 0, .int .u8 0, .int .u8 0, .int .u8 0, .int .u8 0, .int .u8 0, .int .u8 0, .int .u8 0, .int .u8 0, .int .u8 0, .int .u8 0, .int .u8 0, .int .u8 0, .int .u8 0] 50)).setRow w4.heap.size us := ⟨_, rfl⟩
  have b5 : Below w.heap.size w W5 := by
    rw [hW5]
    exact row_below (b4.alloc b4.size _) b4.size (by simp only [World.size_alloc]; have := b4.size; omega)
  have hb45 : Below w4.heap.size w4 W5 := by
    rw [hW5]
    exact row_below ((Below.refl _ _).alloc (Nat.le_refl _) _) (Nat.le_refl _) (by simp only [World.size_alloc]; omega)
  have e5 := e4.below hb45 z4_1
  have z5 := z4.below hb45 z4_0
  have r5 : W5.heap[w4.heap.size]? = some (.cells us 50 (0, 0)) := by rw [hW5]; exact setRow_heap _ _ _ _ _ _ hrow.out
  have x2 : w4.heap.size < W5.heap.size := (Array.getElem?_eq_some_iff.1 r5).1
  obtain ⟨g, hg⟩ : ∃ g, g = w4.heap.size := ⟨_, rfl⟩
  have HW5 := Lib.hid hW5; have R5 := Lib.hid r5; have BB5 := Lib.hid b5; have E5 := Lib.hid e5; have Z5 := Lib.hid z5
  clear hc1 hf1 hc2 hf2 hc3 hf3 hc4 hf4 hW5 r5 b5 e5 z5 b4 e1 e4 z0 z4 hb45
  go_wp2_with (with_reducible refine wpList_store_row rfl 50 (.tmp 3) (.tmp 7) rfl w4.heap.size us rfl rfl 50 _ hrow.out hi.out ho.out hone.out ?_)
  rw [← HW5.out]
  rw [← hg] at x2 R5 ⊢
  have x1 : w.heap.size + 1 < W5.heap.size := by omega
  have x0 : w.heap.size < W5.heap.size := by omega
  obtain ⟨c0, c1, c2, c3, _, _, _, _⟩ := E5.out
  obtain ⟨d0, d1, d2, d3, k0, k1, k2, k3⟩ := Z5.out
  have hcut := fun W => cut32_all (g := g) W
  have CQ := Lib.hid (CP.out g W5.drew R5.out)
  clear hg
  go_region_with (first
    | ((with_reducible refine (CQ.out).mono ?_); rintro e' w' ⟨rfl, hb⟩; replace hb := undrew hb; have BB6 := Lib.hid hb; obtain ⟨hc, hf⟩ := bcell hb; have y1 : w.heap.size + 1 < w'.heap.size := (by have := hb.size; omega); have y0 : w.heap.size < w'.heap.size := (by omega); clear hb))
  all_goals
    go_wp2_with fail
    refine bodyPost_ret (v := .agg #[.int .u64 (l0 (N) : Int), .int .u64 (l1 (N) : Int), .int .u64 (l2 (N) : Int), .int .u64 (l3 (N) : Int)]) (by simp [results, Try.results26, go_sem, *]) rfl ⟨rfl, ?_⟩
    exact set4_below (BB5.out.trans (BB6.out.mono (by omega))) (g := w.heap.size + 1) (by omega) _ _ _ _
end Go.Proofs.Ytgkglielcbgpiaa
