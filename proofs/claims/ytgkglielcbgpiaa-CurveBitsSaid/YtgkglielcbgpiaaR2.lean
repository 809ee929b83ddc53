/- The reference's From, To and prime. -/
import Derived.Test.YtgkglielcbgpiaaR1
import Derived.Deep.QuietTactic
namespace Go.Proofs.Ytgkglielcbgpiaa
open Go.RowKit

theorem hi8 {f : Nat → Nat} : (Try.prog.info? 34).map (·.size) = some (rowF .u32 8 f).size := by rw [rowF_size]; show _ = _; kernel_rfl

theorem row_below {w wr : World} {B g : Nat} {cs : Array Value} (h : Below B w wr) (hg : B ≤ g) (hs : B ≤ wr.heap.size) : Below B w (wr.setRow g cs) :=
  h.grown (row := some g) ⟨rfl, rfl, rfl, by simp, fun j _ hj => setRow_other wr g j _ (fun e => hj (by rw [e]))⟩ hs (fun j hj => by simp only [Option.some.injEq] at hj; omega)

set_option maxRecDepth 100000 in
set_option maxHeartbeats 4000000 in
theorem fromE (V : Nat) (w : World) : Calls Try.prog 16 #[.agg #[.int .u64 (l0 (V) : Int), .int .u64 (l1 (V) : Int), .int .u64 (l2 (V) : Int), .int .u64 (l3 (V) : Int)]] w fun e w' => e = .returned (.agg (nvA V)) ∧ Below w.heap.size w w' := by
  obtain ⟨cs, hcs⟩ : ∃ cs, cs = nvA V := ⟨_, rfl⟩
  rw [← hcs]
  have HCS := Lib.hid hcs
  clear hcs
  obtain ⟨Wa, hWa⟩ : ∃ Wa, Wa = ((w.alloc (.cells #[.int .u64 (l0 (V) : Int), .int .u64 (l1 (V) : Int), .int .u64 (l2 (V) : Int), .int .u64 (l3 (V) : Int)] 25)).alloc (.cells #[.int .u32 0, .int .u32 0, .int .u32 0, .int .u32 0, .int .u32 0, .int .u32 0, .int .u32 0, .int .u32 0] 34)).alloc (.cells #[.int .u32 0, .int .u32 0, .int .u32 0, .int .u32 0, .int .u32 0, .int .u32 0, .int .u32 0, .int .u32 0] 34) := ⟨_, rfl⟩
  have hL : ∀ j, j < 4 → Wa.cell? ⟨w.heap.size, j, none⟩ = some (.int .u64 (limb V j : Int)) := by
    intro j hj
    obtain ⟨e0, e1, e2, e3⟩ := limbs_of V
    rcases (by omega : j = 0 ∨ j = 1 ∨ j = 2 ∨ j = 3) with rfl | rfl | rfl | rfl <;> rw [hWa] <;> simp [go_sem, e0, e1, e2, e3]
  have hR : Rw Wa (w.heap.size + 1 + 1) 34 .u32 8 (preD V 0) := by
    rw [hWa]
    have h := Rw.new ((w.alloc (.cells #[.int .u64 (l0 (V) : Int), .int .u64 (l1 (V) : Int), .int .u64 (l2 (V) : Int), .int .u64 (l3 (V) : Int)] 25)).alloc (.cells #[.int .u32 0, .int .u32 0, .int .u32 0, .int .u32 0, .int .u32 0, .int .u32 0, .int .u32 0, .int .u32 0] 34)) 34 .u32 8 (preD V 0) (cs := #[.int .u32 0, .int .u32 0, .int .u32 0, .int .u32 0, .int .u32 0, .int .u32 0, .int .u32 0, .int .u32 0]) rfl
    simpa using h
  have hZ : Wa.heap[w.heap.size + 1]? = some (.cells #[.int .u32 0, .int .u32 0, .int .u32 0, .int .u32 0, .int .u32 0, .int .u32 0, .int .u32 0, .int .u32 0] 34 (0, 0)) := by
    rw [hWa]
    exact (heap_alloc_old _ _ (by simp)).trans (heap_alloc2_new w _ _)
  have hBe : Below w.heap.size w Wa := by
    rw [hWa]
    exact (((Below.refl _ _).alloc (Nat.le_refl _) _).alloc (by simp) _).alloc (by simp; omega) _
  have HL := Lib.hid hL; have HR := Lib.hid hR; have HZ := Lib.hid hZ; have HBe := Lib.hid hBe; have HWa := Lib.hid hWa
  clear hL hR hZ hBe hWa
  go_enter Try.func16, Try.ntmps16
  go_wp2_with fail
  rw [← HWa.out]
  go_loopw [4] (fun i wr => ∃ k : Nat, k ≤ 4 ∧ i = .int .i64 k ∧ Hid (Below w.heap.size w wr) ∧ Hid (∀ j, j < 4 → wr.cell? ⟨w.heap.size, j, none⟩ = some (.int .u64 (limb V j : Int))) ∧ Hid (Rw wr (w.heap.size + 1 + 1) 34 .u32 8 (preD V (2 * k))) ∧ Hid (wr.heap[w.heap.size + 1]? = some (.cells #[.int .u32 0, .int .u32 0, .int .u32 0, .int .u32 0, .int .u32 0, .int .u32 0, .int .u32 0, .int .u32 0] 34 (0, 0)))) (fun i _ => 4 - (intOf i).toNat)
  case atStart => exact ⟨0, Nat.zero_le _, rfl, HBe, HL, HR, HZ⟩
  case round =>
    obtain ⟨k, hk, rfl, hbe, hl, hr, hz⟩ := hrel
    clear HL HR HZ HBe
    by_cases hlt : k < 4
    · have hlk := hl.out k hlt
      have c0 := hr.out.cell (j := 2 * k) (by omega)
      have c1 := hr.out.cell (j := 2 * k + 1) (by omega)
      have f0 := hr.out.frozen (j := 2 * k)
      have f1 := hr.out.frozen (j := 2 * k + 1)
      have HV0 : Hid ((limb V k : Int) % 4294967296 = (dig V (2 * k) : Int)) := Lib.hid (by rw [← dig_limb0, Int.natCast_emod]; rfl)
      have HV1 : Hid ((limb V k : Int) / 4294967296 % 4294967296 = (dig V (2 * k + 1) : Int)) := Lib.hid (by
        rw [← dig_limb1, Int.natCast_ediv]
        have : limb V k < 18446744073709551616 := Nat.mod_lt _ (by decide)
        omega)
      have k0 : (0 : Int) ≤ (k : Int) := Int.natCast_nonneg _
      have k4 : (k : Int) < 4 := by omega
      go_wp2_with fail
      rw [HV0.out, HV1.out]
      go_roundw
      case rel =>
        refine ⟨k + 1, by omega, by go_num, Lib.hid ((hbe.out.setCell (by show _ ≤ _; simp only; omega) _).setCell (by show _ ≤ _; simp only; omega) _), Lib.hid fun j hj => ?_, Lib.hid ?_, Lib.hid ?_⟩
        · rw [World.cell?_setCell_far _ _ _ _ (by show _ ≠ _; simp only; omega), World.cell?_setCell_far _ _ _ _ (by show _ ≠ _; simp only; omega)]
          exact hl.out j hj
        · refine ((hr.out.set (2 * k) (dig V (2 * k))).set (2 * k + 1) (dig V (2 * k + 1))).ext fun i _ => ?_
          show upd (upd (preD V (2 * k)) (2 * k) (dig V (2 * k))) (2 * k + 1) (dig V (2 * k + 1)) i = preD V (2 * k + 1 + 1) i
          rw [← upd_pre, show upd (preD V (2 * k)) (2 * k) (dig V (2 * k)) = preD V (2 * k + 1) from funext (upd_pre V (2 * k))]
        · exact (Below.heap_setCell _ _ _ _ (by show _ ≠ _; simp only; omega)).trans ((Below.heap_setCell _ _ _ _ (by show _ ≠ _; simp only; omega)).trans hz.out)
      case measure => simp [intOf]; omega
    · obtain rfl : k = 4 := by omega
      have haw : Hid (wr.heap[w.heap.size + 1 + 1]? = some (.cells cs 34 (0, 0))) := by
        rw [HCS.out]
        exact Lib.hid (hr.out.ext fun i hi => if_pos (by omega))
      have hi : Hid ((Try.prog.info? 34).map (·.size) = some cs.size) := Lib.hid (by rw [HCS.out]; exact hi8)
      have ho : Hid ((#[.int .u32 0, .int .u32 0, .int .u32 0, .int .u32 0, .int .u32 0, .int .u32 0, .int .u32 0, .int .u32 0] : Array Value).size = cs.size) := Lib.hid (by rw [HCS.out]; exact (rowF_size _ _ _).symm)
      have h1 : Hid (cs.all (·.oneCell') = true) := Lib.hid (by rw [HCS.out]; exact rowF_one _ _ _)
      have hbe3 : Below w.heap.size w (wr.setRow (w.heap.size + 1) cs) := row_below hbe.out (by omega) hbe.out.size
      clear hbe hl hr
      go_wp2_with (first
        | (with_reducible refine wpList_load_row rfl 34 (.tmp 3) rfl (w.heap.size + 1 + 1) rfl 34 cs (0, 0) _ haw.out Try.underlying34 rfl hi.out ?_)
        | (with_reducible refine wpList_store_row rfl 34 (.tmp 2) (.tmp 26) rfl (w.heap.size + 1) cs rfl rfl 34 _ hz.out hi.out ho.out h1.out ?_))
      (try simp only [Exit.inBlock, Exit.then])
      exact bodyPost_ret (results_cell_row rfl _ _ (w.heap.size + 1) 34 cs (0, 0) _ rfl (setRow_heap wr (w.heap.size + 1) _ _ _ _ hz.out) Try.underlying34 rfl hi.out) rfl ⟨rfl, hbe3⟩

set_option maxRecDepth 100000 in
set_option maxHeartbeats 4000000 in
theorem primeE (w : World) : Calls Try.prog 51 #[] w fun e w' => e = .returned (.agg (nvA PP)) ∧ Below w.heap.size w w' := by
  have e : nvA PP = #[.int .u32 4294967277, .int .u32 4294967295, .int .u32 4294967295, .int .u32 4294967295, .int .u32 4294967295, .int .u32 4294967295, .int .u32 4294967295, .int .u32 2147483647] := by
    show _ = _
    kernel_rfl
  rw [e]
  clear e
  go_enter Try.func51, Try.ntmps51
  go_wp2_with fail
  refine bodyPost_ret (v := .agg #[.int .u32 4294967277, .int .u32 4294967295, .int .u32 4294967295, .int .u32 4294967295, .int .u32 4294967295, .int .u32 4294967295, .int .u32 4294967295, .int .u32 2147483647]) (by simp [results, Try.results51, go_sem]) rfl ⟨rfl, ?_⟩
  exact (Below.refl _ _).alloc (Nat.le_refl _) _

theorem dig_pair (V k : Nat) : dig V (2 * k) + dig V (2 * k + 1) * 4294967296 = limb V k := by
  rw [← dig_limb0, ← dig_limb1]
  omega
/-- the first k limbs, the rest noughts -/
def preL (V k : Nat) : Nat → Nat := fun i => if i < k then limb V i else 0
theorem upd_preL (V k i : Nat) : upd (preL V k) k (limb V k) i = preL V (k + 1) i := by
  unfold upd preL
  by_cases e : i = k
  · subst e; rw [if_pos rfl, if_pos (by omega)]
  · rw [if_neg e]
    by_cases h : i < k
    · rw [if_pos h, if_pos (by omega)]
    · rw [if_neg h, if_neg (by omega)]
theorem elA (V : Nat) : rowF .u64 4 (limb V) = #[.int .u64 (l0 (V) : Int), .int .u64 (l1 (V) : Int), .int .u64 (l2 (V) : Int), .int .u64 (l3 (V) : Int)] := by
  obtain ⟨e0, e1, e2, e3⟩ := limbs_of V
  rw [← e0, ← e1, ← e2, ← e3]
  rfl
theorem hi4 {f : Nat → Nat} : (Try.prog.info? 25).map (·.size) = some (rowF .u64 4 f).size := by rw [rowF_size]; show _ = _; kernel_rfl

set_option maxRecDepth 100000 in
set_option maxHeartbeats 4000000 in
theorem toE (V : Nat) (w : World) : Calls Try.prog 47 #[.agg (nvA V)] w fun e w' => e = .returned (.agg #[.int .u64 (l0 (V) : Int), .int .u64 (l1 (V) : Int), .int .u64 (l2 (V) : Int), .int .u64 (l3 (V) : Int)]) ∧ Below w.heap.size w w' := by
  obtain ⟨cs, hcs⟩ : ∃ cs, cs = nvA V := ⟨_, rfl⟩
  obtain ⟨ls, hls⟩ : ∃ ls, ls = rowF .u64 4 (limb V) := ⟨_, rfl⟩
  rw [← elA, ← hls, ← hcs]
  obtain ⟨Wa, hWa⟩ : ∃ Wa, Wa = ((w.alloc (.cells cs 34)).alloc (.cells #[.int .u64 0, .int .u64 0, .int .u64 0, .int .u64 0] 25)).alloc (.cells #[.int .u64 0, .int .u64 0, .int .u64 0, .int .u64 0] 25) := ⟨_, rfl⟩
  have hL : Rw Wa w.heap.size 34 .u32 8 (dig V) := by
    rw [hWa]
    exact ((Rw.new w _ _ _ _ hcs).alloc _).alloc _
  have hR : Rw Wa (w.heap.size + 1 + 1) 25 .u64 4 (preL V 0) := by
    rw [hWa]
    have h := Rw.new ((w.alloc (.cells cs 34)).alloc (.cells #[.int .u64 0, .int .u64 0, .int .u64 0, .int .u64 0] 25)) 25 .u64 4 (preL V 0) (cs := #[.int .u64 0, .int .u64 0, .int .u64 0, .int .u64 0]) rfl
    simpa using h
  have hZ : Wa.heap[w.heap.size + 1]? = some (.cells #[.int .u64 0, .int .u64 0, .int .u64 0, .int .u64 0] 25 (0, 0)) := by
    rw [hWa]
    exact (heap_alloc_old _ _ (by simp)).trans (heap_alloc2_new w _ _)
  have hBe : Below w.heap.size w Wa := by
    rw [hWa]
    exact (((Below.refl _ _).alloc (Nat.le_refl _) _).alloc (by simp) _).alloc (by simp; omega) _
  have HL := Lib.hid hL; have HR := Lib.hid hR; have HZ := Lib.hid hZ; have HBe := Lib.hid hBe; have HWa := Lib.hid hWa; have HLS := Lib.hid hls
  clear hL hR hZ hBe hWa hcs hls
  go_enter Try.func47, Try.ntmps47
  go_wp2_with fail
  rw [← HWa.out]
  go_loopw [4] (fun i wr => ∃ k : Nat, k ≤ 4 ∧ i = .int .i64 k ∧ Hid (Below w.heap.size w wr) ∧ Hid (Rw wr w.heap.size 34 .u32 8 (dig V)) ∧ Hid (Rw wr (w.heap.size + 1 + 1) 25 .u64 4 (preL V k)) ∧ Hid (wr.heap[w.heap.size + 1]? = some (.cells #[.int .u64 0, .int .u64 0, .int .u64 0, .int .u64 0] 25 (0, 0)))) (fun i _ => 4 - (intOf i).toNat)
  case atStart => exact ⟨0, Nat.zero_le _, rfl, HBe, HL, HR, HZ⟩
  case round =>
    obtain ⟨k, hk, rfl, hbe, hl, hr, hz⟩ := hrel
    clear HL HR HZ HBe
    by_cases hlt : k < 4
    · have d0 := hl.out.cell (j := 2 * k) (by omega)
      have d1 := hl.out.cell (j := 2 * k + 1) (by omega)
      have c0 := hr.out.cell (j := k) (by omega)
      have f0 := hr.out.frozen (j := k)
      have HD := Lib.hid (dig_pair V k)
      have b0 : (0 : Int) ≤ (dig V (2 * k) : Int) ∧ (dig V (2 * k) : Int) < 4294967296 := by have := dig_lt V (2 * k); omega
      have b1 : (0 : Int) ≤ (dig V (2 * k + 1) : Int) ∧ (dig V (2 * k + 1) : Int) < 4294967296 := by have := dig_lt V (2 * k + 1); omega
      obtain ⟨x, hx⟩ : ∃ x, x = dig V (2 * k) := ⟨_, rfl⟩
      obtain ⟨y, hy⟩ : ∃ y, y = dig V (2 * k + 1) := ⟨_, rfl⟩
      rw [← hx] at d0 HD b0
      rw [← hy] at d1 HD b1
      clear hx hy
      have k0 : (0 : Int) ≤ (k : Int) := Int.natCast_nonneg _
      have k4 : (k : Int) < 4 := by omega
      have HV : Hid (IntKind.u64.wrap (IntKind.u64.wrap (x : Int) + IntKind.u64.wrap (IntKind.u64.wrap (y : Int) * 4294967296)) = (limb V k : Int)) := Lib.hid (by
        have := HD.out
        have : limb V k < 18446744073709551616 := Nat.mod_lt _ (by decide)
        rw [IntKind.wrap_u64, IntKind.wrap_u64, IntKind.wrap_u64, IntKind.wrap_u64]
        omega)
      have w1 : IntKind.i64.wrap (2 * (k : Int)) = 2 * (k : Int) := by rw [IntKind.wrap_i64]; omega
      have w2 : IntKind.i64.wrap (2 * (k : Int) + 1) = 2 * (k : Int) + 1 := by rw [IntKind.wrap_i64]; omega
      have m1 : (0 : Int) ≤ 2 * (k : Int) := by omega
      have m2 : (2 * (k : Int)) < 8 := by omega
      have m3 : (0 : Int) ≤ 2 * (k : Int) + 1 := by omega
      have m4 : (2 * (k : Int)) + 1 < 8 := by omega
      have t1 : (2 * (k : Int)).toNat = 2 * k := by omega
      have t2 : (2 * (k : Int) + 1).toNat = 2 * k + 1 := by omega
      go_wp2_with fail
      go_region_held3 (fun w' => w'.cell? ⟨w.heap.size, 2 * k, none⟩ = some (.int .u32 (x : Int)) ∧ w'.cell? ⟨w.heap.size, 2 * k + 1, none⟩ = some (.int .u32 (y : Int))) (go_simp) (fail)
      rw [HV.out]
      clear w1 w2 m1 m2 m3 m4 t1 t2
      go_wp2_with fail
      go_roundw
      case rel =>
        refine ⟨k + 1, by omega, by go_num, Lib.hid ((hbe.out.setCell (by show _ ≤ _; simp only; omega) _).drew), Lib.hid ?_, Lib.hid ?_, Lib.hid ?_⟩
        · exact hl.out.far (by omega)
        · exact (hr.out.set k (limb V k)).ext fun i _ => upd_preL V k i
        · exact (Below.heap_setCell _ _ _ _ (by show _ ≠ _; simp only; omega)).trans hz.out
      case measure => simp [intOf]; omega
    · obtain rfl : k = 4 := by omega
      have haw : Hid (wr.heap[w.heap.size + 1 + 1]? = some (.cells ls 25 (0, 0))) := by
        rw [HLS.out]
        exact Lib.hid (hr.out.ext fun i hi => if_pos (by omega))
      have hi : Hid ((Try.prog.info? 25).map (·.size) = some ls.size) := Lib.hid (by rw [HLS.out]; exact hi4)
      have ho : Hid ((#[.int .u64 0, .int .u64 0, .int .u64 0, .int .u64 0] : Array Value).size = ls.size) := Lib.hid (by rw [HLS.out]; exact (rowF_size _ _ _).symm)
      have h1 : Hid (ls.all (·.oneCell') = true) := Lib.hid (by rw [HLS.out]; exact rowF_one _ _ _)
      have hbe3 : Below w.heap.size w (wr.setRow (w.heap.size + 1) ls) := row_below hbe.out (by omega) hbe.out.size
      clear hbe hl hr
      go_wp2_with (first
        | (with_reducible refine wpList_load_row rfl 25 (.tmp 3) rfl (w.heap.size + 1 + 1) rfl 25 ls (0, 0) _ haw.out Try.underlying25 rfl hi.out ?_)
        | (with_reducible refine wpList_store_row rfl 25 (.tmp 2) (.tmp 24) rfl (w.heap.size + 1) ls rfl rfl 25 _ hz.out hi.out ho.out h1.out ?_))
      (try simp only [Exit.inBlock, Exit.then])
      exact bodyPost_ret (results_cell_row rfl _ _ (w.heap.size + 1) 25 ls (0, 0) _ rfl (setRow_heap wr (w.heap.size + 1) _ _ _ _ hz.out) Try.underlying25 rfl hi.out) rfl ⟨rfl, hbe3⟩
end Go.Proofs.Ytgkglielcbgpiaa
