/- curve's ladder. -/
import Derived.Test.YtgkglielcbgpiaaV2
import Derived.Deep.Cut
import Derived.Great.Ranges
namespace Go.Proofs.Ytgkglielcbgpiaa
open Go.RowKit

def bitC (n : List UInt8) (i : Nat) : Bool := decide ((n.getD (i / 8) 0).toNat / 2 ^ (i % 8) % 2 = 1)
/-- one round on (x2, z2, x3, z3) -/
def ladS (x : Nat) (bit : Bool) (s : Nat × Nat × Nat × Nat) : Nat × Nat × Nat × Nat :=
  if bit then ((rungN x s.2.2.1 s.2.2.2 s.1 s.2.1).2.2.1, (rungN x s.2.2.1 s.2.2.2 s.1 s.2.1).2.2.2, (rungN x s.2.2.1 s.2.2.2 s.1 s.2.1).1, (rungN x s.2.2.1 s.2.2.2 s.1 s.2.1).2.1)
  else rungN x s.1 s.2.1 s.2.2.1 s.2.2.2
def ladN (x : Nat) (n : List UInt8) : Nat → Nat × Nat × Nat × Nat
  | 0 => (1, 0, x, 1)
  | k + 1 => ladS x (bitC n (254 - k)) (ladN x n k)
structure In4P (s : Nat × Nat × Nat × Nat) : Prop where
  a : s.1 < W4
  b : s.2.1 < W4
  c : s.2.2.1 < W4
  d : s.2.2.2 < W4
theorem rungN_in (x a b c d : Nat) : In4P (rungN x a b c d) := ⟨prodP_lt4 _, prodP_lt4 _, mod_lt4 _, prodP_lt4 _⟩
theorem ladN_in {x : Nat} (hx : x < W4) (n : List UInt8) (k : Nat) : In4P (ladN x n k) := by
  cases k with
  | zero => exact ⟨show 1 < W4 by decide, show 0 < W4 by decide, hx, show 1 < W4 by decide⟩
  | succ k =>
    have h := rungN_in x (ladN x n k).2.2.1 (ladN x n k).2.2.2 (ladN x n k).1 (ladN x n k).2.1
    have h2 := rungN_in x (ladN x n k).1 (ladN x n k).2.1 (ladN x n k).2.2.1 (ladN x n k).2.2.2
    unfold ladN ladS
    split
    · exact ⟨h.c, h.d, h.a, h.b⟩
    · exact h2
theorem buildR1 (A : Nat) (W : World) : (Instr.build 29 #[(0, .agg #[.int .u64 (l0 (A) : Int), .int .u64 (l1 (A) : Int), .int .u64 (l2 (A) : Int), .int .u64 (l3 (A) : Int)])]).run Try.prog W = .ok (.agg #[.int .u64 (l0 (A) : Int), .int .u64 (l1 (A) : Int), .int .u64 (l2 (A) : Int), .int .u64 (l3 (A) : Int), .int .u64 (l0 (0) : Int), .int .u64 (l1 (0) : Int), .int .u64 (l2 (0) : Int), .int .u64 (l3 (0) : Int)]) W := by kernel_rfl
theorem and1_u8 : ∀ (y : Fin 256) (r : Fin 8), (bits .and .u8 ((y.val : Nat) / 2 ^ r.val : Int) 1 == 1) = decide (y.val / 2 ^ r.val % 2 = 1) := by decide +kernel
/-- the ladder in the midst of its rounds -/
structure LadR (w wr : World) (us : Array Value) (x : Nat) (F : Nat → Nat × Nat × Nat × Nat) (g5 g6 k : Nat) : Prop where
  r0 : wr.heap[w.heap.size]? = some (.cells us 50 (0, 0))
  r1 : wr.heap[w.heap.size + 1]? = some (.cells #[.int .u64 (l0 (x) : Int), .int .u64 (l1 (x) : Int), .int .u64 (l2 (x) : Int), .int .u64 (l3 (x) : Int)] 26 (0, 0))
  r2 : wr.heap[w.heap.size + 1 + 1]? = some (.cells ([.int .u64 0, .int .u64 0, .int .u64 0, .int .u64 0, .int .u64 0, .int .u64 0, .int .u64 0, .int .u64 0] : List Value).toArray 29 (0, 0))
  r5 : wr.heap[g5]? = some (.cells #[.int .u64 (l0 ((F k).1) : Int), .int .u64 (l1 ((F k).1) : Int), .int .u64 (l2 ((F k).1) : Int), .int .u64 (l3 ((F k).1) : Int), .int .u64 (l0 ((F k).2.1) : Int), .int .u64 (l1 ((F k).2.1) : Int), .int .u64 (l2 ((F k).2.1) : Int), .int .u64 (l3 ((F k).2.1) : Int)] 29 (0, 0))
  r6 : wr.heap[g6]? = some (.cells #[.int .u64 (l0 ((F k).2.2.1) : Int), .int .u64 (l1 ((F k).2.2.1) : Int), .int .u64 (l2 ((F k).2.2.1) : Int), .int .u64 (l3 ((F k).2.2.1) : Int), .int .u64 (l0 ((F k).2.2.2) : Int), .int .u64 (l1 ((F k).2.2.2) : Int), .int .u64 (l2 ((F k).2.2.2) : Int), .int .u64 (l3 ((F k).2.2.2) : Int)] 29 (0, 0))
  ne : g5 ≠ g6
  l5 : w.heap.size + 1 + 1 < g5
  l6 : w.heap.size + 1 + 1 < g6
  be : Below w.heap.size w wr
set_option maxRecDepth 100000 in
set_option maxHeartbeats 4000000 in
theorem ladder_any {x : Nat} {n : List UInt8} (hn : n.length = 32) (hx : x < W4) (w : World) :
    Calls Try.prog 60 #[.agg (n.map vb).toArray, .agg #[.int .u64 (l0 (x) : Int), .int .u64 (l1 (x) : Int), .int .u64 (l2 (x) : Int), .int .u64 (l3 (x) : Int)]] w fun e w' => e = .returned (.agg #[.int .u64 (l0 ((ladN x n 255).1) : Int), .int .u64 (l1 ((ladN x n 255).1) : Int), .int .u64 (l2 ((ladN x n 255).1) : Int), .int .u64 (l3 ((ladN x n 255).1) : Int), .int .u64 (l0 ((ladN x n 255).2.1) : Int), .int .u64 (l1 ((ladN x n 255).2.1) : Int), .int .u64 (l2 ((ladN x n 255).2.1) : Int), .int .u64 (l3 ((ladN x n 255).2.1) : Int)]) ∧ Below w.heap.size w w' := by
  obtain ⟨F, hF⟩ : ∃ F, F = ladN x n := ⟨_, rfl⟩
  obtain ⟨S, hS⟩ : ∃ S, S = ladN x n 255 := ⟨_, rfl⟩
  rw [← hS]
  have HF0 : Hid (F 0 = (1, 0, x, 1)) := Lib.hid (by rw [hF]; rfl)
  have HFS : Hid (∀ k, F (k + 1) = ladS x (bitC n (254 - k)) (F k)) := Lib.hid (by rw [hF]; exact fun k => rfl)
  have HF4 : Hid (∀ k, In4P (F k)) := Lib.hid (by rw [hF]; exact fun k => ladN_in hx n k)
  have HFE : Hid (F 255 = S) := Lib.hid (by rw [hS, hF])
  clear hF hS
  obtain ⟨cl, hcl⟩ : ∃ cl : Array Value, cl = #[.int .u64 (l0 (S.1) : Int), .int .u64 (l1 (S.1) : Int), .int .u64 (l2 (S.1) : Int), .int .u64 (l3 (S.1) : Int), .int .u64 (l0 (S.2.1) : Int), .int .u64 (l1 (S.2.1) : Int), .int .u64 (l2 (S.2.1) : Int), .int .u64 (l3 (S.2.1) : Int)] := ⟨_, rfl⟩
  rw [← hcl]
  have HC0 := Lib.hid hcl
  clear hcl
  obtain ⟨us, hus⟩ : ∃ us, us = (n.map vb).toArray := ⟨_, rfl⟩
  rw [← hus]
  have HUS := Lib.hid hus; have Zx := Lib.hid hx; have HN := Lib.hid hn
  have C1 := Lib.hid (fun W => of1 W)
  obtain ⟨V0, hV0⟩ : ∃ V0, V0 = ((w.alloc (.cells us 50)).alloc (.cells ([.int .u64 (l0 (x) : Int), .int .u64 (l1 (x) : Int), .int .u64 (l2 (x) : Int), .int .u64 (l3 (x) : Int)] : List Value).toArray 26)).alloc (.cells ([.int .u64 0, .int .u64 0, .int .u64 0, .int .u64 0, .int .u64 0, .int .u64 0, .int .u64 0, .int .u64 0] : List Value).toArray 29) := ⟨_, rfl⟩
  have hb0 : Below w.heap.size w V0 := by rw [hV0]; exact (((Below.refl _ _).alloc (Nat.le_refl _) _).alloc (by simp) _).alloc (by simp; omega) _
  have k0 : RowL V0 w.heap.size (n.map vb) 50 := by rw [hV0, hus]; exact ((RowL.new w _ _).alloc _).alloc _
  have k1 : RowL V0 (w.heap.size + 1) [.int .u64 (l0 (x) : Int), .int .u64 (l1 (x) : Int), .int .u64 (l2 (x) : Int), .int .u64 (l3 (x) : Int)] 26 := by rw [hV0]; have h := (RowL.new (w.alloc (.cells us 50)) [.int .u64 (l0 (x) : Int), .int .u64 (l1 (x) : Int), .int .u64 (l2 (x) : Int), .int .u64 (l3 (x) : Int)] 26).alloc (.cells ([.int .u64 0, .int .u64 0, .int .u64 0, .int .u64 0, .int .u64 0, .int .u64 0, .int .u64 0, .int .u64 0] : List Value).toArray 29); simpa using h
  have k2 : RowL V0 (w.heap.size + 1 + 1) [.int .u64 0, .int .u64 0, .int .u64 0, .int .u64 0, .int .u64 0, .int .u64 0, .int .u64 0, .int .u64 0] 29 := by rw [hV0]; have h := RowL.new ((w.alloc (.cells us 50)).alloc (.cells ([.int .u64 (l0 (x) : Int), .int .u64 (l1 (x) : Int), .int .u64 (l2 (x) : Int), .int .u64 (l3 (x) : Int)] : List Value).toArray 26)) [.int .u64 0, .int .u64 0, .int .u64 0, .int .u64 0, .int .u64 0, .int .u64 0, .int .u64 0, .int .u64 0] 29; simpa using h
  have HB := Lib.hid hb0; have K0 := Lib.hid k0; have K1 := Lib.hid k1; have K2 := Lib.hid k2; have HV0 := Lib.hid hV0
  clear hus hx hn hb0 k0 k1 k2 hV0
  go_enter Try.func60, Try.ntmps60
  go_upto_region 1 with (first | (refine wpList_boxTo rfl 50 (.tmp 0) rfl _ rfl w.heap.size rfl us rfl ?_) | fail)
  rw [show _ = V0 from HV0.out.symm]
  clear HV0
  go_wp2_with fail
  with_reducible refine ((C1.out) _).mono ?_
  rintro e1 v1 ⟨rfl, hb1⟩
  obtain ⟨W1, hW1⟩ : ∃ W1, W1 = v1.alloc (.cells ([.int .u64 (l0 (1) : Int), .int .u64 (l1 (1) : Int), .int .u64 (l2 (1) : Int), .int .u64 (l3 (1) : Int), .int .u64 0, .int .u64 0, .int .u64 0, .int .u64 0] : List Value).toArray 29) := ⟨_, rfl⟩
  obtain ⟨g5, hg5⟩ : ∃ g5, g5 = v1.heap.size := ⟨_, rfl⟩
  have ha1 : Below v1.heap.size v1 W1 := by rw [hW1]; exact (Below.refl _ _).alloc (Nat.le_refl _) _
  have hc1 : Below V0.heap.size V0 W1 := hb1.trans (ha1.mono hb1.size)
  have Hg5 : Hid (RowL W1 g5 [.int .u64 (l0 (1) : Int), .int .u64 (l1 (1) : Int), .int .u64 (l2 (1) : Int), .int .u64 (l3 (1) : Int), .int .u64 (l0 (0) : Int), .int .u64 (l1 (0) : Int), .int .u64 (l2 (0) : Int), .int .u64 (l3 (0) : Int)] 29) := Lib.hid (by rw [hW1, hg5]; exact RowL.new _ _ _)
  have M5 : Hid (w.heap.size + 1 + 1 < g5) := Lib.hid (by have := K2.out.lt; have := hb1.size; omega)
  have R0 := Lib.hid (K0.out.upS hc1); have R1 := Lib.hid (K1.out.upS hc1); have R2 := Lib.hid (K2.out.upS hc1)
  have HB1 := Lib.hid (HB.out.trans (hc1.mono HB.out.size))
  have HW1 := Lib.hid hW1; have HG5 := Lib.hid hg5
  clear hb1 ha1 hc1 hW1 hg5 K0 K1 K2 HB
  have P5 : Hid (g5 < W1.heap.size) := Lib.hid Hg5.out.lt
  go_upto_region 2 with fail
  rw [show _ = W1 from HW1.out.symm, show _ = g5 from HG5.out.symm]
  clear HW1 HG5
  refine wp_region_mono 4 [10, 11, 12, 6] (phi [IsV (.agg #[.int .u64 (l0 (x) : Int), .int .u64 (l1 (x) : Int), .int .u64 (l2 (x) : Int), .int .u64 (l3 (x) : Int)]), IsV (.agg #[.int .u64 (l0 (1) : Int), .int .u64 (l1 (1) : Int), .int .u64 (l2 (1) : Int), .int .u64 (l3 (1) : Int)]), IsV (.agg #[.int .u64 (l0 (x) : Int), .int .u64 (l1 (x) : Int), .int .u64 (l2 (x) : Int), .int .u64 (l3 (x) : Int), .int .u64 (l0 (1) : Int), .int .u64 (l1 (1) : Int), .int .u64 (l2 (1) : Int), .int .u64 (l3 (1) : Int)]), IsR W1.heap.size ([.int .u64 0, .int .u64 0, .int .u64 0, .int .u64 0, .int .u64 0, .int .u64 0, .int .u64 0, .int .u64 0]) 29]) [3] rfl (by kernel_rfl) rfl rfl (by kernel_rfl) rfl (by kernel_rfl) (by kernel_rfl) (phi_mono (by repeat (first | exact mono_v _ | exact mono_r _ _ _ | exact mono_s _ _ _ | exact trivial | refine ⟨?_, ?_⟩))) ?_ ?_
  · intro i hi
    rcases (show i = 0 ∨ i = 1 ∨ i = 2 ∨ i = 3 by omega) with rfl | rfl | rfl | rfl
    · intro ac W hB hst hdep
      have e3 : ac.tmps[3]? = some (.pointer (some ⟨w.heap.size + 1, 0, none⟩)) := hst 3 (by decide)
      exact st_load rfl rfl 26 (.tmp 3) rfl (eval_of e3) ([.int .u64 (l0 (x) : Int), .int .u64 (l1 (x) : Int), .int .u64 (l2 (x) : Int), .int .u64 (l3 (x) : Int)]) _ ((RowL.upS (w := W1.drew) R1.out hB).range 0 _ rfl) undEl rfl (by kernel_rfl) rfl (notE rfl)
    · intro ac W hB hst hdep
      exact st_call rfl rfl rfl (show (#[.const (.int .u64 1)] : Array Operand).map ac.eval = (#[.int .u64 1] : Array Value) by simp only [List.map_toArray, List.map_cons, List.map_nil, Act.eval_const]) (fun _ => by kernel_rfl) (Calls.mono (C1.out _) fun e w' h => ⟨_, h.1, h.2, rfl⟩) (notE rfl)
    · intro ac W hB hst hdep
      obtain ⟨x10, e10, h10⟩ := hdep 0 (memE (by kernel_rfl)) 10 rfl
      replace h10 : x10 = .agg #[.int .u64 (l0 (x) : Int), .int .u64 (l1 (x) : Int), .int .u64 (l2 (x) : Int), .int .u64 (l3 (x) : Int)] := h10
      subst h10
      obtain ⟨x11, e11, h11⟩ := hdep 1 (memE (by kernel_rfl)) 11 rfl
      replace h11 : x11 = .agg #[.int .u64 (l0 (1) : Int), .int .u64 (l1 (1) : Int), .int .u64 (l2 (1) : Int), .int .u64 (l3 (1) : Int)] := h11
      subst h11
      exact st_build rfl rfl 29 _ rfl (show (#[(0, .tmp 10), (1, .tmp 11)] : Array (Nat × Operand)).map (fun (i, x) => (i, ac.eval x)) = #[(0, .agg #[.int .u64 (l0 (x) : Int), .int .u64 (l1 (x) : Int), .int .u64 (l2 (x) : Int), .int .u64 (l3 (x) : Int)]), (1, .agg #[.int .u64 (l0 (1) : Int), .int .u64 (l1 (1) : Int), .int .u64 (l2 (1) : Int), .int .u64 (l3 (1) : Int)])] by simp only [List.map_toArray, List.map_cons, List.map_nil, eval_of e10, eval_of e11]) (buildRt x 1) rfl (notE rfl)
    · intro ac W hB hst hdep
      exact st_alloc rfl rfl 29 rfl allocRt ⟨_, rfl, hB.size, heap_alloc_new _ _⟩
  intro vs hvs wn hbr hv hne
  obtain ⟨v10, v11, v12, v6, rfl⟩ := list4 vs hvs
  obtain rfl : v10 = .agg #[.int .u64 (l0 (x) : Int), .int .u64 (l1 (x) : Int), .int .u64 (l2 (x) : Int), .int .u64 (l3 (x) : Int)] := hv 0 _ rfl
  obtain rfl : v11 = .agg #[.int .u64 (l0 (1) : Int), .int .u64 (l1 (1) : Int), .int .u64 (l2 (1) : Int), .int .u64 (l3 (1) : Int)] := hv 1 _ rfl
  obtain rfl : v12 = .agg #[.int .u64 (l0 (x) : Int), .int .u64 (l1 (x) : Int), .int .u64 (l2 (x) : Int), .int .u64 (l3 (x) : Int), .int .u64 (l0 (1) : Int), .int .u64 (l1 (1) : Int), .int .u64 (l2 (1) : Int), .int .u64 (l3 (1) : Int)] := hv 2 _ rfl
  obtain ⟨g6, hg6, hB6, hr6⟩ : IsR W1.heap.size ([.int .u64 0, .int .u64 0, .int .u64 0, .int .u64 0, .int .u64 0, .int .u64 0, .int .u64 0, .int .u64 0]) 29 v6 wn := hv 3 _ rfl
  subst hg6
  clear hvs hv hne
  simp only [List.zip_cons_cons, List.zip_nil_right, List.zip_nil_left, puts, Act.put, List.setIfInBounds_toArray, List.set_cons_zero, List.set_cons_succ]
  have hz : W1.heap.size ≤ wn.heap.size := hbr.size
  have nB_W2 := Lib.hid (HB1.out.trans (hbr.mono HB1.out.size))
  have nR0 := Lib.hid (R0.out.upS hbr)
  have nR1 := Lib.hid (R1.out.upS hbr)
  have nR2 := Lib.hid (R2.out.upS hbr)
  have nHg5 := Lib.hid (Hg5.out.upS hbr)
  refine tail_store (k := 4) (by kernel_rfl) rfl rfl rfl 29 (.tmp 6) (.tmp 12) rfl g6 ([.int .u64 (l0 (x) : Int), .int .u64 (l1 (x) : Int), .int .u64 (l2 (x) : Int), .int .u64 (l3 (x) : Int), .int .u64 (l0 (1) : Int), .int .u64 (l1 (1) : Int), .int .u64 (l2 (1) : Int), .int .u64 (l3 (1) : Int)] : List Value).toArray (by kernel_rfl) (by kernel_rfl) _ _ hr6 (by kernel_rfl) rfl (by kernel_rfl) ?_
  replace hr6 := hr6.set ([.int .u64 (l0 (x) : Int), .int .u64 (l1 (x) : Int), .int .u64 (l2 (x) : Int), .int .u64 (l3 (x) : Int), .int .u64 (l0 (1) : Int), .int .u64 (l1 (1) : Int), .int .u64 (l2 (1) : Int), .int .u64 (l3 (1) : Int)])
  replace nB_W2 := Lib.hid (set_below nB_W2.out (Nat.le_trans HB1.out.size hB6) ([.int .u64 (l0 (x) : Int), .int .u64 (l1 (x) : Int), .int .u64 (l2 (x) : Int), .int .u64 (l3 (x) : Int), .int .u64 (l0 (1) : Int), .int .u64 (l1 (1) : Int), .int .u64 (l2 (1) : Int), .int .u64 (l3 (1) : Int)] : List Value).toArray)
  replace nR0 := Lib.hid (nR0.out.set_ne ([.int .u64 (l0 (x) : Int), .int .u64 (l1 (x) : Int), .int .u64 (l2 (x) : Int), .int .u64 (l3 (x) : Int), .int .u64 (l0 (1) : Int), .int .u64 (l1 (1) : Int), .int .u64 (l2 (1) : Int), .int .u64 (l3 (1) : Int)] : List Value).toArray (Nat.ne_of_lt (Nat.lt_of_lt_of_le R0.out.lt hB6)))
  replace nR1 := Lib.hid (nR1.out.set_ne ([.int .u64 (l0 (x) : Int), .int .u64 (l1 (x) : Int), .int .u64 (l2 (x) : Int), .int .u64 (l3 (x) : Int), .int .u64 (l0 (1) : Int), .int .u64 (l1 (1) : Int), .int .u64 (l2 (1) : Int), .int .u64 (l3 (1) : Int)] : List Value).toArray (Nat.ne_of_lt (Nat.lt_of_lt_of_le R1.out.lt hB6)))
  replace nR2 := Lib.hid (nR2.out.set_ne ([.int .u64 (l0 (x) : Int), .int .u64 (l1 (x) : Int), .int .u64 (l2 (x) : Int), .int .u64 (l3 (x) : Int), .int .u64 (l0 (1) : Int), .int .u64 (l1 (1) : Int), .int .u64 (l2 (1) : Int), .int .u64 (l3 (1) : Int)] : List Value).toArray (Nat.ne_of_lt (Nat.lt_of_lt_of_le R2.out.lt hB6)))
  replace nHg5 := Lib.hid (nHg5.out.set_ne ([.int .u64 (l0 (x) : Int), .int .u64 (l1 (x) : Int), .int .u64 (l2 (x) : Int), .int .u64 (l3 (x) : Int), .int .u64 (l0 (1) : Int), .int .u64 (l1 (1) : Int), .int .u64 (l2 (1) : Int), .int .u64 (l3 (1) : Int)] : List Value).toArray (Nat.ne_of_lt (Nat.lt_of_lt_of_le Hg5.out.lt hB6)))
  refine wpAny_done (by kernel_rfl) ?_ _
  have Hg6 := Lib.hid hr6
  have M6 : Hid (W1.heap.size ≤ g6) := Lib.hid hB6
  clear hbr hz hr6 hB6  
  generalize (wn.setRow g6 ([.int .u64 (l0 (x) : Int), .int .u64 (l1 (x) : Int), .int .u64 (l2 (x) : Int), .int .u64 (l3 (x) : Int), .int .u64 (l0 (1) : Int), .int .u64 (l1 (1) : Int), .int .u64 (l2 (1) : Int), .int .u64 (l3 (1) : Int)] : List Value).toArray) = W2 at *
  clear HB1 R0 R1 R2 Hg5
  have ne56 : Hid (g5 ≠ g6) := Lib.hid (Nat.ne_of_lt (Nat.lt_of_lt_of_le P5.out M6.out))
  have M6b : Hid (w.heap.size + 1 + 1 < g6) := Lib.hid (Nat.lt_trans M5.out (Nat.lt_of_lt_of_le P5.out M6.out))
  have HL : Hid (LadR w W2 us x F g5 g6 0) := Lib.hid ⟨(by have h := nR0.out; unfold RowL at h; rw [← HUS.out] at h; exact h), nR1.out, nR2.out, (by have h := nHg5.out; unfold RowL at h; rw [HF0.out]; exact h), (by have h := Hg6.out; unfold RowL at h; rw [HF0.out]; exact h), ne56.out, M5.out, M6b.out, nB_W2.out⟩
  clear nR0 nR1 nR2 nHg5 Hg6 ne56 M5 M6 M6b nB_W2 P5
  go_wp2_with fail
  go_loopw [7] (fun i wr => ∃ j : Nat, j ≤ 255 ∧ i = .int .i64 ((j : Int) - 1) ∧ Hid (LadR w wr us x F g5 g6 (255 - j))) (fun i _ => (intOf i + 1).toNat)
  case atStart => exact ⟨255, Nat.le_refl _, rfl, HL⟩
  case round =>
    obtain ⟨j, hj, rfl, hL⟩ := hrel
    clear HL
    cases j with
    | zero =>
      have hcl := HC0.out
      have t5 := hL.out.r5
      rw [show 255 - 0 = 255 from rfl, HFE.out, ← hcl] at t5
      have il : Hid ((Try.prog.info? 29).map (·.size) = some cl.size) := Lib.hid (by rw [hcl]; kernel_rfl)
      have ol : Hid (cl.all (·.oneCell') = true) := Lib.hid (by rw [hcl]; kernel_rfl)
      have sl : Hid (([.int .u64 0, .int .u64 0, .int .u64 0, .int .u64 0, .int .u64 0, .int .u64 0, .int .u64 0, .int .u64 0] : List Value).toArray.size = cl.size) := Lib.hid (by rw [hcl]; rfl)
      have T5 := Lib.hid t5; have T2 := Lib.hid hL.out.r2
      clear t5 hcl
      go_wp2_with (first | (with_reducible refine wpList_load_row rfl 29 (.tmp 5) rfl (g5) rfl 29 cl (0, 0) _ T5.out Try.underlying29 rfl il.out ?_) | (with_reducible refine wpList_store_row rfl 29 (.tmp 4) (.tmp 40) rfl (w.heap.size + 1 + 1) cl rfl rfl 29 _ T2.out il.out sl.out ol.out ?_) | fail)
      refine bodyPost_ret (results_cell_row rfl _ _ (w.heap.size + 1 + 1) 29 cl (0, 0) _ rfl (setRow_heap _ _ _ _ _ _ T2.out) Try.underlying29 rfl il.out) rfl ⟨rfl, set_below hL.out.be (by omega) _⟩
    | succ m =>
      have e1 : ((m + 1 : Nat) : Int) - 1 = (m : Int) := by omega
      rw [e1]
      clear e1
      have hm0 : (0 : Int) ≤ (m : Int) := by omega
      have hm1 : (m : Int) ≤ 254 := by omega
      obtain ⟨q, hq⟩ : ∃ q : Nat, q = m / 8 := ⟨_, rfl⟩
      obtain ⟨r, hr⟩ : ∃ r : Nat, r = m % 8 := ⟨_, rfl⟩
      have hq32 : q < 32 := by omega
      have hr8 : r < 8 := by omega
      have eq1 : (m : Int) / 8 = (q : Int) := by omega
      have er1 : (m : Int) % 8 = (r : Int) := by omega
      obtain ⟨y, hy⟩ : ∃ y : UInt8, y = n.getD q 0 := ⟨_, rfl⟩
      have cy : wr.cell? ⟨w.heap.size, q, none⟩ = some (.int .u8 (y.toNat : Int)) := by rw [cell_of_row _ _ _ _ _ _ hL.out.r0, HUS.out, hy]; simp [vb, HN.out, hq32]
      have hbc : bitC n m = decide (y.toNat / 2 ^ r % 2 = 1) := by simp only [bitC, hy, hq, hr]
      have HBC0 := Lib.hid hbc
      clear hq hr hy hbc
      obtain ⟨k, hk⟩ : ∃ k, k = 255 - (m + 1) := ⟨_, rfl⟩
      rw [← hk] at hL
      have hk1 : 255 - m = k + 1 := by omega
      have hbt : 254 - k = m := by omega
      obtain ⟨cx, hcx⟩ : ∃ cx : Array Value, cx = #[.int .u64 (l0 (x) : Int), .int .u64 (l1 (x) : Int), .int .u64 (l2 (x) : Int), .int .u64 (l3 (x) : Int)] := ⟨_, rfl⟩
      obtain ⟨cl, hcl⟩ : ∃ cl : Array Value, cl = #[.int .u64 (l0 ((F k).1) : Int), .int .u64 (l1 ((F k).1) : Int), .int .u64 (l2 ((F k).1) : Int), .int .u64 (l3 ((F k).1) : Int), .int .u64 (l0 ((F k).2.1) : Int), .int .u64 (l1 ((F k).2.1) : Int), .int .u64 (l2 ((F k).2.1) : Int), .int .u64 (l3 ((F k).2.1) : Int)] := ⟨_, rfl⟩
      obtain ⟨ch, hch⟩ : ∃ ch : Array Value, ch = #[.int .u64 (l0 ((F k).2.2.1) : Int), .int .u64 (l1 ((F k).2.2.1) : Int), .int .u64 (l2 ((F k).2.2.1) : Int), .int .u64 (l3 ((F k).2.2.1) : Int), .int .u64 (l0 ((F k).2.2.2) : Int), .int .u64 (l1 ((F k).2.2.2) : Int), .int .u64 (l2 ((F k).2.2.2) : Int), .int .u64 (l3 ((F k).2.2.2) : Int)] := ⟨_, rfl⟩
      have hs4 := HF4.out k
      have t1 := hL.out.r1
      have t5 := hL.out.r5
      have t6 := hL.out.r6
      rw [← hcx] at t1
      rw [← hcl] at t5
      rw [← hch] at t6
      have T1 := Lib.hid t1; have T5 := Lib.hid t5; have T6 := Lib.hid t6; have HCL := Lib.hid hcl; have HCH := Lib.hid hch; have HCX := Lib.hid hcx
      have ix : Hid ((Try.prog.info? 26).map (·.size) = some cx.size) := Lib.hid (by rw [hcx]; kernel_rfl)
      have il : Hid ((Try.prog.info? 29).map (·.size) = some cl.size) := Lib.hid (by rw [hcl]; kernel_rfl)
      have ih : Hid ((Try.prog.info? 29).map (·.size) = some ch.size) := Lib.hid (by rw [hch]; kernel_rfl)
      have HK1 := Lib.hid hk1; have HBT := Lib.hid hbt; have HK := Lib.hid hk; have HS4 := Lib.hid hs4
      have hbits := and1_u8 ⟨y.toNat, y.toNat_lt⟩ ⟨r, hr8⟩
      simp only at hbits
      have HBI := Lib.hid hbits
      clear t1 t5 t6 hcx hcl hch hk hk1 hbt hbits hs4
      by_cases hb : bitC n m = true
      · have ht : (bits .and .u8 ((y.toNat : Int) / 2 ^ r) 1 == 1) = true := HBI.out.trans (HBC0.out.symm.trans hb)
        have HBC := Lib.hid hb
        clear hb
        obtain ⟨R, hR⟩ : ∃ R, R = rungN x (F k).2.2.1 (F k).2.2.2 (F k).1 (F k).2.1 := ⟨_, rfl⟩
        obtain ⟨c1, hc1⟩ : ∃ c1 : Array Value, c1 = #[.int .u64 (l0 ((R).1) : Int), .int .u64 (l1 ((R).1) : Int), .int .u64 (l2 ((R).1) : Int), .int .u64 (l3 ((R).1) : Int), .int .u64 (l0 ((R).2.1) : Int), .int .u64 (l1 ((R).2.1) : Int), .int .u64 (l2 ((R).2.1) : Int), .int .u64 (l3 ((R).2.1) : Int)] := ⟨_, rfl⟩
        obtain ⟨c2, hc2⟩ : ∃ c2 : Array Value, c2 = #[.int .u64 (l0 ((R).2.2.1) : Int), .int .u64 (l1 ((R).2.2.1) : Int), .int .u64 (l2 ((R).2.2.1) : Int), .int .u64 (l3 ((R).2.2.1) : Int), .int .u64 (l0 ((R).2.2.2) : Int), .int .u64 (l1 ((R).2.2.2) : Int), .int .u64 (l2 ((R).2.2.2) : Int), .int .u64 (l3 ((R).2.2.2) : Int)] := ⟨_, rfl⟩
        have C7 : Hid (∀ W, Calls Try.prog 71 #[.agg cx, .agg ch, .agg cl] W fun e w' => e = .returned (.tuple #[.agg c1, .agg c2]) ∧ Below W.heap.size W w') := Lib.hid (fun W => by rw [HCX.out, HCL.out, HCH.out, hc1, hc2, hR]; exact rung_any Zx.out HS4.out.c HS4.out.d HS4.out.a HS4.out.b W)
        have i1 : Hid ((Try.prog.info? 29).map (·.size) = some c1.size) := Lib.hid (by rw [hc1]; kernel_rfl)
        have i2 : Hid ((Try.prog.info? 29).map (·.size) = some c2.size) := Lib.hid (by rw [hc2]; kernel_rfl)
        have o1 : Hid (c1.all (·.oneCell') = true) := Lib.hid (by rw [hc1]; kernel_rfl)
        have o2 : Hid (c2.all (·.oneCell') = true) := Lib.hid (by rw [hc2]; kernel_rfl)
        have sz1 : Hid (ch.size = c1.size) := Lib.hid (by rw [HCH.out, hc1]; rfl)
        have sz2 : Hid (cl.size = c2.size) := Lib.hid (by rw [HCL.out, hc2]; rfl)
        have HC1 := Lib.hid hc1; have HC2 := Lib.hid hc2; have HRR := Lib.hid hR
        clear hc1 hc2 hR
        go_wp2_with (first | (with_reducible refine wpList_load_row rfl 26 (.tmp 3) rfl (w.heap.size + 1) rfl 26 cx (0, 0) _ T1.out Try.underlying26 rfl ix.out ?_) | (with_reducible refine wpList_load_row rfl 29 (.tmp 6) rfl (g6) rfl 29 ch (0, 0) _ T6.out Try.underlying29 rfl ih.out ?_) | (with_reducible refine wpList_load_row rfl 29 (.tmp 5) rfl (g5) rfl 29 cl (0, 0) _ T5.out Try.underlying29 rfl il.out ?_) | fail)
        with_reducible refine ((C7.out) _).mono ?_
        rintro e7 w7 ⟨rfl, hb7⟩
        have z5 := (hb7.block g5 (Array.getElem?_eq_some_iff.1 T5.out).1).trans T5.out
        have z6 := (hb7.block g6 (Array.getElem?_eq_some_iff.1 T6.out).1).trans T6.out
        have za := z6
        have zb : (w7.setRow g6 c1).heap[g5]? = some (.cells cl 29 (0, 0)) := (setRow_other w7 g6 g5 c1 (fun e => hL.out.ne e)).trans z5
        have ZA := Lib.hid za; have ZB := Lib.hid zb
        have hbe := hL.out.be.trans (hb7.mono hL.out.be.size)
        have HBE := Lib.hid hbe
        have q0 := (hb7.block w.heap.size (Array.getElem?_eq_some_iff.1 hL.out.r0).1).trans hL.out.r0
        have q1 := (hb7.block (w.heap.size + 1) (Array.getElem?_eq_some_iff.1 hL.out.r1).1).trans hL.out.r1
        have q2 := (hb7.block (w.heap.size + 1 + 1) (Array.getElem?_eq_some_iff.1 hL.out.r2).1).trans hL.out.r2
        have hFin : LadR w ((w7.setRow g6 c1).setRow g5 c2) us x F g5 g6 (255 - m) := by
          have l5 := hL.out.l5; have l6 := hL.out.l6
          have hstep : F (k + 1) = ((R).2.2.1, (R).2.2.2, (R).1, (R).2.1) := by
            rw [HFS.out k, HBT.out]
            unfold ladS
            rw [if_pos HBC.out, HRR.out]
          rw [HK1.out]
          refine ⟨(setRow_other _ _ _ _ (by omega)).trans ((setRow_other _ _ _ _ (by omega)).trans q0), (setRow_other _ _ _ _ (by omega)).trans ((setRow_other _ _ _ _ (by omega)).trans q1), (setRow_other _ _ _ _ (by omega)).trans ((setRow_other _ _ _ _ (by omega)).trans q2), ?_, ?_, hL.out.ne, l5, l6, set_below (set_below HBE.out (by omega) _) (by omega) _⟩
          · rw [hstep]
            refine (setRow_heap _ g5 _ c2 _ _ ZB.out).trans ?_
            rw [HC2.out]
          · rw [hstep]
            refine ((setRow_other _ _ _ _ (fun e => hL.out.ne e.symm)).trans (setRow_heap w7 g6 _ c1 _ _ ZA.out)).trans ?_
            rw [HC1.out]
        have HF := Lib.hid hFin
        clear hFin q0 q1 q2 hbe z5 z6 za zb hb7 C7
        go_wp2_with (first | (with_reducible refine wpList_store_row rfl 29 (.tmp 6) (.tmp 31) rfl (g6) c1 rfl rfl 29 _ ZA.out i1.out sz1.out o1.out ?_) | (with_reducible refine wpList_store_row rfl 29 (.tmp 5) (.tmp 32) rfl (g5) c2 rfl rfl 29 _ ZB.out i2.out sz2.out o2.out ?_) | fail)
        go_roundw
        case rel => exact ⟨m, by omega, rfl, HF⟩
        case measure => simp [intOf]
      · have ht : (bits .and .u8 ((y.toNat : Int) / 2 ^ r) 1 == 1) = false := HBI.out.trans (HBC0.out.symm.trans (by simpa using hb))
        have HBC := Lib.hid hb
        clear hb
        obtain ⟨R, hR⟩ : ∃ R, R = rungN x (F k).1 (F k).2.1 (F k).2.2.1 (F k).2.2.2 := ⟨_, rfl⟩
        obtain ⟨c1, hc1⟩ : ∃ c1 : Array Value, c1 = #[.int .u64 (l0 ((R).1) : Int), .int .u64 (l1 ((R).1) : Int), .int .u64 (l2 ((R).1) : Int), .int .u64 (l3 ((R).1) : Int), .int .u64 (l0 ((R).2.1) : Int), .int .u64 (l1 ((R).2.1) : Int), .int .u64 (l2 ((R).2.1) : Int), .int .u64 (l3 ((R).2.1) : Int)] := ⟨_, rfl⟩
        obtain ⟨c2, hc2⟩ : ∃ c2 : Array Value, c2 = #[.int .u64 (l0 ((R).2.2.1) : Int), .int .u64 (l1 ((R).2.2.1) : Int), .int .u64 (l2 ((R).2.2.1) : Int), .int .u64 (l3 ((R).2.2.1) : Int), .int .u64 (l0 ((R).2.2.2) : Int), .int .u64 (l1 ((R).2.2.2) : Int), .int .u64 (l2 ((R).2.2.2) : Int), .int .u64 (l3 ((R).2.2.2) : Int)] := ⟨_, rfl⟩
        have C7 : Hid (∀ W, Calls Try.prog 71 #[.agg cx, .agg cl, .agg ch] W fun e w' => e = .returned (.tuple #[.agg c1, .agg c2]) ∧ Below W.heap.size W w') := Lib.hid (fun W => by rw [HCX.out, HCL.out, HCH.out, hc1, hc2, hR]; exact rung_any Zx.out HS4.out.a HS4.out.b HS4.out.c HS4.out.d W)
        have i1 : Hid ((Try.prog.info? 29).map (·.size) = some c1.size) := Lib.hid (by rw [hc1]; kernel_rfl)
        have i2 : Hid ((Try.prog.info? 29).map (·.size) = some c2.size) := Lib.hid (by rw [hc2]; kernel_rfl)
        have o1 : Hid (c1.all (·.oneCell') = true) := Lib.hid (by rw [hc1]; kernel_rfl)
        have o2 : Hid (c2.all (·.oneCell') = true) := Lib.hid (by rw [hc2]; kernel_rfl)
        have sz1 : Hid (cl.size = c1.size) := Lib.hid (by rw [HCL.out, hc1]; rfl)
        have sz2 : Hid (ch.size = c2.size) := Lib.hid (by rw [HCH.out, hc2]; rfl)
        have HC1 := Lib.hid hc1; have HC2 := Lib.hid hc2; have HRR := Lib.hid hR
        clear hc1 hc2 hR
        go_wp2_with (first | (with_reducible refine wpList_load_row rfl 26 (.tmp 3) rfl (w.heap.size + 1) rfl 26 cx (0, 0) _ T1.out Try.underlying26 rfl ix.out ?_) | (with_reducible refine wpList_load_row rfl 29 (.tmp 6) rfl (g6) rfl 29 ch (0, 0) _ T6.out Try.underlying29 rfl ih.out ?_) | (with_reducible refine wpList_load_row rfl 29 (.tmp 5) rfl (g5) rfl 29 cl (0, 0) _ T5.out Try.underlying29 rfl il.out ?_) | fail)
        with_reducible refine ((C7.out) _).mono ?_
        rintro e7 w7 ⟨rfl, hb7⟩
        have z5 := (hb7.block g5 (Array.getElem?_eq_some_iff.1 T5.out).1).trans T5.out
        have z6 := (hb7.block g6 (Array.getElem?_eq_some_iff.1 T6.out).1).trans T6.out
        have za := z5
        have zb : (w7.setRow g5 c1).heap[g6]? = some (.cells ch 29 (0, 0)) := (setRow_other w7 g5 g6 c1 (fun e => hL.out.ne e.symm)).trans z6
        have ZA := Lib.hid za; have ZB := Lib.hid zb
        have hbe := hL.out.be.trans (hb7.mono hL.out.be.size)
        have HBE := Lib.hid hbe
        have q0 := (hb7.block w.heap.size (Array.getElem?_eq_some_iff.1 hL.out.r0).1).trans hL.out.r0
        have q1 := (hb7.block (w.heap.size + 1) (Array.getElem?_eq_some_iff.1 hL.out.r1).1).trans hL.out.r1
        have q2 := (hb7.block (w.heap.size + 1 + 1) (Array.getElem?_eq_some_iff.1 hL.out.r2).1).trans hL.out.r2
        have hFin : LadR w ((w7.setRow g5 c1).setRow g6 c2) us x F g5 g6 (255 - m) := by
          have l5 := hL.out.l5; have l6 := hL.out.l6
          have hstep : F (k + 1) = R := by
            rw [HFS.out k, HBT.out]
            unfold ladS
            rw [if_neg HBC.out, HRR.out]
          rw [HK1.out]
          refine ⟨(setRow_other _ _ _ _ (by omega)).trans ((setRow_other _ _ _ _ (by omega)).trans q0), (setRow_other _ _ _ _ (by omega)).trans ((setRow_other _ _ _ _ (by omega)).trans q1), (setRow_other _ _ _ _ (by omega)).trans ((setRow_other _ _ _ _ (by omega)).trans q2), ?_, ?_, hL.out.ne, l5, l6, set_below (set_below HBE.out (by omega) _) (by omega) _⟩
          · rw [hstep]
            refine ((setRow_other _ _ _ _ (fun e => hL.out.ne e)).trans (setRow_heap w7 g5 _ c1 _ _ ZA.out)).trans ?_
            rw [HC1.out]
          · rw [hstep]
            refine (setRow_heap _ g6 _ c2 _ _ ZB.out).trans ?_
            rw [HC2.out]
        have HF := Lib.hid hFin
        clear hFin q0 q1 q2 hbe z5 z6 za zb hb7 C7
        go_wp2_with (first | (with_reducible refine wpList_store_row rfl 29 (.tmp 5) (.tmp 38) rfl (g5) c1 rfl rfl 29 _ ZA.out i1.out sz1.out o1.out ?_) | (with_reducible refine wpList_store_row rfl 29 (.tmp 6) (.tmp 39) rfl (g6) c2 rfl rfl 29 _ ZB.out i2.out sz2.out o2.out ?_) | fail)
        go_roundw
        case rel => exact ⟨m, by omega, rfl, HF⟩
        case measure => simp [intOf]
end Go.Proofs.Ytgkglielcbgpiaa
