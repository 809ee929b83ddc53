/- The reference's clock: Set and Move. -/
import Derived.Test.YtlheekbbioajpabT6
namespace Go.Proofs.Ytlheekbbioajpab
open Go.RowKit

theorem tinfo : (Try.prog.info? 95).map (fun i => (i.zero, i.size, i.bytes)) = some (some (.agg #[.int .i64 0, .int .i64 0]), 2, 16) := by kernel_rfl

set_option maxRecDepth 100000 in
set_option maxHeartbeats 4000000 in
theorem rset_arg {w : World} {n c : Nat} {A : Option Addr} {now after what : Int} (h : after < 0 ∨ 1000000 < after) :
    Calls Try.prog 18 #[.agg #[.int .i64 now, .slice A n c], .int .i64 after, .int .i64 what] w fun e w' => e = .returned (.tuple #[.agg #[.int .i64 now, .slice A n c], .int .i64 1]) ∧ Below w.heap.size w w' := by
  by_cases h0 : after < 0
  · clear h
    go_enter Try.func18, Try.ntmps18
    go_wp2
    refine bodyPost_ret (v := .tuple #[.agg #[.int .i64 now, .slice A n c], .int .i64 1]) (by simp [results, Try.results18, go_sem]) rfl ⟨rfl, ?_⟩
    (repeat (first | (with_reducible exact Below.refl _ _) | (with_reducible exact HBE.out) | (with_reducible refine Below.drew ?_) | ((with_reducible refine Below.alloc ?_ ?_ _); rotate_left; (first | omega | (simp only [World.size_setCell]; omega) | (simp only [World.size_alloc]; omega) | (simp only [World.size_alloc, World.size_setCell]; omega) | (simp only [World.size_drew, World.size_alloc]; omega) | (simp only [World.size_drew]; omega))) | ((with_reducible refine set4_below ?_ ?_ _ _ _ _); rotate_left; omega) | ((with_reducible refine Below.setCell ?_ ?_ _); rotate_left; (show _ ≤ _); (simp only); omega)))
  · have h1 : 1000000 < after := by omega
    have hd : decide (after < 0) = false := by simpa using h0
    clear h
    go_enter Try.func18, Try.ntmps18
    go_wp2
    refine bodyPost_ret (v := .tuple #[.agg #[.int .i64 now, .slice A n c], .int .i64 1]) (by simp [results, Try.results18, go_sem]) rfl ⟨rfl, ?_⟩
    (repeat (first | (with_reducible exact Below.refl _ _) | (with_reducible exact HBE.out) | (with_reducible refine Below.drew ?_) | ((with_reducible refine Below.alloc ?_ ?_ _); rotate_left; (first | omega | (simp only [World.size_setCell]; omega) | (simp only [World.size_alloc]; omega) | (simp only [World.size_alloc, World.size_setCell]; omega) | (simp only [World.size_drew, World.size_alloc]; omega) | (simp only [World.size_drew]; omega))) | ((with_reducible refine set4_below ?_ ?_ _ _ _ _); rotate_left; omega) | ((with_reducible refine Below.setCell ?_ ?_ _); rotate_left; (show _ ≤ _); (simp only); omega)))
set_option maxRecDepth 100000 in
set_option maxHeartbeats 4000000 in
theorem rset_full {w : World} {n c : Nat} {A : Option Addr} {now after what : Int} (h0 : 0 ≤ after) (h1 : after ≤ 1000000) (hn : n = 64) :
    Calls Try.prog 18 #[.agg #[.int .i64 now, .slice A n c], .int .i64 after, .int .i64 what] w fun e w' => e = .returned (.tuple #[.agg #[.int .i64 now, .slice A n c], .int .i64 11]) ∧ Below w.heap.size w w' := by
  subst hn
  go_enter Try.func18, Try.ntmps18
  go_wp2
  refine bodyPost_ret (v := .tuple #[.agg #[.int .i64 now, .slice A 64 c], .int .i64 11]) (by simp [results, Try.results18, go_sem]) rfl ⟨rfl, ?_⟩
  (repeat (first | (with_reducible exact Below.refl _ _) | (with_reducible exact HBE.out) | (with_reducible refine Below.drew ?_) | ((with_reducible refine Below.alloc ?_ ?_ _); rotate_left; (first | omega | (simp only [World.size_setCell]; omega) | (simp only [World.size_alloc]; omega) | (simp only [World.size_alloc, World.size_setCell]; omega) | (simp only [World.size_drew, World.size_alloc]; omega) | (simp only [World.size_drew]; omega))) | ((with_reducible refine set4_below ?_ ?_ _ _ _ _); rotate_left; omega) | ((with_reducible refine Below.setCell ?_ ?_ _); rotate_left; (show _ ≤ _); (simp only); omega)))

/-- what a clock of the reference's is: its timers lie in blocks of which S holds -/
def SetRes (w : World) (now : Int) (ts : List (Int × Int)) (k : Int) (e : Ending) (w' : World) : Prop :=
  ∃ v, e = .returned (.tuple #[.agg #[.int .i64 now, v], .int .i64 k]) ∧ P2 w' (fun b => w.heap.size ≤ b) v (tv ts) ∧ Below w.heap.size w w'
theorem keep_block {w w' : World} {r : Option Nat} (hg : w.grownBy w' r) {b : Nat} {x : Obj} (h : w.heap[b]? = some x) (hr : r ≠ some b) : w'.heap[b]? = some x :=
  (hg.block b (Array.getElem?_eq_some_iff.1 h).1 (fun e => hr e.symm)).trans h
theorem alloc_block (w : World) (o : Obj) {b : Nat} {x : Obj} (h : w.heap[b]? = some x) : (w.alloc o).heap[b]? = some x := (heap_alloc_old w o (Array.getElem?_eq_some_iff.1 h).1).trans h
theorem two_cells {w : World} {b : Nat} {x y : Value} {T : TypeId} (h : w.heap[b]? = some (.cells #[x, y] T (0, 0))) : w.cell? ⟨b, 0, none⟩ = some x ∧ w.cell? ⟨b, 1, none⟩ = some y :=
  ⟨by rw [cell_of_row w b _ _ _ _ h]; rfl, by rw [cell_of_row w b _ _ _ _ h]; rfl⟩
theorem alloc_le1 (W : World) (o : Obj) : W.heap.size ≤ (W.alloc o).drew.heap.size := by simp
theorem alloc_le2 (W : World) (o o' : Obj) : W.heap.size ≤ ((W.alloc o).alloc o').drew.heap.size := by simp; omega
theorem alloc_le0 (W : World) (o : Obj) : W.heap.size ≤ (W.alloc o).heap.size := by simp
theorem P2.set {w : World} {S : Nat → Prop} {v : Value} {xs : List (Value × Value)} (h : P2 w S v xs) (g i : Nat) (x : Value) (hS : ∀ b, S b → b ≠ g) : P2 (w.setCell ⟨g, i, none⟩ x) S v xs :=
  h.grown (set_grew w g i x) (fun b hb e => hS b hb (Option.some.inj e).symm)
theorem own2_shape {w : World} {B : Nat} {e : TypeId} {v : Value} {xs : List (Value × Value)} (h : Own2 w B e v xs) : ∃ A n c, v = .slice A n c := by
  obtain ⟨A, c, hv⟩ := h.shape
  exact ⟨A, _, c, hv⟩
theorem cell_set_ne {w : World} {g i j : Nat} {x : Value} {v : Option Value} (h : w.cell? ⟨g, i, none⟩ = v) (hne : j ≠ i) : (w.setCell ⟨g, j, none⟩ x).cell? ⟨g, i, none⟩ = v :=
  (World.cell?_setCell_other _ _ _ _ (by intro e; simp only [Addr.mk.injEq] at e; exact hne e.2.1)).trans h
theorem own2_b (W : World) (o : Obj) (B : Nat) (e : TypeId) (hB : B ≤ W.heap.size) : Own2 ((W.alloc o).alloc (.cells #[] e)).drew B e (.slice (some ⟨W.heap.size + 1, 0, none⟩) 0 0) [] := by
  have h := Own2.empty (W.alloc o) B e (by simp; omega)
  rw [World.size_alloc] at h
  exact h
theorem below_set {B g : Nat} {w0 w : World} (h : Below B w0 w) (hg : B ≤ g) (i : Nat) (x : Value) : Below B w0 (w.setCell ⟨g, i, none⟩ x) := h.setCell hg x
theorem tsls : Try.prog.underlying 52 = some (.slice 95) := by kernel_rfl
set_option maxRecDepth 100000 in
set_option maxHeartbeats 4000000 in
theorem rset_ok {w : World} {S : Nat → Prop} {v : Value} {ts : List (Int × Int)} {now after what : Int} (hv : P2 w S v (tv ts)) (h0 : 0 ≤ after) (h1 : after ≤ 1000000) (hn : ts.length < 64) :
    Calls Try.prog 18 #[.agg #[.int .i64 now, v], .int .i64 after, .int .i64 what] w (SetRes w now (ts ++ [(wrap64 (now + after), what)]) 0) := by
  obtain ⟨A, c, rfl⟩ := hv.shape
  obtain ⟨n, hnn⟩ : ∃ n, n = (tv ts).length := ⟨_, rfl⟩
  rw [← hnn]
  have hn64 : n < 64 := by rw [hnn, tv_len]; exact hn
  have hd : decide ((64 : Int) ≤ (n : Int)) = false := by simp; omega
  rw [← hnn] at hv
  have HV := Lib.hid hv
  have HNN := Lib.hid hnn
  clear hv hnn hn
  go_enter Try.func18, Try.ntmps18
  go_wp2_with fail
  have hb2 : Below w.heap.size w ((w.alloc (.cells #[.int .i64 now, .slice A n c] 54)).alloc (.cells #[.int .i64 0, .slice none 0 0] 54)) := ((Below.refl _ _).alloc (Nat.le_refl _) _).alloc (by simp) _
  have hv2 := HV.out.below hb2 (Nat.le_refl _)
  have hk0 : ((w.alloc (.cells #[.int .i64 now, .slice A n c] 54)).alloc (.cells #[.int .i64 0, .slice none 0 0] 54)).heap[w.heap.size]? = some (.cells #[.int .i64 now, .slice A n c] 54 (0, 0)) := alloc_block _ _ (heap_alloc_new w _)
  have hk1 : ((w.alloc (.cells #[.int .i64 now, .slice A n c] 54)).alloc (.cells #[.int .i64 0, .slice none 0 0] 54)).heap[w.heap.size + 1]? = some (.cells #[.int .i64 0, .slice none 0 0] 54 (0, 0)) := by
    have := heap_alloc_new (w.alloc (.cells #[.int .i64 now, .slice A n c] 54)) (.cells #[.int .i64 0, .slice none 0 0] 54)
    simpa using this
  have hz2 : w.heap.size + 2 ≤ ((w.alloc (.cells #[.int .i64 now, .slice A n c] 54)).alloc (.cells #[.int .i64 0, .slice none 0 0] 54)).heap.size := by simp
  generalize hW : ((w.alloc (.cells #[.int .i64 now, .slice A n c] 54)).alloc (.cells #[.int .i64 0, .slice none 0 0] 54)) = W2 at *
  clear hW
  have HB2 := Lib.hid hb2; have HV2 := Lib.hid hv2; have HK0 := Lib.hid hk0; have HK1 := Lib.hid hk1
  obtain ⟨d0, d1⟩ := two_cells hk0
  obtain ⟨nx, hnx⟩ : ∃ nx, nx = wrap64 (now + after) := ⟨_, rfl⟩
  have hnx2 : IntKind.i64.wrap (now + after) = nx := by rw [hnx]; exact Go.IntWalk.i64_left _
  have hne0 := World.new_ne W2 _ d0
  have hne1 := World.new_ne W2 _ d1
  have HNX := Lib.hid hnx
  clear hnx hb2 hv2 hk0 hk1
  have e1 : ∀ o, (W2.alloc o).cell? ⟨w.heap.size, 1, none⟩ = some (.slice A n c) := fun o => (two_cells (alloc_block _ o HK0.out)).2
  have e2 : ∀ o o', ((W2.alloc o).alloc o').cell? ⟨w.heap.size, 1, none⟩ = some (.slice A n c) := fun o o' => (two_cells (alloc_block _ o' (alloc_block _ o HK0.out))).2
  have hpair : One2 [((.int .i64 nx : Value), (.int .i64 what : Value))] := by intro p hp; obtain rfl := List.mem_singleton.1 hp; exact ⟨rfl, rfl⟩
  have hlt0 : w.heap.size < W2.heap.size := by omega
  have hlt1 : w.heap.size + 1 < W2.heap.size := by omega
  have HLT0 := Lib.hid hlt0; have HLT1 := Lib.hid hlt1; have HLE := Lib.hid (Nat.le_of_lt hlt0)
  clear hlt0 hlt1
  have HPAIR := Lib.hid hpair; skip
  clear hpair
  have g1 : ∀ o, (W2.alloc o).cell? ⟨w.heap.size, 0, none⟩ = some (.int .i64 now) := fun o => (two_cells (alloc_block _ o HK0.out)).1
  have g2 : ∀ o o', ((W2.alloc o).alloc o').cell? ⟨w.heap.size, 0, none⟩ = some (.int .i64 now) := fun o o' => (two_cells (alloc_block _ o' (alloc_block _ o HK0.out))).1
  go_region_law (first
      | ((refine step_app2 (S := S) (B := W2.heap.size) (xs := []) (ms := tv ts) (t := 52) (e := 95) (z := .agg #[.int .i64 0, .int .i64 0]) rfl (.tmp 20) (.tmp 22) rfl tsls tinfo rfl rfl ?_ rfl ?_ (tv_one ts) ?_ ?_ ?_);
         (focus (first | (exact (Own2.empty W2.drew W2.heap.size 95 (Nat.le_refl _))) | (exact (Own2.empty W2.drew W2.heap.size 95 (Nat.le_refl _)).alloc _) | (exact own2_b W2 _ _ _ (Nat.le_refl _))));
         (focus (repeat (first | exact HV2.out | refine P2.al ?_ _ | refine P2.dr ?_)));
         (focus (have := HNN.out; simp only [List.length_nil]; omega)); (focus (simp; try omega));
         intro v3 w3 hown3 hg3 hb3;
         have hgg := grew_trans (drew_grew1 _ _) hg3;
         (first
           | (have a0 := (hb3.block w.heap.size HLT0.out).trans (alloc_block W2 _ HK0.out); have a1 := (hb3.block (w.heap.size + 1) HLT1.out).trans (alloc_block W2 _ HK1.out); have hpr := Lib.hid trivial; have hz3 := Nat.le_trans (alloc_le1 W2 _) hb3.size; have HBA := Lib.hid (((HB2.out.alloc HLE.out _).drew).trans (hb3.mono HLE.out)))
           | (have a0 := (hb3.block w.heap.size HLT0.out).trans (alloc_block (W2.alloc _) _ (alloc_block W2 _ HK0.out)); have a1 := (hb3.block (w.heap.size + 1) HLT1.out).trans (alloc_block (W2.alloc _) _ (alloc_block W2 _ HK1.out)); have hz3 := Nat.le_trans (alloc_le2 W2 _ _) hb3.size; have HBA := Lib.hid ((((HB2.out.alloc HLE.out _).alloc (Nat.le_trans HLE.out (alloc_le0 W2 _)) _).drew).trans (hb3.mono HLE.out));
              (first | have hpr := Lib.hid (pair_b hgg) | have hpr := Lib.hid (pair_c hgg))));
         obtain ⟨m0, m1⟩ := two_cells a0;
         have hne3 := World.new_ne w3 _ m0; have A0 := Lib.hid a0; have A1 := Lib.hid a1; have O3 := Lib.hid hown3; have HB3 := Lib.hid hb3; 
         clear hg3 hown3 hgg hb3 a0 a1)
      | ((refine step_app2 (S := fun _ => True) (B := W2.heap.size) (xs := tv ts) (ms := [((.int .i64 nx : Value), (.int .i64 what : Value))]) (t := 52) (e := 95) (z := .agg #[.int .i64 0, .int .i64 0]) rfl (.tmp 23) (.tmp 30) rfl tsls tinfo rfl rfl ?_ rfl ?_ HPAIR.out ?_ ?_ ?_);
         (focus (first | exact O3.out | exact O3.out.alloc _));
         (focus (first | exact hpr.out.mono (fun _ _ => trivial) | exact (P2.one w3 _ _ _).mono (fun _ _ => trivial)));
         (focus (have := HNN.out; simp only [List.length_cons, List.length_nil]; omega)); (focus ((try simp); omega));
         intro v4 w4 hown4 hg4 hb4;
         (first
           | (have c0 := (hb4.block w.heap.size HLT0.out).trans A0.out; have c1 := (hb4.block (w.heap.size + 1) HLT1.out).trans A1.out; have HBB := Lib.hid (HBA.out.trans (hb4.mono HLE.out)); have hz4 := hb4.size)
           | (have c0 := (hb4.block w.heap.size HLT0.out).trans (alloc_block w3 _ A0.out); have c1 := (hb4.block (w.heap.size + 1) HLT1.out).trans (alloc_block w3 _ A1.out); have HBB := Lib.hid ((HBA.out.alloc HBA.out.size _).trans (hb4.mono HLE.out)); have hz4 := Nat.le_trans (alloc_le0 w3 _) hb4.size));
         obtain ⟨q0, q1⟩ := two_cells c0; obtain ⟨q2, q3⟩ := two_cells c1; have fq1 := frozen_of_row w4 w.heap.size 1 _ _ c0; have fq2 := frozen_of_row w4 (w.heap.size + 1) 0 _ _ c1; have fq3 := frozen_of_row w4 (w.heap.size + 1) 1 _ _ c1; 
         have O4 := Lib.hid hown4; obtain ⟨A4, n4, c4, rfl⟩ := own2_shape hown4; clear hown4 hg4 hb4 c0 c1)
      | fail)
  all_goals
    have hp4 := ((O4.out.p2.set w.heap.size 1 (.slice A4 n4 c4) (fun b hb e => by omega)).set (w.heap.size + 1) 0 (.int .i64 now) (fun b hb e => by omega)).set (w.heap.size + 1) 1 (.slice A4 n4 c4) (fun b hb e => by omega)
    have HP4 := Lib.hid hp4
    have y0 := cell_set_ne (j := 1) (x := .slice A4 n4 c4) q0 (by decide)
    have y1 : (w4.setCell ⟨w.heap.size, 1, none⟩ (.slice A4 n4 c4)).cell? ⟨w.heap.size, 1, none⟩ = some (.slice A4 n4 c4) := World.cell?_setCell_same' _ _ _ (by rw [q1]; rfl)
    have y2 : (w4.setCell ⟨w.heap.size, 1, none⟩ (.slice A4 n4 c4)).cell? ⟨w.heap.size + 1, 0, none⟩ = some (.int .i64 0) := (World.cell?_setCell_far _ _ _ _ (by simp)).trans q2
    have y3 : (w4.setCell ⟨w.heap.size, 1, none⟩ (.slice A4 n4 c4)).cell? ⟨w.heap.size + 1, 1, none⟩ = some (.slice none 0 0) := (World.cell?_setCell_far _ _ _ _ (by simp)).trans q3
    have y4 : (w4.setCell ⟨w.heap.size, 1, none⟩ (.slice A4 n4 c4)).frozen? ⟨w.heap.size + 1, 0, none⟩ = false := by rw [World.frozen?_setCell]; exact fq2
    have y5 : (w4.setCell ⟨w.heap.size, 1, none⟩ (.slice A4 n4 c4)).frozen? ⟨w.heap.size + 1, 1, none⟩ = false := by rw [World.frozen?_setCell]; exact fq3
    have HBF := Lib.hid (below_set (below_set (below_set HBB.out (Nat.le_refl _) 1 (.slice A4 n4 c4)) (Nat.le_succ _) 0 (.int .i64 now)) (Nat.le_succ _) 1 (.slice A4 n4 c4))
    clear hp4 q0 q1 q2 q3 m0 m1 fq1 fq2 fq3 e1 e2 g1 g2 d0 d1
    generalize w4.setCell ⟨w.heap.size, 1, none⟩ (.slice A4 n4 c4) = X1 at *
    go_wp2
    refine bodyPost_ret (v := .tuple #[.agg #[.int .i64 now, .slice A4 n4 c4], .int .i64 0]) (by simp [results, Try.results18, go_sem, *]) rfl ⟨_, rfl, ?_, HBF.out⟩
    rw [tv_snoc, ← HNX.out]
    exact HP4.out.mono (fun b hb => Nat.le_trans HLE.out hb)
set_option maxRecDepth 100000 in
set_option maxHeartbeats 4000000 in
theorem rmove_arg {w : World} {n c : Nat} {A : Option Addr} {now to : Int} (h : to < now ∨ 1099511627776 < to) :
    Calls Try.prog 22 #[.agg #[.int .i64 now, .slice A n c], .int .i64 to] w fun e w' => e = .returned (.tuple #[.agg #[.int .i64 now, .slice A n c], .int .i64 1]) ∧ Below w.heap.size w w' := by
  by_cases h0 : to < now
  · clear h
    go_enter Try.func22, Try.ntmps22
    go_wp2
    refine bodyPost_ret (v := .tuple #[.agg #[.int .i64 now, .slice A n c], .int .i64 1]) (by simp [results, Try.results22, go_sem]) rfl ⟨rfl, ?_⟩
    (repeat (first | (with_reducible exact Below.refl _ _) | (with_reducible exact HBE.out) | (with_reducible refine Below.drew ?_) | ((with_reducible refine Below.alloc ?_ ?_ _); rotate_left; (first | omega | (simp only [World.size_setCell]; omega) | (simp only [World.size_alloc]; omega) | (simp only [World.size_alloc, World.size_setCell]; omega) | (simp only [World.size_drew, World.size_alloc]; omega) | (simp only [World.size_drew]; omega))) | ((with_reducible refine set4_below ?_ ?_ _ _ _ _); rotate_left; omega) | ((with_reducible refine Below.setCell ?_ ?_ _); rotate_left; (show _ ≤ _); (simp only); omega)))
  · have h1 : 1099511627776 < to := by omega
    have hd : decide (to < now) = false := by simpa using h0
    clear h
    go_enter Try.func22, Try.ntmps22
    go_wp2
    refine bodyPost_ret (v := .tuple #[.agg #[.int .i64 now, .slice A n c], .int .i64 1]) (by simp [results, Try.results22, go_sem]) rfl ⟨rfl, ?_⟩
    (repeat (first | (with_reducible exact Below.refl _ _) | (with_reducible exact HBE.out) | (with_reducible refine Below.drew ?_) | ((with_reducible refine Below.alloc ?_ ?_ _); rotate_left; (first | omega | (simp only [World.size_setCell]; omega) | (simp only [World.size_alloc]; omega) | (simp only [World.size_alloc, World.size_setCell]; omega) | (simp only [World.size_drew, World.size_alloc]; omega) | (simp only [World.size_drew]; omega))) | ((with_reducible refine set4_below ?_ ?_ _ _ _ _); rotate_left; omega) | ((with_reducible refine Below.setCell ?_ ?_ _); rotate_left; (show _ ≤ _); (simp only); omega)))
set_option maxRecDepth 100000 in
set_option maxHeartbeats 4000000 in
theorem rmove_ok {w : World} {n c : Nat} {A : Option Addr} {now to : Int} (h0 : now ≤ to) (h1 : to ≤ 1099511627776) :
    Calls Try.prog 22 #[.agg #[.int .i64 now, .slice A n c], .int .i64 to] w fun e w' => e = .returned (.tuple #[.agg #[.int .i64 to, .slice A n c], .int .i64 0]) ∧ Below w.heap.size w w' := by
  have hd : decide (to < now) = false := by simpa using h0
  go_enter Try.func22, Try.ntmps22
  go_wp2
  refine bodyPost_ret (v := .tuple #[.agg #[.int .i64 to, .slice A n c], .int .i64 0]) (by simp [results, Try.results22, go_sem]) rfl ⟨rfl, ?_⟩
  (repeat (first | (with_reducible exact Below.refl _ _) | (with_reducible exact HBE.out) | (with_reducible refine Below.drew ?_) | ((with_reducible refine Below.alloc ?_ ?_ _); rotate_left; (first | omega | (simp only [World.size_setCell]; omega) | (simp only [World.size_alloc]; omega) | (simp only [World.size_alloc, World.size_setCell]; omega) | (simp only [World.size_drew, World.size_alloc]; omega) | (simp only [World.size_drew]; omega))) | ((with_reducible refine set4_below ?_ ?_ _ _ _ _); rotate_left; omega) | ((with_reducible refine Below.setCell ?_ ?_ _); rotate_left; (show _ ≤ _); (simp only); omega)))
end Go.Proofs.Ytlheekbbioajpab
