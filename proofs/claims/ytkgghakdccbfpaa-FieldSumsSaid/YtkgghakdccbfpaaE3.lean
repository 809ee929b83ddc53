/- FieldSums, walked. -/
import Derived.Test.YtkgghakdccbfpaaE2
import Derived.Test.YtkgghakdccbfpaaL3
namespace Go.Proofs.Ytkgghakdccbfpaa
open Go.RowKit

theorem neq_0 (w : World) : (binOp .neq 32 (.agg #[.int .u64 (l0 (0) : Int), .int .u64 (l1 (0) : Int), .int .u64 (l2 (0) : Int), .int .u64 (l3 (0) : Int)]) (.agg #[.int .u64 0, .int .u64 0, .int .u64 0, .int .u64 0])).run Try.prog w = .ok (.bool false) w := run_neqE (V := 0) (U := 0) (by decide) (by decide) w
theorem neq_1 (w : World) : (binOp .neq 32 (.agg #[.int .u64 (l0 (1) : Int), .int .u64 (l1 (1) : Int), .int .u64 (l2 (1) : Int), .int .u64 (l3 (1) : Int)]) (.agg #[.int .u64 1, .int .u64 0, .int .u64 0, .int .u64 0])).run Try.prog w = .ok (.bool false) w := run_neqE (V := 1) (U := 1) (by decide) (by decide) w
theorem es_nil (w : World) : Es w w.heap.size (.slice none 0 0) [] := ⟨none, 0, rfl, Nat.le_refl _, Nat.zero_le _, fun h => absurd h (by simp)⟩
theorem sum0 (w : World) : Calls Try.prog 31 #[.slice none 0 0] w fun e w' => e = .returned (.agg #[.int .u64 (l0 (0) : Int), .int .u64 (l1 (0) : Int), .int .u64 (l2 (0) : Int), .int .u64 (l3 (0) : Int)]) ∧ Below w.heap.size w w' := sumE (es_nil w)
theorem prod0 (w : World) : Calls Try.prog 32 #[.slice none 0 0] w fun e w' => e = .returned (.agg #[.int .u64 (l0 (1) : Int), .int .u64 (l1 (1) : Int), .int .u64 (l2 (1) : Int), .int .u64 (l3 (1) : Int)]) ∧ Below w.heap.size w w' := by
  have h := prodE (es_nil w)
  rw [show prodP [] = 1 by decide] at h
  exact h
theorem prodP_lt (xs : List Nat) : prodP xs < PP := by
  unfold prodP
  rw [← List.foldr_reverse]
  cases xs.reverse with
  | nil => exact (by decide : 1 % PP < PP)
  | cons x xs => exact Nat.mod_lt _ (by decide)
theorem prodP_snoc (xs : List Nat) (x : Nat) : prodP (xs ++ [x]) = mulP (prodP xs) x := by simp [prodP]
/-- the two numbers that are summed up -/
structure SumI (w : World) (g3 g4 S P : Nat) (wx : World) : Prop where
  be : Below w.heap.size w wx
  s : E8 wx g3 S
  p : E8 wx g4 P
  lt3 : g3 < wx.heap.size
  lt4 : g4 < wx.heap.size
theorem SumI.below {w w' wx : World} {g3 g4 S P : Nat} (h : SumI w g3 g4 S P wx) (hb : Below wx.heap.size wx w') : SumI w g3 g4 S P w' :=
  ⟨h.be.trans (hb.mono h.be.size), h.s.below hb h.lt3, h.p.below hb h.lt4, by have := hb.size; have := h.lt3; omega, by have := hb.size; have := h.lt4; omega⟩

theorem Ec.far8 {w : World} {g h V : Nat} (k : Ec w h V) (hn : h ≠ g) (U : Nat) : Ec (((((((((w).setCell ⟨g, 0, none⟩ (.int .u32 (dig (U) 0 : Int))).setCell ⟨g, 1, none⟩ (.int .u32 (dig (U) 1 : Int))).setCell ⟨g, 2, none⟩ (.int .u32 (dig (U) 2 : Int))).setCell ⟨g, 3, none⟩ (.int .u32 (dig (U) 3 : Int))).setCell ⟨g, 4, none⟩ (.int .u32 (dig (U) 4 : Int))).setCell ⟨g, 5, none⟩ (.int .u32 (dig (U) 5 : Int))).setCell ⟨g, 6, none⟩ (.int .u32 (dig (U) 6 : Int))).setCell ⟨g, 7, none⟩ (.int .u32 (dig (U) 7 : Int))) h V :=
  ⟨(set8_cell hn U).trans k.c0, (set8_cell hn U).trans k.c1, (set8_cell hn U).trans k.c2, (set8_cell hn U).trans k.c3,
   (set8_frozen U).trans k.f0, (set8_frozen U).trans k.f1, (set8_frozen U).trans k.f2, (set8_frozen U).trans k.f3⟩
theorem SumI.set3 {w wx : World} {g3 g4 S P : Nat} (h : SumI w g3 g4 S P wx) (hn : g3 ≠ g4) (hg : w.heap.size ≤ g3) (U : Nat) : SumI w g3 g4 U P (((((((((wx).setCell ⟨g3, 0, none⟩ (.int .u32 (dig (U) 0 : Int))).setCell ⟨g3, 1, none⟩ (.int .u32 (dig (U) 1 : Int))).setCell ⟨g3, 2, none⟩ (.int .u32 (dig (U) 2 : Int))).setCell ⟨g3, 3, none⟩ (.int .u32 (dig (U) 3 : Int))).setCell ⟨g3, 4, none⟩ (.int .u32 (dig (U) 4 : Int))).setCell ⟨g3, 5, none⟩ (.int .u32 (dig (U) 5 : Int))).setCell ⟨g3, 6, none⟩ (.int .u32 (dig (U) 6 : Int))).setCell ⟨g3, 7, none⟩ (.int .u32 (dig (U) 7 : Int))) :=
  ⟨set8_below h.be hg U, set8_set h.s U, h.p.far (fun e => hn e.symm) U, by have := h.lt3; simpa using this, by have := h.lt4; simpa using this⟩
theorem SumI.set4 {w wx : World} {g3 g4 S P : Nat} (h : SumI w g3 g4 S P wx) (hn : g3 ≠ g4) (hg : w.heap.size ≤ g4) (U : Nat) : SumI w g3 g4 S U (((((((((wx).setCell ⟨g4, 0, none⟩ (.int .u32 (dig (U) 0 : Int))).setCell ⟨g4, 1, none⟩ (.int .u32 (dig (U) 1 : Int))).setCell ⟨g4, 2, none⟩ (.int .u32 (dig (U) 2 : Int))).setCell ⟨g4, 3, none⟩ (.int .u32 (dig (U) 3 : Int))).setCell ⟨g4, 4, none⟩ (.int .u32 (dig (U) 4 : Int))).setCell ⟨g4, 5, none⟩ (.int .u32 (dig (U) 5 : Int))).setCell ⟨g4, 6, none⟩ (.int .u32 (dig (U) 6 : Int))).setCell ⟨g4, 7, none⟩ (.int .u32 (dig (U) 7 : Int))) :=
  ⟨set8_below h.be hg U, h.s.far hn U, set8_set h.p U, by have := h.lt3; simpa using this, by have := h.lt4; simpa using this⟩
theorem SumI.drew {w wx : World} {g3 g4 S P : Nat} (h : SumI w g3 g4 S P wx) : SumI w g3 g4 S P wx.drew :=
  ⟨h.be.drew, h.s.drew, h.p.drew, h.lt3, h.lt4⟩

set_option maxRecDepth 100000 in
set_option maxHeartbeats 4000000 in
theorem sums_walk {xs : List Nat} {v : Value} {w : World} (he : Es w w.heap.size v xs) (hn : xs.length ≤ 4398046511103) : Calls Try.prog 5 #[v] w fun e w' => e = .returned (.bool true) ∧ Below w.heap.size w w' := by
  have CA := Lib.hid (fun W => awakeE W)
  have CS0 := Lib.hid (fun W => sum0 W)
  have CP0 := Lib.hid (fun W => prod0 W)
  have HES := Lib.hid he
  have q0 := fun W => neq_0 W
  have q1 := fun W => neq_1 W
  obtain ⟨A, c, rfl, hlen, hcm, hcs⟩ := he
  unfold maxLen at hcm
  have HCS := Lib.hid hcs
  clear hcs
  go_enter Try.func5, Try.ntmps5
  go_wp2_with fail
  with_reducible refine (CA.out _).mono ?_
  rintro e1 w1 ⟨rfl, hb1⟩
  have HBE := Lib.hid hb1
  clear hb1
  go_wp2_with fail
  with_reducible refine (CS0.out _).mono ?_
  rintro e2 w2 ⟨rfl, hb2⟩
  have hbe := HBE.out.trans (hb2.mono HBE.out.size)
  have HBE := Lib.hid hbe
  clear hb2 hbe
  go_wp2_with fail
  with_reducible refine (CP0.out _).mono ?_
  rintro e3 w3 ⟨rfl, hb3⟩
  have hbe := HBE.out.trans (hb3.mono HBE.out.size)
  have HBE := Lib.hid hbe
  clear hb3 hbe CA CS0 CP0
  go_wp2_with fail
  have a3 : E8 ((w3.alloc (.cells #[.int .u32 0, .int .u32 0, .int .u32 0, .int .u32 0, .int .u32 0, .int .u32 0, .int .u32 0, .int .u32 0] 28)).alloc (.cells #[.int .u32 1, .int .u32 0, .int .u32 0, .int .u32 0, .int .u32 0, .int .u32 0, .int .u32 0, .int .u32 0] 28)) w3.heap.size 0 := by
    have h : E8 (w3.alloc (.cells #[.int .u32 0, .int .u32 0, .int .u32 0, .int .u32 0, .int .u32 0, .int .u32 0, .int .u32 0, .int .u32 0] 28)) w3.heap.size 0 := E8.new w3 0
    exact h.alloc _ (by simp)
  have a4 : E8 ((w3.alloc (.cells #[.int .u32 0, .int .u32 0, .int .u32 0, .int .u32 0, .int .u32 0, .int .u32 0, .int .u32 0, .int .u32 0] 28)).alloc (.cells #[.int .u32 1, .int .u32 0, .int .u32 0, .int .u32 0, .int .u32 0, .int .u32 0, .int .u32 0, .int .u32 0] 28)) (w3.heap.size + 1) 1 := by
    have h := E8.new (w3.alloc (.cells #[.int .u32 0, .int .u32 0, .int .u32 0, .int .u32 0, .int .u32 0, .int .u32 0, .int .u32 0, .int .u32 0] 28)) 1
    simp only [World.size_alloc] at h
    exact h
  have hz3 := HBE.out.size
  have hbe := (HBE.out.alloc hz3 (.cells #[.int .u32 0, .int .u32 0, .int .u32 0, .int .u32 0, .int .u32 0, .int .u32 0, .int .u32 0, .int .u32 0] 28)).alloc (by simp only [World.size_alloc]; omega) (.cells #[.int .u32 1, .int .u32 0, .int .u32 0, .int .u32 0, .int .u32 0, .int .u32 0, .int .u32 0, .int .u32 0] 28)
  have HI := Lib.hid (SumI.mk hbe a3 a4 (by simp; omega) (by simp))
  obtain ⟨X, hX⟩ : ∃ X, X = (w3.alloc (.cells #[.int .u32 0, .int .u32 0, .int .u32 0, .int .u32 0, .int .u32 0, .int .u32 0, .int .u32 0, .int .u32 0] 28)).alloc (.cells #[.int .u32 1, .int .u32 0, .int .u32 0, .int .u32 0, .int .u32 0, .int .u32 0, .int .u32 0, .int .u32 0] 28) := ⟨_, rfl⟩
  obtain ⟨g3, hg3⟩ : ∃ g3, g3 = w3.heap.size := ⟨_, rfl⟩
  obtain ⟨g4, hg4⟩ : ∃ g4, g4 = w3.heap.size + 1 := ⟨_, rfl⟩
  rw [← hX, ← hg4, ← hg3] at HI
  rw [← hX, ← hg4, ← hg3]
  have hgw : w.heap.size ≤ g3 := by omega
  have hgw4 : w.heap.size ≤ g4 := by omega
  have h34 : g3 ≠ g4 := by omega
  clear hX hg3 hg4 a3 a4 hbe hz3 HBE q0 q1
  have CM := Lib.hid (fun V U => fun (h : V < W4) (k : U < W4) W => rmulE h k W)
  have CD := Lib.hid (fun V U => fun (h : V < W4) (k : U < W4) W => raddE h k W)
  have CF := Lib.hid (fun V W => fromN V W)
  go_loopw [23] (fun i wr => ∃ k : Nat, k ≤ xs.length ∧ i = .int .i64 k ∧ Hid (SumI w g3 g4 (sumP (xs.take k)) (prodP (xs.take k)) wr)) (fun i _ => xs.length - (intOf i).toNat)
  case atStart => exact ⟨0, Nat.zero_le _, rfl, by simpa [sumP, prodP, show 1 % PP = 1 by decide] using HI⟩
  case round =>
    clear HI
    obtain ⟨k, hk, rfl, hi⟩ := hrel
    by_cases hlt : k < xs.length
    · obtain ⟨b, off, rfl, hb, hcell⟩ := HCS.out (by omega)
      obtain ⟨hx4, hcell⟩ := hcell k hlt
      have hl := limbs_of xs[k]
      have e0 : wr.cell? ⟨b, off + k * 4, none⟩ = some (.int .u64 (l0 xs[k] : Int)) := (hi.out.be.cell (p := ⟨b, off + k * 4, none⟩) hb).trans (by rw [← hl.1]; exact hcell 0 (by omega))
      have e1 : wr.cell? ⟨b, off + k * 4 + 1, none⟩ = some (.int .u64 (l1 xs[k] : Int)) := (hi.out.be.cell (p := ⟨b, off + k * 4 + 1, none⟩) hb).trans (by rw [← hl.2.1]; exact hcell 1 (by omega))
      have e2 : wr.cell? ⟨b, off + k * 4 + 2, none⟩ = some (.int .u64 (l2 xs[k] : Int)) := (hi.out.be.cell (p := ⟨b, off + k * 4 + 2, none⟩) hb).trans (by rw [← hl.2.2.1]; exact hcell 2 (by omega))
      have e3 : wr.cell? ⟨b, off + k * 4 + 3, none⟩ = some (.int .u64 (l3 xs[k] : Int)) := (hi.out.be.cell (p := ⟨b, off + k * 4 + 3, none⟩) hb).trans (by rw [← hl.2.2.2]; exact hcell 3 (by omega))
      have htk : xs.take (k + 1) = xs.take k ++ [xs[k]] := List.take_succ_eq_append_getElem hlt
      obtain ⟨x, hx⟩ : ∃ x, x = xs[k] := ⟨_, rfl⟩
      obtain ⟨S, hS⟩ : ∃ S, S = sumP (xs.take k) := ⟨_, rfl⟩
      obtain ⟨P, hP⟩ : ∃ P, P = prodP (xs.take k) := ⟨_, rfl⟩
      rw [← hx] at e0 e1 e2 e3 hx4 htk
      have hS4 : S < W4 := by rw [hS]; exact Nat.lt_trans (sumP_lt _) PP_lt
      have hP4 : P < W4 := by rw [hP]; exact Nat.lt_trans (prodP_lt _) PP_lt
      have hS1 : (S + x) % PP = sumP (xs.take (k + 1)) := by rw [htk, sumP_snoc, hS]; rfl
      have hP1 : (P * x) % PP = prodP (xs.take (k + 1)) := by rw [htk, prodP_snoc, hP]; rfl
      rw [← hS, ← hP] at hi
      have C1 := Lib.hid (CD.out S x hS4 hx4)
      have C2 := Lib.hid (CM.out P x hP4 hx4)
      have C0 := Lib.hid (CF.out x)
      rw [hS1] at C1
      rw [hP1] at C2
      obtain ⟨S1, hS1'⟩ : ∃ S1, S1 = sumP (xs.take (k + 1)) := ⟨_, rfl⟩
      obtain ⟨P1, hP1'⟩ : ∃ P1, P1 = prodP (xs.take (k + 1)) := ⟨_, rfl⟩
      rw [← hS1'] at C1
      rw [← hP1'] at C2
      have HS1 := Lib.hid hS1'; have HP1 := Lib.hid hP1'
      have k0 : (0 : Int) ≤ (k : Int) := Int.natCast_nonneg _
      have kn : (k : Int) < (xs.length : Int) := by omega
      have hal : Below wr.heap.size wr (wr.alloc (.cells #[.int .u64 (l0 (x) : Int), .int .u64 (l1 (x) : Int), .int .u64 (l2 (x) : Int), .int .u64 (l3 (x) : Int)] 24)) := (Below.refl _ _).alloc (Nat.le_refl _) _
      have HI2 := Lib.hid (hi.out.below hal)
      have HG6 := Lib.hid (Ec.newT wr 24 x)
      have hne3 := hi.out.lt3
      have hne4 := hi.out.lt4
      have zX : (wr.alloc (.cells #[.int .u64 (l0 (x) : Int), .int .u64 (l1 (x) : Int), .int .u64 (l2 (x) : Int), .int .u64 (l3 (x) : Int)] 24)).heap.size = wr.heap.size + 1 := by simp
      clear hcell hl hx hS hP hx4 htk hS4 hP4 hS1 hP1 hS1' hP1' CD CM CF hi hal
      go_wp2_with fail
      clear e0 e1 e2 e3
      obtain ⟨Y, hY⟩ : ∃ Y, Y = wr.alloc (.cells #[.int .u64 (l0 (x) : Int), .int .u64 (l1 (x) : Int), .int .u64 (l2 (x) : Int), .int .u64 (l3 (x) : Int)] 24) := ⟨_, rfl⟩
      obtain ⟨g6, hg6⟩ : ∃ g6, g6 = wr.heap.size := ⟨_, rfl⟩
      rw [← hY] at HI2 HG6 zX ⊢
      rw [← hg6] at HG6 zX hne3 hne4 ⊢
      clear hY hg6
      have y6 : g6 < Y.heap.size := by omega
      clear zX
      go_cut [] (fun wx => SumI w g3 g4 S1 P wx ∧ Ec wx g6 x ∧ g6 < wx.heap.size)
      case first =>
        obtain ⟨c0, c1, c2, c3, c4, c5, c6, c7, f0, f1, f2, f3, f4, f5, f6, f7⟩ := HI2.out.s
        obtain ⟨d0, d1, d2, d3, _, _, _, _⟩ := HG6.out
        have y3 := HI2.out.lt3
        have HBE := Lib.hid HI2.out.be
        have HBR := Lib.hid (Below.refl Y.heap.size Y)
        go_region_with (first
          | ((with_reducible refine (C0.out _).mono ?_); rintro e' w' ⟨rfl, hb⟩; obtain ⟨hc, hf⟩ := bcell hb; (try simp only [World.size_drew] at hc hf); have zz := hb.size; (try simp only [World.size_drew] at zz); (try simp only [World.size_alloc] at zz); (first | (have zt := Nat.lt_of_lt_of_le zt zz) | (have zt := Nat.lt_of_lt_of_le zs zz) | skip); (try have zs := Nat.lt_of_succ_le zz); skip; have x0 : w.heap.size < w'.heap.size + 1 := (by omega); have x1 : w.heap.size < w'.heap.size + 1 + 1 := (by omega); have yg3 : g3 < w'.heap.size := (by omega); have yg6 : g6 < w'.heap.size := (by omega); have hB0 : Below w.heap.size w w' := (by refine Below.trans ?_ (hb.mono (by first | omega | (simp only [World.size_alloc]; omega) | (simp only [World.size_drew, World.size_alloc]; omega) | (simp only [World.size_drew]; omega))); (repeat (first | (with_reducible exact Below.refl _ _) | (with_reducible exact HBE.out) | (with_reducible refine Below.drew ?_) | ((with_reducible refine Below.alloc ?_ ?_ _); rotate_left; (first | omega | (simp only [World.size_setCell]; omega) | (simp only [World.size_alloc, World.size_setCell]; omega) | (simp only [World.size_alloc]; omega) | (simp only [World.size_drew, World.size_alloc]; omega) | (simp only [World.size_drew]; omega))) | ((with_reducible refine set4_below ?_ ?_ _ _ _ _); rotate_left; omega) | ((with_reducible refine Below.setCell ?_ ?_ _); rotate_left; (show _ ≤ _); (simp only); omega)))); have HBE := Lib.hid hB0; clear hB0; have yr : Y.heap.size ≤ w'.heap.size := (by omega); have hB1 : Below Y.heap.size Y w' := (by refine Below.trans ?_ (hb.mono (by first | omega | (simp only [World.size_alloc]; omega) | (simp only [World.size_drew, World.size_alloc]; omega) | (simp only [World.size_drew]; omega))); (repeat (first | (with_reducible exact Below.refl _ _) | (with_reducible exact HBR.out) | (with_reducible refine Below.drew ?_) | ((with_reducible refine Below.alloc ?_ ?_ _); rotate_left; (first | omega | (simp only [World.size_setCell]; omega) | (simp only [World.size_alloc, World.size_setCell]; omega) | (simp only [World.size_alloc]; omega) | (simp only [World.size_drew, World.size_alloc]; omega) | (simp only [World.size_drew]; omega))) | ((with_reducible refine set4_below ?_ ?_ _ _ _ _); rotate_left; omega) | ((with_reducible refine Below.setCell ?_ ?_ _); rotate_left; (show _ ≤ _); (simp only); omega)))); have HBR := Lib.hid hB1; clear hB1 hb)
          | ((with_reducible refine (C1.out _).mono ?_); rintro e' w' ⟨rfl, hb⟩; obtain ⟨hc, hf⟩ := bcell hb; (try simp only [World.size_drew] at hc hf); have zz := hb.size; (try simp only [World.size_drew] at zz); (try simp only [World.size_alloc] at zz); (first | (have zt := Nat.lt_of_lt_of_le zt zz) | (have zt := Nat.lt_of_lt_of_le zs zz) | skip); (try have zs := Nat.lt_of_succ_le zz); skip; have x0 : w.heap.size < w'.heap.size + 1 := (by omega); have x1 : w.heap.size < w'.heap.size + 1 + 1 := (by omega); have yg3 : g3 < w'.heap.size := (by omega); have yg6 : g6 < w'.heap.size := (by omega); have hB0 : Below w.heap.size w w' := (by refine Below.trans ?_ (hb.mono (by first | omega | (simp only [World.size_alloc]; omega) | (simp only [World.size_drew, World.size_alloc]; omega) | (simp only [World.size_drew]; omega))); (repeat (first | (with_reducible exact Below.refl _ _) | (with_reducible exact HBE.out) | (with_reducible refine Below.drew ?_) | ((with_reducible refine Below.alloc ?_ ?_ _); rotate_left; (first | omega | (simp only [World.size_setCell]; omega) | (simp only [World.size_alloc, World.size_setCell]; omega) | (simp only [World.size_alloc]; omega) | (simp only [World.size_drew, World.size_alloc]; omega) | (simp only [World.size_drew]; omega))) | ((with_reducible refine set4_below ?_ ?_ _ _ _ _); rotate_left; omega) | ((with_reducible refine Below.setCell ?_ ?_ _); rotate_left; (show _ ≤ _); (simp only); omega)))); have HBE := Lib.hid hB0; clear hB0; have yr : Y.heap.size ≤ w'.heap.size := (by omega); have hB1 : Below Y.heap.size Y w' := (by refine Below.trans ?_ (hb.mono (by first | omega | (simp only [World.size_alloc]; omega) | (simp only [World.size_drew, World.size_alloc]; omega) | (simp only [World.size_drew]; omega))); (repeat (first | (with_reducible exact Below.refl _ _) | (with_reducible exact HBR.out) | (with_reducible refine Below.drew ?_) | ((with_reducible refine Below.alloc ?_ ?_ _); rotate_left; (first | omega | (simp only [World.size_setCell]; omega) | (simp only [World.size_alloc, World.size_setCell]; omega) | (simp only [World.size_alloc]; omega) | (simp only [World.size_drew, World.size_alloc]; omega) | (simp only [World.size_drew]; omega))) | ((with_reducible refine set4_below ?_ ?_ _ _ _ _); rotate_left; omega) | ((with_reducible refine Below.setCell ?_ ?_ _); rotate_left; (show _ ≤ _); (simp only); omega)))); have HBR := Lib.hid hB1; clear hB1 hb))
        all_goals
          go_wp2_with fail
          go_meet
          exact ⟨(HI2.out.below HBR.out).set3 h34 hgw S1, (HG6.out.below HBR.out y6).far8 (by omega) S1, by have := HBR.out.size; simp only [World.size_setCell]; omega⟩
      case rest =>
        obtain ⟨hI, hG, z6⟩ := hcut
        clear HI2 HG6 y6 C1
        obtain ⟨c0, c1, c2, c3, c4, c5, c6, c7, f0, f1, f2, f3, f4, f5, f6, f7⟩ := hI.p
        obtain ⟨d0, d1, d2, d3, _, _, _, _⟩ := hG
        have y4 := hI.lt4
        have HBE := Lib.hid hI.be
        have HI3 := Lib.hid hI
        have HBR := Lib.hid (Below.refl wc.heap.size wc)
        clear hI
        go_wp2_with fail
        go_region_with (first
          | ((with_reducible refine (C0.out _).mono ?_); rintro e' w' ⟨rfl, hb⟩; obtain ⟨hc, hf⟩ := bcell hb; (try simp only [World.size_drew] at hc hf); have zz := hb.size; (try simp only [World.size_drew] at zz); (try simp only [World.size_alloc] at zz); (first | (have zt := Nat.lt_of_lt_of_le zt zz) | (have zt := Nat.lt_of_lt_of_le zs zz) | skip); (try have zs := Nat.lt_of_succ_le zz); skip; have x0 : w.heap.size < w'.heap.size + 1 := (by omega); have x1 : w.heap.size < w'.heap.size + 1 + 1 := (by omega); have yg4 : g4 < w'.heap.size := (by omega); have yg6 : g6 < w'.heap.size := (by omega); have hB0 : Below w.heap.size w w' := (by refine Below.trans ?_ (hb.mono (by first | omega | (simp only [World.size_alloc]; omega) | (simp only [World.size_drew, World.size_alloc]; omega) | (simp only [World.size_drew]; omega))); (repeat (first | (with_reducible exact Below.refl _ _) | (with_reducible exact HBE.out) | (with_reducible refine Below.drew ?_) | ((with_reducible refine Below.alloc ?_ ?_ _); rotate_left; (first | omega | (simp only [World.size_setCell]; omega) | (simp only [World.size_alloc, World.size_setCell]; omega) | (simp only [World.size_alloc]; omega) | (simp only [World.size_drew, World.size_alloc]; omega) | (simp only [World.size_drew]; omega))) | ((with_reducible refine set4_below ?_ ?_ _ _ _ _); rotate_left; omega) | ((with_reducible refine Below.setCell ?_ ?_ _); rotate_left; (show _ ≤ _); (simp only); omega)))); have HBE := Lib.hid hB0; clear hB0; have yr : wc.heap.size ≤ w'.heap.size := (by omega); have hB1 : Below wc.heap.size wc w' := (by refine Below.trans ?_ (hb.mono (by first | omega | (simp only [World.size_alloc]; omega) | (simp only [World.size_drew, World.size_alloc]; omega) | (simp only [World.size_drew]; omega))); (repeat (first | (with_reducible exact Below.refl _ _) | (with_reducible exact HBR.out) | (with_reducible refine Below.drew ?_) | ((with_reducible refine Below.alloc ?_ ?_ _); rotate_left; (first | omega | (simp only [World.size_setCell]; omega) | (simp only [World.size_alloc, World.size_setCell]; omega) | (simp only [World.size_alloc]; omega) | (simp only [World.size_drew, World.size_alloc]; omega) | (simp only [World.size_drew]; omega))) | ((with_reducible refine set4_below ?_ ?_ _ _ _ _); rotate_left; omega) | ((with_reducible refine Below.setCell ?_ ?_ _); rotate_left; (show _ ≤ _); (simp only); omega)))); have HBR := Lib.hid hB1; clear hB1 hb)
          | ((with_reducible refine (C2.out _).mono ?_); rintro e' w' ⟨rfl, hb⟩; obtain ⟨hc, hf⟩ := bcell hb; (try simp only [World.size_drew] at hc hf); have zz := hb.size; (try simp only [World.size_drew] at zz); (try simp only [World.size_alloc] at zz); (first | (have zt := Nat.lt_of_lt_of_le zt zz) | (have zt := Nat.lt_of_lt_of_le zs zz) | skip); (try have zs := Nat.lt_of_succ_le zz); skip; have x0 : w.heap.size < w'.heap.size + 1 := (by omega); have x1 : w.heap.size < w'.heap.size + 1 + 1 := (by omega); have yg4 : g4 < w'.heap.size := (by omega); have yg6 : g6 < w'.heap.size := (by omega); have hB0 : Below w.heap.size w w' := (by refine Below.trans ?_ (hb.mono (by first | omega | (simp only [World.size_alloc]; omega) | (simp only [World.size_drew, World.size_alloc]; omega) | (simp only [World.size_drew]; omega))); (repeat (first | (with_reducible exact Below.refl _ _) | (with_reducible exact HBE.out) | (with_reducible refine Below.drew ?_) | ((with_reducible refine Below.alloc ?_ ?_ _); rotate_left; (first | omega | (simp only [World.size_setCell]; omega) | (simp only [World.size_alloc, World.size_setCell]; omega) | (simp only [World.size_alloc]; omega) | (simp only [World.size_drew, World.size_alloc]; omega) | (simp only [World.size_drew]; omega))) | ((with_reducible refine set4_below ?_ ?_ _ _ _ _); rotate_left; omega) | ((with_reducible refine Below.setCell ?_ ?_ _); rotate_left; (show _ ≤ _); (simp only); omega)))); have HBE := Lib.hid hB0; clear hB0; have yr : wc.heap.size ≤ w'.heap.size := (by omega); have hB1 : Below wc.heap.size wc w' := (by refine Below.trans ?_ (hb.mono (by first | omega | (simp only [World.size_alloc]; omega) | (simp only [World.size_drew, World.size_alloc]; omega) | (simp only [World.size_drew]; omega))); (repeat (first | (with_reducible exact Below.refl _ _) | (with_reducible exact HBR.out) | (with_reducible refine Below.drew ?_) | ((with_reducible refine Below.alloc ?_ ?_ _); rotate_left; (first | omega | (simp only [World.size_setCell]; omega) | (simp only [World.size_alloc, World.size_setCell]; omega) | (simp only [World.size_alloc]; omega) | (simp only [World.size_drew, World.size_alloc]; omega) | (simp only [World.size_drew]; omega))) | ((with_reducible refine set4_below ?_ ?_ _ _ _ _); rotate_left; omega) | ((with_reducible refine Below.setCell ?_ ?_ _); rotate_left; (show _ ≤ _); (simp only); omega)))); have HBR := Lib.hid hB1; clear hB1 hb))
        all_goals
          go_wp2_with fail
          go_roundw
          case rel =>
            refine ⟨k + 1, by omega, by go_num, ?_⟩
            rw [← HS1.out, ← HP1.out]
            exact Lib.hid ((HI3.out.below HBR.out).set4 h34 hgw4 P1)
          case measure => simp [intOf]; omega
    · obtain rfl : k = xs.length := by omega
      rw [List.take_length] at hi
      obtain ⟨S, hS⟩ : ∃ S, S = sumP xs := ⟨_, rfl⟩
      obtain ⟨P, hP⟩ : ∃ P, P = prodP xs := ⟨_, rfl⟩
      have hS4 : S < W4 := by rw [hS]; exact Nat.lt_trans (sumP_lt _) PP_lt
      have hP4 : P < W4 := by rw [hP]; exact Nat.lt_trans (prodP_lt _) PP_lt
      rw [← hS, ← hP] at hi
      have hwz := hi.out.be.size
      have CL := Lib.hid (fun W (h : Below wr.heap.size wr W) => listE (HES.out.below (hi.out.be.trans (h.mono hwz)) (Nat.le_refl _)) (Nat.le_trans hwz h.size) hn)
      have CU := Lib.hid (fun u W (h : Es W W.heap.size u xs) => sumE h)
      have CP := Lib.hid (fun u W (h : Es W W.heap.size u xs) => prodE h)
      rw [← hS] at CU
      rw [← hP] at CP
      have CI := Lib.hid (fun W => isSame hS4 W)
      have CJ := Lib.hid (fun W => isSame hP4 W)
      obtain ⟨c0, c1, c2, c3, c4, c5, c6, c7, _, _, _, _, _, _, _, _⟩ := hi.out.s
      obtain ⟨d0, d1, d2, d3, d4, d5, d6, d7, _, _, _, _, _, _, _, _⟩ := hi.out.p
      have y3 := hi.out.lt3
      have y4 := hi.out.lt4
      have HBE := Lib.hid hi.out.be
      have HBR := Lib.hid (Below.refl wr.heap.size wr)
      clear hS hP hS4 hP4 hi CM CD CF
      go_wp2_with fail
      go_region_held3 (fun w' => w'.cell? ⟨g3, 0, none⟩ = some (.int .u32 (dig (S) 0 : Int)) ∧ w'.cell? ⟨g3, 1, none⟩ = some (.int .u32 (dig (S) 1 : Int)) ∧ w'.cell? ⟨g3, 2, none⟩ = some (.int .u32 (dig (S) 2 : Int)) ∧ w'.cell? ⟨g3, 3, none⟩ = some (.int .u32 (dig (S) 3 : Int)) ∧ w'.cell? ⟨g3, 4, none⟩ = some (.int .u32 (dig (S) 4 : Int)) ∧ w'.cell? ⟨g3, 5, none⟩ = some (.int .u32 (dig (S) 5 : Int)) ∧ w'.cell? ⟨g3, 6, none⟩ = some (.int .u32 (dig (S) 6 : Int)) ∧ w'.cell? ⟨g3, 7, none⟩ = some (.int .u32 (dig (S) 7 : Int)) ∧ w'.cell? ⟨g4, 0, none⟩ = some (.int .u32 (dig (P) 0 : Int)) ∧ w'.cell? ⟨g4, 1, none⟩ = some (.int .u32 (dig (P) 1 : Int)) ∧ w'.cell? ⟨g4, 2, none⟩ = some (.int .u32 (dig (P) 2 : Int)) ∧ w'.cell? ⟨g4, 3, none⟩ = some (.int .u32 (dig (P) 3 : Int)) ∧ w'.cell? ⟨g4, 4, none⟩ = some (.int .u32 (dig (P) 4 : Int)) ∧ w'.cell? ⟨g4, 5, none⟩ = some (.int .u32 (dig (P) 5 : Int)) ∧ w'.cell? ⟨g4, 6, none⟩ = some (.int .u32 (dig (P) 6 : Int)) ∧ w'.cell? ⟨g4, 7, none⟩ = some (.int .u32 (dig (P) 7 : Int))) (go_simp)
        (first
          | ((with_reducible refine (CL.out _ ?_).mono ?_); (focus ((repeat (first | (with_reducible exact Below.refl _ _) | (with_reducible exact HBR.out) | (with_reducible refine Below.drew ?_) | ((with_reducible refine Below.alloc ?_ ?_ _); rotate_left; (first | omega | (simp only [World.size_setCell]; omega) | (simp only [World.size_alloc, World.size_setCell]; omega) | (simp only [World.size_alloc]; omega) | (simp only [World.size_drew, World.size_alloc]; omega) | (simp only [World.size_drew]; omega))) | ((with_reducible refine set4_below ?_ ?_ _ _ _ _); rotate_left; omega) | ((with_reducible refine Below.setCell ?_ ?_ _); rotate_left; (show _ ≤ _); (simp only); omega))))); rintro e' w' ⟨u, rfl, ho, hb⟩; have HU := Lib.hid ho.es; clear ho; (try replace hb := undrew hb); have HLB := LastB.mk hb; obtain ⟨hc, hf⟩ := bcell hb; (try simp only [World.size_drew] at hc hf); have zz := hb.size; (try simp only [World.size_drew] at zz); (try simp only [World.size_alloc] at zz); (try have ua := (Nat.lt_of_lt_of_le ua (by omega) : _ < w'.heap.size)); (try have ub := (Nat.lt_of_lt_of_le ub (by omega) : _ < w'.heap.size)); (try have uc := (Nat.lt_of_lt_of_le uc (by omega) : _ < w'.heap.size)); (try have ud := (Nat.lt_of_lt_of_le ud (by omega) : _ < w'.heap.size)); (first | (have ua := ltA zz; have ub := ltB zz) | (have hq := uc; have ud := ltC zz; clear hq) | (have hq := ub; have uc := ltC zz; clear hq) | (have hq := ua; have ub := ltC zz; clear hq) | (have ua := ltC zz) | skip); (try have ua1 := (Nat.lt_succ_of_lt ua : _ < w'.heap.size + 1)); (try have ua2 := (Nat.lt_succ_of_lt ua1 : _ < w'.heap.size + 1 + 1)); (try have ub1 := (Nat.lt_succ_of_lt ub : _ < w'.heap.size + 1)); (try have ub2 := (Nat.lt_succ_of_lt ub1 : _ < w'.heap.size + 1 + 1)); (try have uc1 := (Nat.lt_succ_of_lt uc : _ < w'.heap.size + 1)); (try have uc2 := (Nat.lt_succ_of_lt uc1 : _ < w'.heap.size + 1 + 1)); (try have ud1 := (Nat.lt_succ_of_lt ud : _ < w'.heap.size + 1)); (try have ud2 := (Nat.lt_succ_of_lt ud1 : _ < w'.heap.size + 1 + 1));  skip; have x0 : w.heap.size < w'.heap.size + 1 := (by omega); have x1 : w.heap.size < w'.heap.size + 1 + 1 := (by omega); have yg3 : g3 < w'.heap.size := (by omega); have yg4 : g4 < w'.heap.size := (by omega); have hB0 : Below w.heap.size w w' := (by refine Below.trans ?_ (hb.mono (by first | omega | (simp only [World.size_alloc]; omega) | (simp only [World.size_drew, World.size_alloc]; omega) | (simp only [World.size_drew]; omega))); (repeat (first | (with_reducible exact Below.refl _ _) | (with_reducible exact HBE.out) | (with_reducible refine Below.drew ?_) | ((with_reducible refine Below.alloc ?_ ?_ _); rotate_left; (first | omega | (simp only [World.size_setCell]; omega) | (simp only [World.size_alloc, World.size_setCell]; omega) | (simp only [World.size_alloc]; omega) | (simp only [World.size_drew, World.size_alloc]; omega) | (simp only [World.size_drew]; omega))) | ((with_reducible refine set4_below ?_ ?_ _ _ _ _); rotate_left; omega) | ((with_reducible refine Below.setCell ?_ ?_ _); rotate_left; (show _ ≤ _); (simp only); omega)))); have HBE := Lib.hid hB0; clear hB0; have yr : wr.heap.size ≤ w'.heap.size := (by omega); have hB1 : Below wr.heap.size wr w' := (by refine Below.trans ?_ (hb.mono (by first | omega | (simp only [World.size_alloc]; omega) | (simp only [World.size_drew, World.size_alloc]; omega) | (simp only [World.size_drew]; omega))); (repeat (first | (with_reducible exact Below.refl _ _) | (with_reducible exact HBR.out) | (with_reducible refine Below.drew ?_) | ((with_reducible refine Below.alloc ?_ ?_ _); rotate_left; (first | omega | (simp only [World.size_setCell]; omega) | (simp only [World.size_alloc, World.size_setCell]; omega) | (simp only [World.size_alloc]; omega) | (simp only [World.size_drew, World.size_alloc]; omega) | (simp only [World.size_drew]; omega))) | ((with_reducible refine set4_below ?_ ?_ _ _ _ _); rotate_left; omega) | ((with_reducible refine Below.setCell ?_ ?_ _); rotate_left; (show _ ≤ _); (simp only); omega)))); have HBR := Lib.hid hB1; clear hB1 hb)
          | ((with_reducible refine (CU.out _ _ ?_).mono ?_); (focus (exact HU.out)); rintro e' w' ⟨rfl, hb⟩; (try replace hb := undrew hb); have HLB := LastB.mk hb; obtain ⟨hc, hf⟩ := bcell hb; (try simp only [World.size_drew] at hc hf); have zz := hb.size; (try simp only [World.size_drew] at zz); (try simp only [World.size_alloc] at zz); (try have ua := (Nat.lt_of_lt_of_le ua (by omega) : _ < w'.heap.size)); (try have ub := (Nat.lt_of_lt_of_le ub (by omega) : _ < w'.heap.size)); (try have uc := (Nat.lt_of_lt_of_le uc (by omega) : _ < w'.heap.size)); (try have ud := (Nat.lt_of_lt_of_le ud (by omega) : _ < w'.heap.size)); (first | (have ua := ltA zz; have ub := ltB zz) | (have hq := uc; have ud := ltC zz; clear hq) | (have hq := ub; have uc := ltC zz; clear hq) | (have hq := ua; have ub := ltC zz; clear hq) | (have ua := ltC zz) | skip); (try have ua1 := (Nat.lt_succ_of_lt ua : _ < w'.heap.size + 1)); (try have ua2 := (Nat.lt_succ_of_lt ua1 : _ < w'.heap.size + 1 + 1)); (try have ub1 := (Nat.lt_succ_of_lt ub : _ < w'.heap.size + 1)); (try have ub2 := (Nat.lt_succ_of_lt ub1 : _ < w'.heap.size + 1 + 1)); (try have uc1 := (Nat.lt_succ_of_lt uc : _ < w'.heap.size + 1)); (try have uc2 := (Nat.lt_succ_of_lt uc1 : _ < w'.heap.size + 1 + 1)); (try have ud1 := (Nat.lt_succ_of_lt ud : _ < w'.heap.size + 1)); (try have ud2 := (Nat.lt_succ_of_lt ud1 : _ < w'.heap.size + 1 + 1));  skip; have x0 : w.heap.size < w'.heap.size + 1 := (by omega); have x1 : w.heap.size < w'.heap.size + 1 + 1 := (by omega); have yg3 : g3 < w'.heap.size := (by omega); have yg4 : g4 < w'.heap.size := (by omega); have hB0 : Below w.heap.size w w' := (by refine Below.trans ?_ (hb.mono (by first | omega | (simp only [World.size_alloc]; omega) | (simp only [World.size_drew, World.size_alloc]; omega) | (simp only [World.size_drew]; omega))); (repeat (first | (with_reducible exact Below.refl _ _) | (with_reducible exact HBE.out) | (with_reducible refine Below.drew ?_) | ((with_reducible refine Below.alloc ?_ ?_ _); rotate_left; (first | omega | (simp only [World.size_setCell]; omega) | (simp only [World.size_alloc, World.size_setCell]; omega) | (simp only [World.size_alloc]; omega) | (simp only [World.size_drew, World.size_alloc]; omega) | (simp only [World.size_drew]; omega))) | ((with_reducible refine set4_below ?_ ?_ _ _ _ _); rotate_left; omega) | ((with_reducible refine Below.setCell ?_ ?_ _); rotate_left; (show _ ≤ _); (simp only); omega)))); have HBE := Lib.hid hB0; clear hB0; have yr : wr.heap.size ≤ w'.heap.size := (by omega); have hB1 : Below wr.heap.size wr w' := (by refine Below.trans ?_ (hb.mono (by first | omega | (simp only [World.size_alloc]; omega) | (simp only [World.size_drew, World.size_alloc]; omega) | (simp only [World.size_drew]; omega))); (repeat (first | (with_reducible exact Below.refl _ _) | (with_reducible exact HBR.out) | (with_reducible refine Below.drew ?_) | ((with_reducible refine Below.alloc ?_ ?_ _); rotate_left; (first | omega | (simp only [World.size_setCell]; omega) | (simp only [World.size_alloc, World.size_setCell]; omega) | (simp only [World.size_alloc]; omega) | (simp only [World.size_drew, World.size_alloc]; omega) | (simp only [World.size_drew]; omega))) | ((with_reducible refine set4_below ?_ ?_ _ _ _ _); rotate_left; omega) | ((with_reducible refine Below.setCell ?_ ?_ _); rotate_left; (show _ ≤ _); (simp only); omega)))); have HBR := Lib.hid hB1; clear hB1 hb)
          | ((with_reducible refine (CP.out _ _ ?_).mono ?_); (focus (exact HU.out)); rintro e' w' ⟨rfl, hb⟩; (try replace hb := undrew hb); have HLB := LastB.mk hb; obtain ⟨hc, hf⟩ := bcell hb; (try simp only [World.size_drew] at hc hf); have zz := hb.size; (try simp only [World.size_drew] at zz); (try simp only [World.size_alloc] at zz); (try have ua := (Nat.lt_of_lt_of_le ua (by omega) : _ < w'.heap.size)); (try have ub := (Nat.lt_of_lt_of_le ub (by omega) : _ < w'.heap.size)); (try have uc := (Nat.lt_of_lt_of_le uc (by omega) : _ < w'.heap.size)); (try have ud := (Nat.lt_of_lt_of_le ud (by omega) : _ < w'.heap.size)); (first | (have ua := ltA zz; have ub := ltB zz) | (have hq := uc; have ud := ltC zz; clear hq) | (have hq := ub; have uc := ltC zz; clear hq) | (have hq := ua; have ub := ltC zz; clear hq) | (have ua := ltC zz) | skip); (try have ua1 := (Nat.lt_succ_of_lt ua : _ < w'.heap.size + 1)); (try have ua2 := (Nat.lt_succ_of_lt ua1 : _ < w'.heap.size + 1 + 1)); (try have ub1 := (Nat.lt_succ_of_lt ub : _ < w'.heap.size + 1)); (try have ub2 := (Nat.lt_succ_of_lt ub1 : _ < w'.heap.size + 1 + 1)); (try have uc1 := (Nat.lt_succ_of_lt uc : _ < w'.heap.size + 1)); (try have uc2 := (Nat.lt_succ_of_lt uc1 : _ < w'.heap.size + 1 + 1)); (try have ud1 := (Nat.lt_succ_of_lt ud : _ < w'.heap.size + 1)); (try have ud2 := (Nat.lt_succ_of_lt ud1 : _ < w'.heap.size + 1 + 1));  skip; have x0 : w.heap.size < w'.heap.size + 1 := (by omega); have x1 : w.heap.size < w'.heap.size + 1 + 1 := (by omega); have yg3 : g3 < w'.heap.size := (by omega); have yg4 : g4 < w'.heap.size := (by omega); have hB0 : Below w.heap.size w w' := (by refine Below.trans ?_ (hb.mono (by first | omega | (simp only [World.size_alloc]; omega) | (simp only [World.size_drew, World.size_alloc]; omega) | (simp only [World.size_drew]; omega))); (repeat (first | (with_reducible exact Below.refl _ _) | (with_reducible exact HBE.out) | (with_reducible refine Below.drew ?_) | ((with_reducible refine Below.alloc ?_ ?_ _); rotate_left; (first | omega | (simp only [World.size_setCell]; omega) | (simp only [World.size_alloc, World.size_setCell]; omega) | (simp only [World.size_alloc]; omega) | (simp only [World.size_drew, World.size_alloc]; omega) | (simp only [World.size_drew]; omega))) | ((with_reducible refine set4_below ?_ ?_ _ _ _ _); rotate_left; omega) | ((with_reducible refine Below.setCell ?_ ?_ _); rotate_left; (show _ ≤ _); (simp only); omega)))); have HBE := Lib.hid hB0; clear hB0; have yr : wr.heap.size ≤ w'.heap.size := (by omega); have hB1 : Below wr.heap.size wr w' := (by refine Below.trans ?_ (hb.mono (by first | omega | (simp only [World.size_alloc]; omega) | (simp only [World.size_drew, World.size_alloc]; omega) | (simp only [World.size_drew]; omega))); (repeat (first | (with_reducible exact Below.refl _ _) | (with_reducible exact HBR.out) | (with_reducible refine Below.drew ?_) | ((with_reducible refine Below.alloc ?_ ?_ _); rotate_left; (first | omega | (simp only [World.size_setCell]; omega) | (simp only [World.size_alloc, World.size_setCell]; omega) | (simp only [World.size_alloc]; omega) | (simp only [World.size_drew, World.size_alloc]; omega) | (simp only [World.size_drew]; omega))) | ((with_reducible refine set4_below ?_ ?_ _ _ _ _); rotate_left; omega) | ((with_reducible refine Below.setCell ?_ ?_ _); rotate_left; (show _ ≤ _); (simp only); omega)))); have HBR := Lib.hid hB1; clear hB1 hb)
          | ((with_reducible refine (CI.out _).mono ?_); rintro e' w' ⟨rfl, hb⟩; (try replace hb := undrew hb); have HLB := LastB.mk hb; obtain ⟨hc, hf⟩ := bcell hb; (try simp only [World.size_drew] at hc hf); have zz := hb.size; (try simp only [World.size_drew] at zz); (try simp only [World.size_alloc] at zz); (try have ua := (Nat.lt_of_lt_of_le ua (by omega) : _ < w'.heap.size)); (try have ub := (Nat.lt_of_lt_of_le ub (by omega) : _ < w'.heap.size)); (try have uc := (Nat.lt_of_lt_of_le uc (by omega) : _ < w'.heap.size)); (try have ud := (Nat.lt_of_lt_of_le ud (by omega) : _ < w'.heap.size)); (first | (have ua := ltA zz; have ub := ltB zz) | (have hq := uc; have ud := ltC zz; clear hq) | (have hq := ub; have uc := ltC zz; clear hq) | (have hq := ua; have ub := ltC zz; clear hq) | (have ua := ltC zz) | skip); (try have ua1 := (Nat.lt_succ_of_lt ua : _ < w'.heap.size + 1)); (try have ua2 := (Nat.lt_succ_of_lt ua1 : _ < w'.heap.size + 1 + 1)); (try have ub1 := (Nat.lt_succ_of_lt ub : _ < w'.heap.size + 1)); (try have ub2 := (Nat.lt_succ_of_lt ub1 : _ < w'.heap.size + 1 + 1)); (try have uc1 := (Nat.lt_succ_of_lt uc : _ < w'.heap.size + 1)); (try have uc2 := (Nat.lt_succ_of_lt uc1 : _ < w'.heap.size + 1 + 1)); (try have ud1 := (Nat.lt_succ_of_lt ud : _ < w'.heap.size + 1)); (try have ud2 := (Nat.lt_succ_of_lt ud1 : _ < w'.heap.size + 1 + 1));  skip; have x0 : w.heap.size < w'.heap.size + 1 := (by omega); have x1 : w.heap.size < w'.heap.size + 1 + 1 := (by omega); have yg3 : g3 < w'.heap.size := (by omega); have yg4 : g4 < w'.heap.size := (by omega); have hB0 : Below w.heap.size w w' := (by refine Below.trans ?_ (hb.mono (by first | omega | (simp only [World.size_alloc]; omega) | (simp only [World.size_drew, World.size_alloc]; omega) | (simp only [World.size_drew]; omega))); (repeat (first | (with_reducible exact Below.refl _ _) | (with_reducible exact HBE.out) | (with_reducible refine Below.drew ?_) | ((with_reducible refine Below.alloc ?_ ?_ _); rotate_left; (first | omega | (simp only [World.size_setCell]; omega) | (simp only [World.size_alloc, World.size_setCell]; omega) | (simp only [World.size_alloc]; omega) | (simp only [World.size_drew, World.size_alloc]; omega) | (simp only [World.size_drew]; omega))) | ((with_reducible refine set4_below ?_ ?_ _ _ _ _); rotate_left; omega) | ((with_reducible refine Below.setCell ?_ ?_ _); rotate_left; (show _ ≤ _); (simp only); omega)))); have HBE := Lib.hid hB0; clear hB0; have yr : wr.heap.size ≤ w'.heap.size := (by omega); have hB1 : Below wr.heap.size wr w' := (by refine Below.trans ?_ (hb.mono (by first | omega | (simp only [World.size_alloc]; omega) | (simp only [World.size_drew, World.size_alloc]; omega) | (simp only [World.size_drew]; omega))); (repeat (first | (with_reducible exact Below.refl _ _) | (with_reducible exact HBR.out) | (with_reducible refine Below.drew ?_) | ((with_reducible refine Below.alloc ?_ ?_ _); rotate_left; (first | omega | (simp only [World.size_setCell]; omega) | (simp only [World.size_alloc, World.size_setCell]; omega) | (simp only [World.size_alloc]; omega) | (simp only [World.size_drew, World.size_alloc]; omega) | (simp only [World.size_drew]; omega))) | ((with_reducible refine set4_below ?_ ?_ _ _ _ _); rotate_left; omega) | ((with_reducible refine Below.setCell ?_ ?_ _); rotate_left; (show _ ≤ _); (simp only); omega)))); have HBR := Lib.hid hB1; clear hB1 hb)
          | ((with_reducible refine (CJ.out _).mono ?_); rintro e' w' ⟨rfl, hb⟩; (try replace hb := undrew hb); have HLB := LastB.mk hb; obtain ⟨hc, hf⟩ := bcell hb; (try simp only [World.size_drew] at hc hf); have zz := hb.size; (try simp only [World.size_drew] at zz); (try simp only [World.size_alloc] at zz); (try have ua := (Nat.lt_of_lt_of_le ua (by omega) : _ < w'.heap.size)); (try have ub := (Nat.lt_of_lt_of_le ub (by omega) : _ < w'.heap.size)); (try have uc := (Nat.lt_of_lt_of_le uc (by omega) : _ < w'.heap.size)); (try have ud := (Nat.lt_of_lt_of_le ud (by omega) : _ < w'.heap.size)); (first | (have ua := ltA zz; have ub := ltB zz) | (have hq := uc; have ud := ltC zz; clear hq) | (have hq := ub; have uc := ltC zz; clear hq) | (have hq := ua; have ub := ltC zz; clear hq) | (have ua := ltC zz) | skip); (try have ua1 := (Nat.lt_succ_of_lt ua : _ < w'.heap.size + 1)); (try have ua2 := (Nat.lt_succ_of_lt ua1 : _ < w'.heap.size + 1 + 1)); (try have ub1 := (Nat.lt_succ_of_lt ub : _ < w'.heap.size + 1)); (try have ub2 := (Nat.lt_succ_of_lt ub1 : _ < w'.heap.size + 1 + 1)); (try have uc1 := (Nat.lt_succ_of_lt uc : _ < w'.heap.size + 1)); (try have uc2 := (Nat.lt_succ_of_lt uc1 : _ < w'.heap.size + 1 + 1)); (try have ud1 := (Nat.lt_succ_of_lt ud : _ < w'.heap.size + 1)); (try have ud2 := (Nat.lt_succ_of_lt ud1 : _ < w'.heap.size + 1 + 1));  skip; have x0 : w.heap.size < w'.heap.size + 1 := (by omega); have x1 : w.heap.size < w'.heap.size + 1 + 1 := (by omega); have yg3 : g3 < w'.heap.size := (by omega); have yg4 : g4 < w'.heap.size := (by omega); have hB0 : Below w.heap.size w w' := (by refine Below.trans ?_ (hb.mono (by first | omega | (simp only [World.size_alloc]; omega) | (simp only [World.size_drew, World.size_alloc]; omega) | (simp only [World.size_drew]; omega))); (repeat (first | (with_reducible exact Below.refl _ _) | (with_reducible exact HBE.out) | (with_reducible refine Below.drew ?_) | ((with_reducible refine Below.alloc ?_ ?_ _); rotate_left; (first | omega | (simp only [World.size_setCell]; omega) | (simp only [World.size_alloc, World.size_setCell]; omega) | (simp only [World.size_alloc]; omega) | (simp only [World.size_drew, World.size_alloc]; omega) | (simp only [World.size_drew]; omega))) | ((with_reducible refine set4_below ?_ ?_ _ _ _ _); rotate_left; omega) | ((with_reducible refine Below.setCell ?_ ?_ _); rotate_left; (show _ ≤ _); (simp only); omega)))); have HBE := Lib.hid hB0; clear hB0; have yr : wr.heap.size ≤ w'.heap.size := (by omega); have hB1 : Below wr.heap.size wr w' := (by refine Below.trans ?_ (hb.mono (by first | omega | (simp only [World.size_alloc]; omega) | (simp only [World.size_drew, World.size_alloc]; omega) | (simp only [World.size_drew]; omega))); (repeat (first | (with_reducible exact Below.refl _ _) | (with_reducible exact HBR.out) | (with_reducible refine Below.drew ?_) | ((with_reducible refine Below.alloc ?_ ?_ _); rotate_left; (first | omega | (simp only [World.size_setCell]; omega) | (simp only [World.size_alloc, World.size_setCell]; omega) | (simp only [World.size_alloc]; omega) | (simp only [World.size_drew, World.size_alloc]; omega) | (simp only [World.size_drew]; omega))) | ((with_reducible refine set4_below ?_ ?_ _ _ _ _); rotate_left; omega) | ((with_reducible refine Below.setCell ?_ ?_ _); rotate_left; (show _ ≤ _); (simp only); omega)))); have HBR := Lib.hid hB1; clear hB1 hb)
          | fail)
      all_goals
        go_wp2_with fail
        go_ret
        refine ⟨rfl, ?_⟩
        (repeat (first | (with_reducible exact Below.refl _ _) | (with_reducible exact HBE.out) | (with_reducible refine Below.drew ?_) | ((with_reducible refine Below.alloc ?_ ?_ _); rotate_left; (first | omega | (simp only [World.size_setCell]; omega) | (simp only [World.size_alloc, World.size_setCell]; omega) | (simp only [World.size_alloc]; omega) | (simp only [World.size_drew, World.size_alloc]; omega) | (simp only [World.size_drew]; omega))) | ((with_reducible refine set4_below ?_ ?_ _ _ _ _); rotate_left; omega) | ((with_reducible refine Below.setCell ?_ ?_ _); rotate_left; (show _ ≤ _); (simp only); omega)))
end Go.Proofs.Ytkgghakdccbfpaa
