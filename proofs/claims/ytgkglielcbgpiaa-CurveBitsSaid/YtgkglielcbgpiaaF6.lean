/- field's differences. -/
import Derived.Test.YtgkglielcbgpiaaF5
import Derived.Deep.RegionHeld3
import Derived.Deep.DeepCutAuto
namespace Go.Proofs.Ytgkglielcbgpiaa
open Go.RowKit

/-- the difference modulo the prime -/
def subN (V U : Nat) : Nat := (V % PP + PP - U % PP) % PP
theorem sub_ar {a b p q : Nat} (ha : a < p) (hb : b < p) (hp : p < q) : (a < b → (if a < b then a + q - b else a - b) + p = q + (a + p - b) % p) ∧ (¬ a < b → (if a < b then a + q - b else a - b) = (a + p - b) % p) := by
  refine ⟨fun h => ?_, fun h => ?_⟩
  · rw [if_pos h, Nat.mod_eq_of_lt (by omega)]
    omega
  · have e : a + p - b = (a - b) + p := by omega
    rw [if_neg h, e, Nat.add_mod_right, Nat.mod_eq_of_lt (by omega)]
theorem subN_a {V U : Nat} (h : V % PP < U % PP) : miN (V % PP) (U % PP) + PP = W4 + subN V U :=
  (sub_ar (Nat.mod_lt _ (by decide)) (Nat.mod_lt _ (by decide)) PP_lt).1 h
theorem subN_b {V U : Nat} (h : ¬ V % PP < U % PP) : miN (V % PP) (U % PP) = subN V U :=
  (sub_ar (Nat.mod_lt _ (by decide)) (Nat.mod_lt _ (by decide)) PP_lt).2 h

/-- block g holds the number V -/
structure Ec (w : World) (g V : Nat) : Prop where
  c0 : w.cell? ⟨g, 0, none⟩ = some (.int .u64 (l0 (V) : Int))
  c1 : w.cell? ⟨g, 1, none⟩ = some (.int .u64 (l1 (V) : Int))
  c2 : w.cell? ⟨g, 2, none⟩ = some (.int .u64 (l2 (V) : Int))
  c3 : w.cell? ⟨g, 3, none⟩ = some (.int .u64 (l3 (V) : Int))
  f0 : w.frozen? ⟨g, 0, none⟩ = false
  f1 : w.frozen? ⟨g, 1, none⟩ = false
  f2 : w.frozen? ⟨g, 2, none⟩ = false
  f3 : w.frozen? ⟨g, 3, none⟩ = false
/-- block g holds four noughts -/
structure Ez (w : World) (g : Nat) : Prop where
  c0 : w.cell? ⟨g, 0, none⟩ = some (.int .u64 0)
  c1 : w.cell? ⟨g, 1, none⟩ = some (.int .u64 0)
  c2 : w.cell? ⟨g, 2, none⟩ = some (.int .u64 0)
  c3 : w.cell? ⟨g, 3, none⟩ = some (.int .u64 0)
  f0 : w.frozen? ⟨g, 0, none⟩ = false
  f1 : w.frozen? ⟨g, 1, none⟩ = false
  f2 : w.frozen? ⟨g, 2, none⟩ = false
  f3 : w.frozen? ⟨g, 3, none⟩ = false
theorem Ec.below {w w' : World} {g V B : Nat} (h : Ec w g V) (hb : Below B w w') (hg : g < B) : Ec w' g V :=
  ⟨(hb.cell (p := ⟨g, 0, none⟩) hg).trans h.c0, (hb.cell (p := ⟨g, 1, none⟩) hg).trans h.c1, (hb.cell (p := ⟨g, 2, none⟩) hg).trans h.c2, (hb.cell (p := ⟨g, 3, none⟩) hg).trans h.c3,
   (hb.frozen (p := ⟨g, 0, none⟩) hg).trans h.f0, (hb.frozen (p := ⟨g, 1, none⟩) hg).trans h.f1, (hb.frozen (p := ⟨g, 2, none⟩) hg).trans h.f2, (hb.frozen (p := ⟨g, 3, none⟩) hg).trans h.f3⟩
theorem Ez.below {w w' : World} {g B : Nat} (h : Ez w g) (hb : Below B w w') (hg : g < B) : Ez w' g :=
  ⟨(hb.cell (p := ⟨g, 0, none⟩) hg).trans h.c0, (hb.cell (p := ⟨g, 1, none⟩) hg).trans h.c1, (hb.cell (p := ⟨g, 2, none⟩) hg).trans h.c2, (hb.cell (p := ⟨g, 3, none⟩) hg).trans h.c3,
   (hb.frozen (p := ⟨g, 0, none⟩) hg).trans h.f0, (hb.frozen (p := ⟨g, 1, none⟩) hg).trans h.f1, (hb.frozen (p := ⟨g, 2, none⟩) hg).trans h.f2, (hb.frozen (p := ⟨g, 3, none⟩) hg).trans h.f3⟩
structure SubC (w : World) (V U : Nat) (s5 s6 : Value) (wx : World) : Prop where
  g : ∃ g, s5 = .pointer (some ⟨g, 0, none⟩) ∧ Ec wx g (miN (V % PP) (U % PP))
  s : s6 = .int .u64 (boN (V % PP) (U % PP) : Int)
  z : Ez wx (w.heap.size + 2)
  h : w.heap.size + 2 < wx.heap.size
  b : Below w.heap.size w wx

theorem plusP {V : Nat} (hV : V < W4) (w : World) : Calls Try.prog 52 #[.agg #[.int .u64 (l0 (V) : Int), .int .u64 (l1 (V) : Int), .int .u64 (l2 (V) : Int), .int .u64 (l3 (V) : Int)], .agg #[.int .u64 18446744073709551597, .int .u64 18446744073709551615, .int .u64 18446744073709551615, .int .u64 9223372036854775807]] w fun e w' => e = .returned (.agg #[.int .u64 (l0 ((V + PP) % W4) : Int), .int .u64 (l1 ((V + PP) % W4) : Int), .int .u64 (l2 ((V + PP) % W4) : Int), .int .u64 (l3 ((V + PP) % W4) : Int)]) ∧ Below w.heap.size w w' := by
  have h := plusE hV PP_lt w
  have e0 : l0 PP = 18446744073709551597 := by decide
  have e1 : l1 PP = 18446744073709551615 := by decide
  have e2 : l2 PP = 18446744073709551615 := by decide
  have e3 : l3 PP = 9223372036854775807 := by decide
  rw [e0, e1, e2, e3] at h
  exact h
theorem subN_lt (V U : Nat) : subN V U < W4 := mod_lt4 _

set_option maxRecDepth 100000 in
set_option maxHeartbeats 4000000 in
theorem subE {V U : Nat} (hV : V < W4) (hU : U < W4) (w : World) : Calls Try.prog 23 #[.agg #[.int .u64 (l0 (V) : Int), .int .u64 (l1 (V) : Int), .int .u64 (l2 (V) : Int), .int .u64 (l3 (V) : Int)], .agg #[.int .u64 (l0 (U) : Int), .int .u64 (l1 (U) : Int), .int .u64 (l2 (U) : Int), .int .u64 (l3 (U) : Int)]] w fun e w' => e = .returned (.agg #[.int .u64 (l0 (subN V U) : Int), .int .u64 (l1 (subN V U) : Int), .int .u64 (l2 (subN V U) : Int), .int .u64 (l3 (subN V U) : Int)]) ∧ Below w.heap.size w w' := by
  have C1 := Lib.hid (fun W => normE hV W)
  have C2 := Lib.hid (fun W => normE hU W)
  have C3 := Lib.hid (fun W => minusE (mod_lt4 V) (mod_lt4 U) W)
  clear hV hU
  go_enter Try.func23, Try.ntmps23
  go_upto_region 1 with fail
  go_cut [5, 6] (fun s5 s6 wx => SubC w V U s5 s6 wx)
  case first =>
   go_region_held3 (fun w' => w'.cell? ⟨w.heap.size, 0, none⟩ = some (.int .u64 (l0 (V) : Int)) ∧ w'.cell? ⟨w.heap.size, 1, none⟩ = some (.int .u64 (l1 (V) : Int)) ∧ w'.cell? ⟨w.heap.size, 2, none⟩ = some (.int .u64 (l2 (V) : Int)) ∧ w'.cell? ⟨w.heap.size, 3, none⟩ = some (.int .u64 (l3 (V) : Int))
     ∧ w'.cell? ⟨w.heap.size + 1, 0, none⟩ = some (.int .u64 (l0 (U) : Int)) ∧ w'.cell? ⟨w.heap.size + 1, 1, none⟩ = some (.int .u64 (l1 (U) : Int)) ∧ w'.cell? ⟨w.heap.size + 1, 2, none⟩ = some (.int .u64 (l2 (U) : Int)) ∧ w'.cell? ⟨w.heap.size + 1, 3, none⟩ = some (.int .u64 (l3 (U) : Int))) (go_simp)
    (first
      | ((with_reducible refine (C1.out _).mono ?_); rintro e' w' ⟨rfl, hb⟩; obtain ⟨hc, hf⟩ := bcell hb; have zz := hb.size; (try simp only [World.size_drew] at zz); (try simp only [World.size_alloc] at zz); (try have zt := Nat.lt_of_lt_of_le zs zz); (try have zs := Nat.lt_of_succ_le zz); have y0 : w.heap.size < w'.heap.size := (by omega); have y1 : w.heap.size + 1 < w'.heap.size := (by omega); have y2 : w.heap.size + 2 < w'.heap.size := (by omega); have hB0 : Below w.heap.size w w' := (by refine Below.trans ?_ (hb.mono (by first | omega | (simp only [World.size_alloc]; omega) | (simp only [World.size_drew, World.size_alloc]; omega) | (simp only [World.size_drew]; omega))); (repeat (first | exact Below.refl _ _ | exact HBE.out | refine Below.drew ?_ | refine Below.alloc ?_ (by first | omega | (simp only [World.size_alloc]; omega) | (simp only [World.size_drew, World.size_alloc]; omega) | (simp only [World.size_drew]; omega)) _ | refine set4_below ?_ (by omega) _ _ _ _))); have HBE := Lib.hid hB0; clear hB0 hb)
      | ((with_reducible refine (C2.out _).mono ?_); rintro e' w' ⟨rfl, hb⟩; obtain ⟨hc, hf⟩ := bcell hb; have zz := hb.size; (try simp only [World.size_drew] at zz); (try simp only [World.size_alloc] at zz); (try have zt := Nat.lt_of_lt_of_le zs zz); (try have zs := Nat.lt_of_succ_le zz); have y0 : w.heap.size < w'.heap.size := (by omega); have y1 : w.heap.size + 1 < w'.heap.size := (by omega); have y2 : w.heap.size + 2 < w'.heap.size := (by omega); have hB0 : Below w.heap.size w w' := (by refine Below.trans ?_ (hb.mono (by first | omega | (simp only [World.size_alloc]; omega) | (simp only [World.size_drew, World.size_alloc]; omega) | (simp only [World.size_drew]; omega))); (repeat (first | exact Below.refl _ _ | exact HBE.out | refine Below.drew ?_ | refine Below.alloc ?_ (by first | omega | (simp only [World.size_alloc]; omega) | (simp only [World.size_drew, World.size_alloc]; omega) | (simp only [World.size_drew]; omega)) _ | refine set4_below ?_ (by omega) _ _ _ _))); have HBE := Lib.hid hB0; clear hB0 hb)
      | ((with_reducible refine (C3.out _).mono ?_); rintro e' w' ⟨rfl, hb⟩; obtain ⟨hc, hf⟩ := bcell hb; have zz := hb.size; (try simp only [World.size_drew] at zz); (try simp only [World.size_alloc] at zz); (try have zt := Nat.lt_of_lt_of_le zs zz); (try have zs := Nat.lt_of_succ_le zz); have y0 : w.heap.size < w'.heap.size := (by omega); have y1 : w.heap.size + 1 < w'.heap.size := (by omega); have y2 : w.heap.size + 2 < w'.heap.size := (by omega); have hB0 : Below w.heap.size w w' := (by refine Below.trans ?_ (hb.mono (by first | omega | (simp only [World.size_alloc]; omega) | (simp only [World.size_drew, World.size_alloc]; omega) | (simp only [World.size_drew]; omega))); (repeat (first | exact Below.refl _ _ | exact HBE.out | refine Below.drew ?_ | refine Below.alloc ?_ (by first | omega | (simp only [World.size_alloc]; omega) | (simp only [World.size_drew, World.size_alloc]; omega) | (simp only [World.size_drew]; omega)) _ | refine set4_below ?_ (by omega) _ _ _ _))); have HBE := Lib.hid hB0; clear hB0 hb)
      | fail)
   all_goals (go_wp2_with fail; go_meet; refine ⟨⟨_, rfl, ⟨?_, ?_, ?_, ?_, ?_, ?_, ?_, ?_⟩⟩, rfl, ⟨?_, ?_, ?_, ?_, ?_, ?_, ?_, ?_⟩, ?_, ?_⟩)
   all_goals (try (go_simp; done))
   all_goals (repeat (first | exact Below.refl _ _ | exact HBE.out | refine Below.drew ?_ | refine Below.alloc ?_ (by first | omega | (simp only [World.size_alloc]; omega) | (simp only [World.size_drew, World.size_alloc]; omega) | (simp only [World.size_drew]; omega)) _ | refine set4_below ?_ (by omega) _ _ _ _))
  case rest =>
   obtain ⟨⟨g, rfl, hE⟩, rfl, hZ, hs, hB⟩ := hcut
   obtain ⟨c0, c1, c2, c3, f0, f1, f2, f3⟩ := hE
   obtain ⟨d0, d1, d2, d3, k0, k1, k2, k3⟩ := hZ
   have HB := Lib.hid hB
   clear hB
   by_cases hlt : V % PP < U % PP
   · have hbo : boN (V % PP) (U % PP) = 1 := if_pos hlt
     rw [hbo]
     have HM : Hid ((miN (V % PP) (U % PP) + PP) % W4 = subN V U) := by
       refine Lib.hid ?_
       rw [subN_a hlt, Nat.add_mod_left, Nat.mod_eq_of_lt (subN_lt V U)]
     have CP := Lib.hid (fun W => plusP (miN_lt (U := U % PP) (mod_lt4 V)) W)
     rw [HM.out] at CP
     have hs0 : w.heap.size < wc.heap.size := by omega
     have hs1 : w.heap.size + 1 < wc.heap.size := by omega
     clear hbo hlt
     go_wp2_with fail
     with_reducible refine (CP.out _).mono ?_
     rintro e w1 ⟨rfl, hb1⟩
     have B1 := Lib.hid hb1
     obtain ⟨hc1, hf1⟩ := bcell hb1
     have zz1 := hb1.size
     try simp only [World.size_alloc] at zz1
     have z1_0 : w.heap.size < w1.heap.size := by omega
     have z1_1 : w.heap.size + 1 < w1.heap.size := by omega
     have z1_2 : w.heap.size + 2 < w1.heap.size := by omega
     clear hb1 zz1
     go_wp2_with fail
     refine bodyPost_ret (v := .agg #[.int .u64 (l0 (subN V U) : Int), .int .u64 (l1 (subN V U) : Int), .int .u64 (l2 (subN V U) : Int), .int .u64 (l3 (subN V U) : Int)]) (by simp [results, Try.results23, go_sem, *]) rfl ⟨rfl, ?_⟩
     exact set4_below (HB.out.trans (B1.out.mono (by omega))) (g := w.heap.size + 2) (by omega) _ _ _ _
   · have hbo : boN (V % PP) (U % PP) = 0 := if_neg hlt
     rw [hbo, subN_b hlt] at *
     clear hbo hlt
     go_wp2_with fail
     refine bodyPost_ret (v := .agg #[.int .u64 (l0 (subN V U) : Int), .int .u64 (l1 (subN V U) : Int), .int .u64 (l2 (subN V U) : Int), .int .u64 (l3 (subN V U) : Int)]) (by simp [results, Try.results23, go_sem, *]) rfl ⟨rfl, ?_⟩
     exact set4_below HB.out (g := w.heap.size + 2) (by omega) _ _ _ _
end Go.Proofs.Ytgkglielcbgpiaa
