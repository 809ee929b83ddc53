/- The reference's Sub. -/
import Derived.Test.YtgkglielcbgpiaaR8
namespace Go.Proofs.Ytgkglielcbgpiaa
open Go.RowKit

theorem rminus38 {V : Nat} (hV : V < W4) (w : World) : Calls Try.prog 50 #[.agg #[.int .u32 (dig (V) 0 : Int), .int .u32 (dig (V) 1 : Int), .int .u32 (dig (V) 2 : Int), .int .u32 (dig (V) 3 : Int), .int .u32 (dig (V) 4 : Int), .int .u32 (dig (V) 5 : Int), .int .u32 (dig (V) 6 : Int), .int .u32 (dig (V) 7 : Int)], .agg #[.int .u32 38, .int .u32 0, .int .u32 0, .int .u32 0, .int .u32 0, .int .u32 0, .int .u32 0, .int .u32 0]] w fun e w' => e = .returned (.tuple #[.agg #[.int .u32 (dig (miN V 38) 0 : Int), .int .u32 (dig (miN V 38) 1 : Int), .int .u32 (dig (miN V 38) 2 : Int), .int .u32 (dig (miN V 38) 3 : Int), .int .u32 (dig (miN V 38) 4 : Int), .int .u32 (dig (miN V 38) 5 : Int), .int .u32 (dig (miN V 38) 6 : Int), .int .u32 (dig (miN V 38) 7 : Int)], .bool (boN V 38 == 1)]) ∧ Below w.heap.size w w' := rminus8 hV (by decide) w
theorem rsub_a {V U : Nat} (h : V % PP < U % PP) : miN (miN (V % PP) (U % PP)) 38 % PP = subN V U := by
  have h1 : V % PP < PP := Nat.mod_lt _ (by decide)
  have h2 : U % PP < PP := Nat.mod_lt _ (by decide)
  have e : PP + PP + 38 = W4 := by decide
  have hp : 38 < PP := by decide
  have e1 : miN (V % PP) (U % PP) = V % PP + W4 - U % PP := if_pos h
  have e2 : miN (V % PP + W4 - U % PP) 38 = V % PP + W4 - U % PP - 38 := if_neg (by omega)
  have e3 : V % PP + W4 - U % PP - 38 = (V % PP + PP - U % PP) + PP := by omega
  rw [e1, e2, e3, Nat.add_mod_right]
  rfl
theorem rsub_b {V U : Nat} (h : ¬ V % PP < U % PP) : miN (V % PP) (U % PP) % PP = subN V U := by
  rw [subN_b h]
  unfold subN
  rw [Nat.mod_mod]
structure SubR (w : World) (V U : Nat) (s5 s6 : Value) (wx : World) : Prop where
  g : ∃ g, s5 = .pointer (some ⟨g, 0, none⟩) ∧ w.heap.size + 2 < g ∧ E8 wx g (miN (V % PP) (U % PP))
  s : s6 = .bool (boN (V % PP) (U % PP) == 1)
  p : E8z wx (w.heap.size + 2) ∧ Below w.heap.size w wx ∧ w.heap.size + 2 < wx.heap.size

set_option maxRecDepth 100000 in
set_option maxHeartbeats 4000000 in
theorem rsubE {V U : Nat} (hV : V < W4) (hU : U < W4) (w : World) : Calls Try.prog 63 #[.agg #[.int .u32 (dig (V) 0 : Int), .int .u32 (dig (V) 1 : Int), .int .u32 (dig (V) 2 : Int), .int .u32 (dig (V) 3 : Int), .int .u32 (dig (V) 4 : Int), .int .u32 (dig (V) 5 : Int), .int .u32 (dig (V) 6 : Int), .int .u32 (dig (V) 7 : Int)], .agg #[.int .u32 (dig (U) 0 : Int), .int .u32 (dig (U) 1 : Int), .int .u32 (dig (U) 2 : Int), .int .u32 (dig (U) 3 : Int), .int .u32 (dig (U) 4 : Int), .int .u32 (dig (U) 5 : Int), .int .u32 (dig (U) 6 : Int), .int .u32 (dig (U) 7 : Int)]] w fun e w' => e = .returned (.agg #[.int .u32 (dig (subN V U) 0 : Int), .int .u32 (dig (subN V U) 1 : Int), .int .u32 (dig (subN V U) 2 : Int), .int .u32 (dig (subN V U) 3 : Int), .int .u32 (dig (subN V U) 4 : Int), .int .u32 (dig (subN V U) 5 : Int), .int .u32 (dig (subN V U) 6 : Int), .int .u32 (dig (subN V U) 7 : Int)]) ∧ Below w.heap.size w w' := by
  have C1 := Lib.hid (fun W => rnormE hV W)
  have C2 := Lib.hid (fun W => rnormE hU W)
  have C3 := Lib.hid (fun W => rminus8 (mod_lt4 V) (mod_lt4 U) W)
  clear hV hU
  go_enter Try.func63, Try.ntmps63
  go_upto_region 1 with fail
  go_cut [5, 6] (fun s5 s6 wx => SubR w V U s5 s6 wx)
  case first =>
   obtain ⟨wr, hwr⟩ : ∃ wr, wr = ((w.alloc (.cells #[.int .u32 (dig (V) 0 : Int), .int .u32 (dig (V) 1 : Int), .int .u32 (dig (V) 2 : Int), .int .u32 (dig (V) 3 : Int), .int .u32 (dig (V) 4 : Int), .int .u32 (dig (V) 5 : Int), .int .u32 (dig (V) 6 : Int), .int .u32 (dig (V) 7 : Int)] 34)).alloc (.cells #[.int .u32 (dig (U) 0 : Int), .int .u32 (dig (U) 1 : Int), .int .u32 (dig (U) 2 : Int), .int .u32 (dig (U) 3 : Int), .int .u32 (dig (U) 4 : Int), .int .u32 (dig (U) 5 : Int), .int .u32 (dig (U) 6 : Int), .int .u32 (dig (U) 7 : Int)] 34)).alloc (.cells #[.int .u32 0, .int .u32 0, .int .u32 0, .int .u32 0, .int .u32 0, .int .u32 0, .int .u32 0, .int .u32 0] 34) := ⟨_, rfl⟩
   rw [← hwr]
   have a0 : E8 wr w.heap.size V := by
     rw [hwr]
     exact ((E8.new w V).below ((Below.refl _ _).alloc (Nat.le_refl _) _) (by simp)).below ((Below.refl _ _).alloc (Nat.le_refl _) _) (by simp; omega)
   have a1 : E8 wr (w.heap.size + 1) U := by
     rw [hwr]
     have h := (E8.new (w.alloc (.cells #[.int .u32 (dig (V) 0 : Int), .int .u32 (dig (V) 1 : Int), .int .u32 (dig (V) 2 : Int), .int .u32 (dig (V) 3 : Int), .int .u32 (dig (V) 4 : Int), .int .u32 (dig (V) 5 : Int), .int .u32 (dig (V) 6 : Int), .int .u32 (dig (V) 7 : Int)] 34)) U).below ((Below.refl _ _).alloc (Nat.le_refl _) (.cells #[.int .u32 0, .int .u32 0, .int .u32 0, .int .u32 0, .int .u32 0, .int .u32 0, .int .u32 0, .int .u32 0] 34)) (by simp)
     simpa using h
   have a2 : E8z wr (w.heap.size + 2) := by
     rw [hwr]
     have h := E8z.new ((w.alloc (.cells #[.int .u32 (dig (V) 0 : Int), .int .u32 (dig (V) 1 : Int), .int .u32 (dig (V) 2 : Int), .int .u32 (dig (V) 3 : Int), .int .u32 (dig (V) 4 : Int), .int .u32 (dig (V) 5 : Int), .int .u32 (dig (V) 6 : Int), .int .u32 (dig (V) 7 : Int)] 34)).alloc (.cells #[.int .u32 (dig (U) 0 : Int), .int .u32 (dig (U) 1 : Int), .int .u32 (dig (U) 2 : Int), .int .u32 (dig (U) 3 : Int), .int .u32 (dig (U) 4 : Int), .int .u32 (dig (U) 5 : Int), .int .u32 (dig (U) 6 : Int), .int .u32 (dig (U) 7 : Int)] 34))
     simpa using h
   have HBE : Hid (Below w.heap.size w wr) := Lib.hid (by
     rw [hwr]
     exact (((Below.refl _ _).alloc (Nat.le_refl _) _).alloc (by simp) _).alloc (by simp; omega) _)
   have y2 : w.heap.size + 2 < wr.heap.size := by rw [hwr]; simp
   have y1 : w.heap.size + 1 < wr.heap.size := by omega
   have y0 : w.heap.size < wr.heap.size := by omega
   have q2 := y2
   have hbe := HBE
   have A2 := Lib.hid a2
   clear hwr a2
   obtain ⟨c0, c1, c2, c3, c4, c5, c6, c7, _, _, _, _, _, _, _, _⟩ := a0
   obtain ⟨d0, d1, d2, d3, d4, d5, d6, d7, _, _, _, _, _, _, _, _⟩ := a1
   go_region_held3 (fun w' => w'.cell? ⟨w.heap.size, 0, none⟩ = some (.int .u32 (dig V 0 : Int)) ∧ w'.cell? ⟨w.heap.size, 1, none⟩ = some (.int .u32 (dig V 1 : Int)) ∧ w'.cell? ⟨w.heap.size, 2, none⟩ = some (.int .u32 (dig V 2 : Int)) ∧ w'.cell? ⟨w.heap.size, 3, none⟩ = some (.int .u32 (dig V 3 : Int))
        ∧ w'.cell? ⟨w.heap.size, 4, none⟩ = some (.int .u32 (dig V 4 : Int)) ∧ w'.cell? ⟨w.heap.size, 5, none⟩ = some (.int .u32 (dig V 5 : Int)) ∧ w'.cell? ⟨w.heap.size, 6, none⟩ = some (.int .u32 (dig V 6 : Int)) ∧ w'.cell? ⟨w.heap.size, 7, none⟩ = some (.int .u32 (dig V 7 : Int))
        ∧ w'.cell? ⟨w.heap.size + 1, 0, none⟩ = some (.int .u32 (dig U 0 : Int)) ∧ w'.cell? ⟨w.heap.size + 1, 1, none⟩ = some (.int .u32 (dig U 1 : Int)) ∧ w'.cell? ⟨w.heap.size + 1, 2, none⟩ = some (.int .u32 (dig U 2 : Int)) ∧ w'.cell? ⟨w.heap.size + 1, 3, none⟩ = some (.int .u32 (dig U 3 : Int))
        ∧ w'.cell? ⟨w.heap.size + 1, 4, none⟩ = some (.int .u32 (dig U 4 : Int)) ∧ w'.cell? ⟨w.heap.size + 1, 5, none⟩ = some (.int .u32 (dig U 5 : Int)) ∧ w'.cell? ⟨w.heap.size + 1, 6, none⟩ = some (.int .u32 (dig U 6 : Int)) ∧ w'.cell? ⟨w.heap.size + 1, 7, none⟩ = some (.int .u32 (dig U 7 : Int))) (go_simp)
    (first
      | ((with_reducible refine (C1.out _).mono ?_); rintro e' w' ⟨rfl, hb⟩; (try replace hb := undrew hb); (first | (have HZN := Lib.hid (HZN.out.below hb (by omega))) | (have HZN := Lib.hid ((E8z.new _).below hb (by simp only [World.size_alloc]; omega))) | skip); obtain ⟨hc, hf⟩ := bcell hb; (try simp only [World.size_drew] at hc hf); have zz := hb.size; (try simp only [World.size_drew] at zz); (try simp only [World.size_alloc] at zz); (first | (have zt := Nat.lt_of_lt_of_le zt zz) | (have zt := Nat.lt_of_lt_of_le zs zz) | skip); (try have zs := Nat.lt_of_succ_le zz); have y0 : w.heap.size < w'.heap.size := (by omega); have y1 : w.heap.size + 1 < w'.heap.size := (by omega); have y2 : w.heap.size + 2 < w'.heap.size := (by omega); have hB0 : Below w.heap.size w w' := (by refine Below.trans ?_ (hb.mono (by first | omega | (simp only [World.size_alloc]; omega) | (simp only [World.size_drew, World.size_alloc]; omega) | (simp only [World.size_drew]; omega))); (repeat (first | (with_reducible exact Below.refl _ _) | (with_reducible exact HBE.out) | (with_reducible refine Below.drew ?_) | ((with_reducible refine Below.alloc ?_ ?_ _); rotate_left; (first | omega | (simp only [World.size_alloc]; omega) | (simp only [World.size_drew, World.size_alloc]; omega) | (simp only [World.size_drew]; omega))) | ((with_reducible refine set4_below ?_ ?_ _ _ _ _); rotate_left; omega) | ((with_reducible refine Below.setCell ?_ ?_ _); rotate_left; (show _ ≤ _); (simp only); omega)))); have HBE := Lib.hid hB0; clear hB0; have yr : wr.heap.size ≤ w'.heap.size := (by omega); have hB1 : Below wr.heap.size wr w' := (by refine Below.trans ?_ (hb.mono (by first | omega | (simp only [World.size_alloc]; omega) | (simp only [World.size_drew, World.size_alloc]; omega) | (simp only [World.size_drew]; omega))); (repeat (first | (with_reducible exact Below.refl _ _) | (with_reducible exact HBR.out) | (with_reducible refine Below.drew ?_) | ((with_reducible refine Below.alloc ?_ ?_ _); rotate_left; (first | omega | (simp only [World.size_alloc]; omega) | (simp only [World.size_drew, World.size_alloc]; omega) | (simp only [World.size_drew]; omega))) | ((with_reducible refine set4_below ?_ ?_ _ _ _ _); rotate_left; omega) | ((with_reducible refine Below.setCell ?_ ?_ _); rotate_left; (show _ ≤ _); (simp only); omega)))); have HBR := Lib.hid hB1; clear hB1 hb)
      | ((with_reducible refine (C2.out _).mono ?_); rintro e' w' ⟨rfl, hb⟩; (try replace hb := undrew hb); (first | (have HZN := Lib.hid (HZN.out.below hb (by omega))) | (have HZN := Lib.hid ((E8z.new _).below hb (by simp only [World.size_alloc]; omega))) | skip); obtain ⟨hc, hf⟩ := bcell hb; (try simp only [World.size_drew] at hc hf); have zz := hb.size; (try simp only [World.size_drew] at zz); (try simp only [World.size_alloc] at zz); (first | (have zt := Nat.lt_of_lt_of_le zt zz) | (have zt := Nat.lt_of_lt_of_le zs zz) | skip); (try have zs := Nat.lt_of_succ_le zz); have y0 : w.heap.size < w'.heap.size := (by omega); have y1 : w.heap.size + 1 < w'.heap.size := (by omega); have y2 : w.heap.size + 2 < w'.heap.size := (by omega); have hB0 : Below w.heap.size w w' := (by refine Below.trans ?_ (hb.mono (by first | omega | (simp only [World.size_alloc]; omega) | (simp only [World.size_drew, World.size_alloc]; omega) | (simp only [World.size_drew]; omega))); (repeat (first | (with_reducible exact Below.refl _ _) | (with_reducible exact HBE.out) | (with_reducible refine Below.drew ?_) | ((with_reducible refine Below.alloc ?_ ?_ _); rotate_left; (first | omega | (simp only [World.size_alloc]; omega) | (simp only [World.size_drew, World.size_alloc]; omega) | (simp only [World.size_drew]; omega))) | ((with_reducible refine set4_below ?_ ?_ _ _ _ _); rotate_left; omega) | ((with_reducible refine Below.setCell ?_ ?_ _); rotate_left; (show _ ≤ _); (simp only); omega)))); have HBE := Lib.hid hB0; clear hB0; have yr : wr.heap.size ≤ w'.heap.size := (by omega); have hB1 : Below wr.heap.size wr w' := (by refine Below.trans ?_ (hb.mono (by first | omega | (simp only [World.size_alloc]; omega) | (simp only [World.size_drew, World.size_alloc]; omega) | (simp only [World.size_drew]; omega))); (repeat (first | (with_reducible exact Below.refl _ _) | (with_reducible exact HBR.out) | (with_reducible refine Below.drew ?_) | ((with_reducible refine Below.alloc ?_ ?_ _); rotate_left; (first | omega | (simp only [World.size_alloc]; omega) | (simp only [World.size_drew, World.size_alloc]; omega) | (simp only [World.size_drew]; omega))) | ((with_reducible refine set4_below ?_ ?_ _ _ _ _); rotate_left; omega) | ((with_reducible refine Below.setCell ?_ ?_ _); rotate_left; (show _ ≤ _); (simp only); omega)))); have HBR := Lib.hid hB1; clear hB1 hb)
      | ((with_reducible refine (C3.out _).mono ?_); rintro e' w' ⟨rfl, hb⟩; (try replace hb := undrew hb); (first | (have HZN := Lib.hid (HZN.out.below hb (by omega))) | (have HZN := Lib.hid ((E8z.new _).below hb (by simp only [World.size_alloc]; omega))) | skip); obtain ⟨hc, hf⟩ := bcell hb; (try simp only [World.size_drew] at hc hf); have zz := hb.size; (try simp only [World.size_drew] at zz); (try simp only [World.size_alloc] at zz); (first | (have zt := Nat.lt_of_lt_of_le zt zz) | (have zt := Nat.lt_of_lt_of_le zs zz) | skip); (try have zs := Nat.lt_of_succ_le zz); have y0 : w.heap.size < w'.heap.size := (by omega); have y1 : w.heap.size + 1 < w'.heap.size := (by omega); have y2 : w.heap.size + 2 < w'.heap.size := (by omega); have hB0 : Below w.heap.size w w' := (by refine Below.trans ?_ (hb.mono (by first | omega | (simp only [World.size_alloc]; omega) | (simp only [World.size_drew, World.size_alloc]; omega) | (simp only [World.size_drew]; omega))); (repeat (first | (with_reducible exact Below.refl _ _) | (with_reducible exact HBE.out) | (with_reducible refine Below.drew ?_) | ((with_reducible refine Below.alloc ?_ ?_ _); rotate_left; (first | omega | (simp only [World.size_alloc]; omega) | (simp only [World.size_drew, World.size_alloc]; omega) | (simp only [World.size_drew]; omega))) | ((with_reducible refine set4_below ?_ ?_ _ _ _ _); rotate_left; omega) | ((with_reducible refine Below.setCell ?_ ?_ _); rotate_left; (show _ ≤ _); (simp only); omega)))); have HBE := Lib.hid hB0; clear hB0; have yr : wr.heap.size ≤ w'.heap.size := (by omega); have hB1 : Below wr.heap.size wr w' := (by refine Below.trans ?_ (hb.mono (by first | omega | (simp only [World.size_alloc]; omega) | (simp only [World.size_drew, World.size_alloc]; omega) | (simp only [World.size_drew]; omega))); (repeat (first | (with_reducible exact Below.refl _ _) | (with_reducible exact HBR.out) | (with_reducible refine Below.drew ?_) | ((with_reducible refine Below.alloc ?_ ?_ _); rotate_left; (first | omega | (simp only [World.size_alloc]; omega) | (simp only [World.size_drew, World.size_alloc]; omega) | (simp only [World.size_drew]; omega))) | ((with_reducible refine set4_below ?_ ?_ _ _ _ _); rotate_left; omega) | ((with_reducible refine Below.setCell ?_ ?_ _); rotate_left; (show _ ≤ _); (simp only); omega)))); have HBR := Lib.hid hB1; clear hB1 hb)
      | fail)
   all_goals
     go_wp2_with fail
     go_meet
     have hBR : ∀ W, Below wr.heap.size wr W → E8z W (w.heap.size + 2) ∧ Below w.heap.size w W ∧ w.heap.size + 2 < W.heap.size := fun W h => ⟨A2.out.below h q2, hbe.out.trans (h.mono (by omega)), by have := h.size; omega⟩
     refine ⟨⟨_, rfl, ?_, ?_⟩, rfl, hBR _ ?_⟩
     · first | omega | (simp only [World.size_alloc]; omega)
     · first | (with_reducible exact E8.new _ _) | (with_reducible exact set8_e8 HZN.out _)
     · (repeat (first | (with_reducible exact Below.refl _ _) | (with_reducible exact HBR.out) | (with_reducible refine Below.drew ?_) | ((with_reducible refine Below.alloc ?_ ?_ _); rotate_left; (first | omega | (simp only [World.size_alloc]; omega) | (simp only [World.size_drew, World.size_alloc]; omega) | (simp only [World.size_drew]; omega))) | ((with_reducible refine set4_below ?_ ?_ _ _ _ _); rotate_left; omega) | ((with_reducible refine Below.setCell ?_ ?_ _); rotate_left; (show _ ≤ _); (simp only); omega)))
  case rest =>
   obtain ⟨⟨g, rfl, hg, hE⟩, rfl, hZ, hB, hs⟩ := hcut
   have HB := Lib.hid hB; have HE := Lib.hid hE; have HZ := Lib.hid hZ
   obtain ⟨c0, c1, c2, c3, c4, c5, c6, c7, f0, f1, f2, f3, f4, f5, f6, f7⟩ := hE
   have hgs : g < wc.heap.size := World.block_lt_of_cell? wc ⟨g, 0, none⟩ c0
   have x1 : w.heap.size + 1 < wc.heap.size := by omega
   have x0 : w.heap.size < wc.heap.size := by omega
   clear hB hZ C1 C2 C3
   by_cases hlt : V % PP < U % PP
   · have hb1 : (boN (V % PP) (U % PP) == 1) = true := by unfold boN; rw [if_pos hlt]; rfl
     have hM : miN (V % PP) (U % PP) < W4 := miN_lt (mod_lt4 V)
     have C4 := Lib.hid (fun W => rminus38 hM W)
     have C5 := Lib.hid (fun W => rnormE (miN_lt (U := 38) hM) W)
     rw [rsub_a hlt] at C5
     obtain ⟨M, hMM⟩ : ∃ M, M = miN (V % PP) (U % PP) := ⟨_, rfl⟩
     obtain ⟨K, hK⟩ : ∃ K, K = miN M 38 := ⟨_, rfl⟩
     rw [← hMM, ← hK] at C4 C5
     rw [← hMM] at c0 c1 c2 c3 c4 c5 c6 c7 HE
     rw [hb1]
     clear hM hb1 hlt hMM hK
     go_wp2_with fail
     with_reducible refine (C4.out _).mono ?_
     rintro e w1 ⟨rfl, hb1⟩
     have B1 := Lib.hid hb1
     obtain ⟨hc1, hf1⟩ := bcell hb1
     have zz1 := hb1.size
     try simp only [World.size_alloc] at zz1
     have z1_0 : g < w1.heap.size := by omega
     have z1_1 : w.heap.size + 2 < w1.heap.size := by omega
     have z1_2 : w.heap.size + 1 < w1.heap.size := by omega
     have z1_3 : w.heap.size < w1.heap.size := by omega
     clear hb1 zz1
     have he1 := set8_set (HE.out.below B1.out hgs) K
     have hz1 := (HZ.out.below B1.out (by omega)).far (g := g) (by omega) K
     have hbb := set8_below (HB.out.trans (B1.out.mono (by omega))) (g := g) (by omega) K
     have hss : g < ((((((((((w1).setCell ⟨g, 0, none⟩ (.int .u32 (dig (K) 0 : Int))).setCell ⟨g, 1, none⟩ (.int .u32 (dig (K) 1 : Int))).setCell ⟨g, 2, none⟩ (.int .u32 (dig (K) 2 : Int))).setCell ⟨g, 3, none⟩ (.int .u32 (dig (K) 3 : Int))).setCell ⟨g, 4, none⟩ (.int .u32 (dig (K) 4 : Int))).setCell ⟨g, 5, none⟩ (.int .u32 (dig (K) 5 : Int))).setCell ⟨g, 6, none⟩ (.int .u32 (dig (K) 6 : Int))).setCell ⟨g, 7, none⟩ (.int .u32 (dig (K) 7 : Int)))).heap.size := World.block_lt_of_cell? _ ⟨g, 0, none⟩ he1.c0
     obtain ⟨W1, hW1⟩ : ∃ W1, W1 = (((((((((w1).setCell ⟨g, 0, none⟩ (.int .u32 (dig (K) 0 : Int))).setCell ⟨g, 1, none⟩ (.int .u32 (dig (K) 1 : Int))).setCell ⟨g, 2, none⟩ (.int .u32 (dig (K) 2 : Int))).setCell ⟨g, 3, none⟩ (.int .u32 (dig (K) 3 : Int))).setCell ⟨g, 4, none⟩ (.int .u32 (dig (K) 4 : Int))).setCell ⟨g, 5, none⟩ (.int .u32 (dig (K) 5 : Int))).setCell ⟨g, 6, none⟩ (.int .u32 (dig (K) 6 : Int))).setCell ⟨g, 7, none⟩ (.int .u32 (dig (K) 7 : Int))) := ⟨_, rfl⟩
     rw [← hW1] at he1 hz1 hbb hss
     have HW1 := Lib.hid hW1; have HZ1 := Lib.hid hz1; have HBB := Lib.hid hbb
     go_wp2_with fail
     rw [← HW1.out]
     have x2 : w.heap.size + 2 < W1.heap.size := by omega
     clear hc1 hf1 hz1 hbb hW1
     with_reducible refine (C5.out _).mono ?_
     rintro e w2 ⟨rfl, hb2⟩
     have B2 := Lib.hid hb2
     obtain ⟨d0, d1, d2, d3, d4, d5, d6, d7, k0, k1, k2, k3, k4, k5, k6, k7⟩ := HZ1.out.below hb2 x2
     clear hb2
     go_wp2_with fail
     refine bodyPost_ret (v := .agg #[.int .u32 (dig (subN V U) 0 : Int), .int .u32 (dig (subN V U) 1 : Int), .int .u32 (dig (subN V U) 2 : Int), .int .u32 (dig (subN V U) 3 : Int), .int .u32 (dig (subN V U) 4 : Int), .int .u32 (dig (subN V U) 5 : Int), .int .u32 (dig (subN V U) 6 : Int), .int .u32 (dig (subN V U) 7 : Int)]) (by simp [results, Try.results63, go_sem, *]) rfl ⟨rfl, ?_⟩
     exact set8_below (HBB.out.trans (B2.out.mono (by omega))) (g := w.heap.size + 1 + 1) (by omega) _
   · have hb1 : (boN (V % PP) (U % PP) == 1) = false := by unfold boN; rw [if_neg hlt]; rfl
     have hM : miN (V % PP) (U % PP) < W4 := miN_lt (mod_lt4 V)
     have C5 := Lib.hid (fun W => rnormE hM W)
     rw [rsub_b hlt] at C5
     rw [hb1]
     clear hM hb1 hlt
     go_wp2_with fail
     with_reducible refine (C5.out _).mono ?_
     rintro e w2 ⟨rfl, hb2⟩
     have B2 := Lib.hid hb2
     obtain ⟨d0, d1, d2, d3, d4, d5, d6, d7, k0, k1, k2, k3, k4, k5, k6, k7⟩ := HZ.out.below hb2 hs
     clear hb2
     go_wp2_with fail
     refine bodyPost_ret (v := .agg #[.int .u32 (dig (subN V U) 0 : Int), .int .u32 (dig (subN V U) 1 : Int), .int .u32 (dig (subN V U) 2 : Int), .int .u32 (dig (subN V U) 3 : Int), .int .u32 (dig (subN V U) 4 : Int), .int .u32 (dig (subN V U) 5 : Int), .int .u32 (dig (subN V U) 6 : Int), .int .u32 (dig (subN V U) 7 : Int)]) (by simp [results, Try.results63, go_sem, *]) rfl ⟨rfl, ?_⟩
     exact set8_below (HB.out.trans (B2.out.mono (by omega))) (g := w.heap.size + 1 + 1) (by omega) _
end Go.Proofs.Ytgkglielcbgpiaa
