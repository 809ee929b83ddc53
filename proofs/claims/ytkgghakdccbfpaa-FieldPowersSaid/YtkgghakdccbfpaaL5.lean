/- FieldPowers, walked. -/
import Derived.Test.YtkgghakdccbfpaaL3
import Derived.Test.YtkgghakdccbfpaaRefCopyB
import Derived.Test.YtkgghakdccbfpaaF16
import Derived.Deep.WholeRow
namespace Go.Proofs.Ytkgghakdccbfpaa
open Go.RowKit

theorem of19 (w : World) : Calls Try.prog 23 #[.int .u64 19] w fun e w' => e = .returned (.agg #[.int .u64 (l0 (19) : Int), .int .u64 (l1 (19) : Int), .int .u64 (l2 (19) : Int), .int .u64 (l3 (19) : Int)]) ∧ Below w.heap.size w w' := ofE 19 (by omega) w
theorem pow255 : 2 ^ numL [255] % PP = 19 := by decide +kernel
/-- the two exponents, cut -/
structure Cuts (W0 : World) (B : Nat) (s1 s2 : Value) (wx : World) : Prop where
  same : wx = W0
  a : ∃ l, l.length ≤ 40 ∧ Bs W0 B s1 l
  b : ∃ l, l.length ≤ 40 ∧ Bs W0 B s2 l
theorem cut40 {w : World} {B : Nat} {A : Option Addr} {n c : Nat} {l : List UInt8} (h : Bs w B (.slice A n c) l) (hn : 40 < n) :
    ∃ D, (∃ m : List UInt8, m.length ≤ 40 ∧ Bs w B (.slice D 40 c) m) ∧
      ∀ W, (Instr.slice 40 (.slice A n c) none (some (.int .i64 40)) none).run Try.prog W = .ok (.slice D 40 c) W := by
  obtain ⟨A', c', hv, g1, g2, g3⟩ := h
  simp only [Value.slice.injEq] at hv
  obtain ⟨rfl, rfl, rfl⟩ := hv
  have hlen : (l.take 40).length = 40 := by rw [List.length_take]; omega
  obtain ⟨D, hD, hrun⟩ := cut_h (A := A) (n := l.length) (c := c) (h := 40) (by omega)
  obtain ⟨b, off, rfl, hb, hc⟩ := g3 (by omega)
  refine ⟨D, ⟨l.take 40, by omega, ⟨D, c, by rw [hlen], by omega, g2, fun _ => ⟨b, off, hD (by omega), hb, fun j hj => ?_⟩⟩⟩, hrun⟩
  rw [hc j (by omega), List.getElem_take]

theorem getD_over {l : List UInt8} {k : Nat} (h : ¬ k < l.length) : l.getD k 0 = 0 := by
  rw [List.getD_eq_getElem?_getD, List.getElem?_eq_none (by omega)]
  rfl
theorem numL_takes (l : List UInt8) (k : Nat) : numL (l.take (k + 1)) = numL (l.take k) + (l.getD k 0).toNat * 256 ^ k := by
  by_cases h : k < l.length
  · exact numL_take h
  · rw [List.take_of_length_le (by omega), List.take_of_length_le (by omega)]
    rw [getD_over h]
    simp
theorem carry_step {l m L : List UInt8} {k c x y T : Nat} (hL : L.length = k) (hc : c ≤ 1) (hx : x = (l.getD k 0).toNat) (hy : y = (m.getD k 0).toNat) (hT : T = c + x + y)
    (h : numL L + c * 256 ^ k = numL (l.take k) + numL (m.take k)) :
    numL (L ++ [UInt8.ofNat T]) + T / 256 * 256 ^ (k + 1) = numL (l.take (k + 1)) + numL (m.take (k + 1)) ∧ T / 256 ≤ 1 := by
  have xb := UInt8.toNat_lt (l.getD k 0)
  have yb := UInt8.toNat_lt (m.getD k 0)
  refine ⟨?_, by omega⟩
  rw [numL_snoc, numL_takes l k, numL_takes m k, ← hx, ← hy, hL, UInt8.toNat_ofNat']
  show numL L + (T % 256) * 256 ^ k + T / 256 * (256 ^ k * 256) = _
  have e : (T % 256) * 256 ^ k + T / 256 * (256 ^ k * 256) = T * 256 ^ k := by
    rw [Nat.mul_comm (256 ^ k) 256, ← Nat.mul_assoc, ← Nat.add_mul]
    congr 1
    omega
  rw [Nat.add_assoc, e, hT, Nat.add_mul, Nat.add_mul]
  omega
theorem one_mod (wr : World) (T : Nat) (z : Int) (hz : z = (T : Int)) : Bs (wr.alloc (.cells #[.int .u8 (z % 256)] 5)) (wr.heap.size + 1) (.slice (some ⟨wr.heap.size, 0, none⟩) 1 1) [UInt8.ofNat T] := by
  have h := Bs.one wr (UInt8.ofNat T)
  have hv : vb (UInt8.ofNat T) = .int .u8 (z % 256) := by rw [hz]; simp [vb, UInt8.toNat_ofNat']
  rw [hv] at h
  exact h
theorem pow_sum {V A B S : Nat} (h : S = A + B) : prodP [V ^ A % PP, V ^ B % PP] = V ^ S % PP := by
  rw [prod_pair, h, Nat.pow_add, Nat.mod_mod, ← Nat.mul_mod]

set_option maxRecDepth 100000 in
set_option maxHeartbeats 4000000 in
theorem powers_walk {V : Nat} (hV : V < W4) {le lf : List UInt8} {ve vf : Value} {w : World} (he : Bs w w.heap.size ve le) (hf : Bs w w.heap.size vf lf) : Calls Try.prog 7 #[.agg #[.int .u64 (l0 (V) : Int), .int .u64 (l1 (V) : Int), .int .u64 (l2 (V) : Int), .int .u64 (l3 (V) : Int)], ve, vf] w fun e w' => e = .returned (.bool true) ∧ Below w.heap.size w w' := by
  have CA := Lib.hid (fun W => awakeE W)
  have C2 := Lib.hid (fun W => of2 W)
  have C19 := Lib.hid (fun W => of19 W)
  have HE := Lib.hid he; have HF := Lib.hid hf; have HV := Lib.hid hV
  clear he hf hV
  go_enter Try.func7, Try.ntmps7
  go_wp2_with fail
  with_reducible refine (CA.out _).mono ?_
  rintro e w1 ⟨rfl, hb1⟩
  have B1 := Lib.hid hb1
  obtain ⟨hc1, hf1⟩ := bcell hb1
  have zz1 := hb1.size
  try simp only [World.size_alloc] at zz1
  have z1_0 : w.heap.size < w1.heap.size := by omega
  clear hb1 zz1
  have a0 : Ec w1 w.heap.size V := (Ec.newT w 24 V).below B1.out (by simp)
  have hbe : Below w.heap.size w w1 := by
    have b1 := B1.out
    simp only [World.size_alloc] at b1
    exact ((Below.refl w.heap.size w).alloc (Nat.le_refl _) _).trans (b1.mono (by omega))
  have A0 := Lib.hid a0; have HBE := Lib.hid hbe
  clear hc1 hf1 a0 hbe B1
  go_wp2_with fail
  with_reducible refine (C2.out _).mono ?_
  rintro e w2 ⟨rfl, hb2⟩
  have B2 := Lib.hid hb2
  obtain ⟨hc2, hf2⟩ := bcell hb2
  have zz2 := hb2.size
  try simp only [World.size_alloc] at zz2
  have z2_0 : w.heap.size < w2.heap.size := by omega
  clear hb2 zz2
  have A2 := Lib.hid (A0.out.below B2.out z1_0)
  have hbe := HBE.out.trans (B2.out.mono (by omega))
  have HBE := Lib.hid hbe
  clear hc2 hf2 hbe B2 A0 z1_0
  have hbs : Bs (w2.alloc (.cells #[.int .u8 255] 5)) (w2.heap.size + 1) (.slice (some ⟨w2.heap.size, 0, none⟩) 1 1) [255] := Bs.one w2 255
  have CP := Lib.hid (powE (V := 2) (by decide) (w := w2.alloc (.cells #[.int .u8 255] 5)) (by simpa using hbs))
  rw [pow255] at CP
  clear hbs
  go_wp2_with fail
  with_reducible refine (CP.out).mono ?_
  rintro e3 w3 ⟨rfl, hb3⟩
  have hal : Below w2.heap.size w2 (w2.alloc (.cells #[.int .u8 255] 5)) := (Below.refl _ _).alloc (Nat.le_refl _) _
  simp only [World.size_alloc] at hb3
  have hb23 : Below w2.heap.size w2 w3 := hal.trans (hb3.mono (by omega))
  have A3 := Lib.hid (A2.out.below hb23 z2_0)
  have hbe := HBE.out.trans (hb23.mono (by omega))
  have HBE := Lib.hid hbe
  have z3_0 : w.heap.size < w3.heap.size := by have := hb23.size; omega
  clear hbe hb3 hal hb23 A2 z2_0 CP
  have CI := Lib.hid (fun W => isE (V := 19) (U := 19) (by decide) (by decide) W)
  rw [decide_eq_true rfl] at CI
  go_wp2_with fail
  with_reducible refine (C19.out _).mono ?_
  rintro e w4 ⟨rfl, hb4⟩
  have B4 := Lib.hid hb4
  obtain ⟨hc4, hf4⟩ := bcell hb4
  have zz4 := hb4.size
  try simp only [World.size_alloc] at zz4
  have z4_0 : w.heap.size < w4.heap.size := by omega
  clear hb4 zz4
  have A4 := Lib.hid (A3.out.below B4.out z3_0)
  have hbe := HBE.out.trans (B4.out.mono (by omega))
  have HBE := Lib.hid hbe
  clear hc4 hf4 hbe B4 A3 z3_0
  go_wp2_with fail
  with_reducible refine (CI.out _).mono ?_
  rintro e w5 ⟨rfl, hb5⟩
  have B5 := Lib.hid hb5
  obtain ⟨hc5, hf5⟩ := bcell hb5
  have zz5 := hb5.size
  try simp only [World.size_alloc] at zz5
  have z5_0 : w.heap.size < w5.heap.size := by omega
  clear hb5 zz5
  have A5 := Lib.hid (A4.out.below B5.out z4_0)
  have hbe := HBE.out.trans (B5.out.mono (by omega))
  have HBE := Lib.hid hbe
  clear hc5 hf5 hbe B5 A4 z4_0 C2 C19 CI
  have hbw := HBE.out.size
  have h1 := HE.out.below HBE.out (Nat.le_refl _)
  have h2 := HF.out.below HBE.out (Nat.le_refl _)
  obtain ⟨A, c, rfl⟩ := h1.shape
  obtain ⟨A', c', rfl⟩ := h2.shape
  have H1 := Lib.hid h1; have H2 := Lib.hid h2
  have m1 : le.length ≤ 9223372036854775807 := by obtain ⟨_, _, hv, g1, g2, _⟩ := h1; unfold maxLen at g2; simp only [Value.slice.injEq] at hv; omega
  have m2 : lf.length ≤ 9223372036854775807 := by obtain ⟨_, _, hv, g1, g2, _⟩ := h2; unfold maxLen at g2; simp only [Value.slice.injEq] at hv; omega
  clear h1 h2 HE HF
  obtain ⟨n, hn⟩ : ∃ n, n = le.length := ⟨_, rfl⟩
  obtain ⟨n', hn'⟩ : ∃ n', n' = lf.length := ⟨_, rfl⟩
  rw [← hn] at m1 H1 ⊢
  rw [← hn'] at m2 H2 ⊢
  have HN := Lib.hid hn; have HN' := Lib.hid hn'
  clear hn hn'
  go_upto_if 23 with fail
  go_cut [1] (fun s1 wx => wx = w5 ∧ ∃ l, l.length ≤ 40 ∧ Bs w5 w.heap.size s1 l)
  case first =>
    by_cases g : 40 < n
    · obtain ⟨D, hD, hrun⟩ := cut40 H1.out g
      have HD := Lib.hid hD
      have t1 : decide ((40 : Int) < (n : Int)) = true := by simp; omega
      clear hD
      rw [t1]
      go_wp2_with fail
      go_meet
      exact ⟨rfl, HD.out⟩
    · have t1 : decide ((40 : Int) < (n : Int)) = false := by simp; omega
      rw [t1]
      go_wp2_with fail
      go_meet
      exact ⟨rfl, le, by rw [← HN.out]; omega, H1.out⟩
  case rest =>
    obtain ⟨rfl, l, hl, hb⟩ := hcut
    have H1 := Lib.hid hb; have HL := Lib.hid hl
    clear hb hl m1
    go_upto_if 28 with fail
    go_cut [2] (fun s2 wx => wx = wc ∧ ∃ l, l.length ≤ 40 ∧ Bs wc w.heap.size s2 l)
    case first =>
      by_cases g : 40 < n'
      · obtain ⟨D, hD, hrun⟩ := cut40 H2.out g
        have HD := Lib.hid hD
        have t1 : decide ((40 : Int) < (n' : Int)) = true := by simp; omega
        clear hD
        rw [t1]
        go_wp2_with fail
        go_meet
        exact ⟨rfl, HD.out⟩
      · have t1 : decide ((40 : Int) < (n' : Int)) = false := by simp; omega
        rw [t1]
        go_wp2_with fail
        go_meet
        exact ⟨rfl, lf, by rw [← HN'.out]; omega, H2.out⟩
    case rest =>
      obtain ⟨rfl, m, hm, hbm⟩ := hcut
      have hb := H1.out
      obtain ⟨D1, e1, rfl⟩ := hb.shape
      obtain ⟨D2, e2, rfl⟩ := hbm.shape
      obtain ⟨n1, hn1⟩ : ∃ n1, n1 = l.length := ⟨_, rfl⟩
      obtain ⟨n2, hn2⟩ : ∃ n2, n2 = m.length := ⟨_, rfl⟩
      rw [← hn1] at hb ⊢
      rw [← hn2] at hbm ⊢
      have H1 := Lib.hid hb; have H2 := Lib.hid hbm; have HM := Lib.hid hm; have HN1 := Lib.hid hn1; have HN2 := Lib.hid hn2
      clear hb hbm hm hn1 hn2 HN HN' m2
      obtain ⟨c0, c1, c2, c3, _, _, _, _⟩ := A5.out
      go_wp2_with fail
      obtain ⟨X8, hX8⟩ : ∃ X8, X8 = wc.alloc (.cells #[.int .u64 (l0 (V) : Int), .int .u64 (l1 (V) : Int), .int .u64 (l2 (V) : Int), .int .u64 (l3 (V) : Int)] 32) := ⟨_, rfl⟩
      obtain ⟨g7, hg7⟩ : ∃ g7, g7 = wc.heap.size := ⟨_, rfl⟩
      have hal : Below wc.heap.size wc (wc.alloc (.cells #[.int .u64 (l0 (V) : Int), .int .u64 (l1 (V) : Int), .int .u64 (l2 (V) : Int), .int .u64 (l3 (V) : Int)] 32)) := (Below.refl _ _).alloc (Nat.le_refl _) _
      have hG7 : Ec (wc.alloc (.cells #[.int .u64 (l0 (V) : Int), .int .u64 (l1 (V) : Int), .int .u64 (l2 (V) : Int), .int .u64 (l3 (V) : Int)] 32)) wc.heap.size V := Ec.new _ _
      have zX : wc.heap.size + 1 = X8.heap.size := by rw [hX8]; simp
      rw [← hX8] at hal hG7
      rw [← hg7] at hG7 zX
      have A8 := Lib.hid (A5.out.below hal z5_0)
      have G8 := Lib.hid hG7
      have B1 := Lib.hid (H1.out.below hal hbw)
      have B2 := Lib.hid (H2.out.below hal hbw)
      have hbe := HBE.out.trans (hal.mono hbw)
      have HBE := Lib.hid hbe
      rw [← hX8, ← hg7]
      have y0 : w.heap.size < X8.heap.size := by omega
      have y7 : g7 < X8.heap.size := by omega
      have yl : w.heap.size ≤ X8.heap.size := by omega
      have x0 : w.heap.size < X8.heap.size + 1 := by omega
      clear hbe hal hG7 hX8 hg7 zX A5 H1 H2 z5_0 hbw c0 c1 c2 c3 CA
      have HBR := Lib.hid (Below.refl X8.heap.size X8)
      have CC := Lib.hid (fun W (h : Below X8.heap.size X8 W) => copy_any (B1.out.below h yl) (Nat.le_trans yl h.size) (by have := HL.out; omega))
      have CC2 := Lib.hid (fun W (h : Below X8.heap.size X8 W) => copy_any (B2.out.below h yl) (Nat.le_trans yl h.size) (by have := HM.out; omega))
      obtain ⟨P1, hP1⟩ : ∃ P1, P1 = V ^ numL l % PP := ⟨_, rfl⟩
      have CP := Lib.hid (fun u W (h : Bs W W.heap.size u l) => powE HV.out h)
      have CR := Lib.hid (fun W (h : Below X8.heap.size X8 W) => rpowE HV.out (by have := HL.out; omega) ((B1.out.below h yl).more (Nat.le_trans yl h.size)))
      rw [← hP1] at CP CR
      have hP4 : P1 < W4 := by rw [hP1]; exact mod_lt4 _
      have CI := Lib.hid (fun W => isSame hP4 W)
      have CF := Lib.hid (fun W => fromN V W)
      have HP1 := Lib.hid hP1
      clear hP1 hP4
      obtain ⟨c0, c1, c2, c3, _, _, _, _⟩ := A8.out
      obtain ⟨d0, d1, d2, d3, _, _, _, _⟩ := G8.out
      go_region_held3 (fun w' => w'.cell? ⟨w.heap.size, 0, none⟩ = some (.int .u64 (l0 (V) : Int)) ∧ w'.cell? ⟨w.heap.size, 1, none⟩ = some (.int .u64 (l1 (V) : Int)) ∧ w'.cell? ⟨w.heap.size, 2, none⟩ = some (.int .u64 (l2 (V) : Int)) ∧ w'.cell? ⟨w.heap.size, 3, none⟩ = some (.int .u64 (l3 (V) : Int)) ∧ w'.cell? ⟨g7, 0, none⟩ = some (.int .u64 (l0 (V) : Int)) ∧ w'.cell? ⟨g7, 1, none⟩ = some (.int .u64 (l1 (V) : Int)) ∧ w'.cell? ⟨g7, 2, none⟩ = some (.int .u64 (l2 (V) : Int)) ∧ w'.cell? ⟨g7, 3, none⟩ = some (.int .u64 (l3 (V) : Int))) (go_simp)
        (first
          | ((with_reducible refine (CC.out _ ?_).mono ?_); (focus ((repeat (first | (with_reducible exact Below.refl _ _) | (with_reducible exact HBR.out) | (with_reducible refine Below.drew ?_) | ((with_reducible refine Below.alloc ?_ ?_ _); rotate_left; (first | omega | (simp only [World.size_setCell]; omega) | (simp only [World.size_alloc, World.size_setCell]; omega) | (simp only [World.size_alloc]; omega) | (simp only [World.size_drew, World.size_alloc]; omega) | (simp only [World.size_drew]; omega))) | ((with_reducible refine set4_below ?_ ?_ _ _ _ _); rotate_left; omega) | ((with_reducible refine Below.setCell ?_ ?_ _); rotate_left; (show _ ≤ _); (simp only); omega))))); rintro e' w' ⟨u, rfl, ho, hb⟩; have HU := Lib.hid ho.bs; clear ho; (try replace hb := undrew hb); have HLB := LastB.mk hb; obtain ⟨hc, hf⟩ := bcell hb; (try simp only [World.size_drew] at hc hf); have zz := hb.size; (try simp only [World.size_drew] at zz); (try simp only [World.size_alloc] at zz); (try have ua := (Nat.lt_of_lt_of_le ua (by omega) : _ < w'.heap.size)); (try have ub := (Nat.lt_of_lt_of_le ub (by omega) : _ < w'.heap.size)); (try have uc := (Nat.lt_of_lt_of_le uc (by omega) : _ < w'.heap.size)); (try have ud := (Nat.lt_of_lt_of_le ud (by omega) : _ < w'.heap.size)); (first | (have ua := ltA zz; have ub := ltB zz) | (have hq := uc; have ud := ltC zz; clear hq) | (have hq := ub; have uc := ltC zz; clear hq) | (have hq := ua; have ub := ltC zz; clear hq) | (have ua := ltC zz) | skip); (try have ua1 := (Nat.lt_succ_of_lt ua : _ < w'.heap.size + 1)); (try have ua2 := (Nat.lt_succ_of_lt ua1 : _ < w'.heap.size + 1 + 1)); (try have ub1 := (Nat.lt_succ_of_lt ub : _ < w'.heap.size + 1)); (try have ub2 := (Nat.lt_succ_of_lt ub1 : _ < w'.heap.size + 1 + 1)); (try have uc1 := (Nat.lt_succ_of_lt uc : _ < w'.heap.size + 1)); (try have uc2 := (Nat.lt_succ_of_lt uc1 : _ < w'.heap.size + 1 + 1)); (try have ud1 := (Nat.lt_succ_of_lt ud : _ < w'.heap.size + 1)); (try have ud2 := (Nat.lt_succ_of_lt ud1 : _ < w'.heap.size + 1 + 1));  have y0 : w.heap.size < w'.heap.size := (by omega); have x0 : w.heap.size < w'.heap.size + 1 := (by omega); have x1 : w.heap.size < w'.heap.size + 1 + 1 := (by omega); have yg7 : g7 < w'.heap.size := (by omega); have hB0 : Below w.heap.size w w' := (by refine Below.trans ?_ (hb.mono (by first | omega | (simp only [World.size_alloc]; omega) | (simp only [World.size_drew, World.size_alloc]; omega) | (simp only [World.size_drew]; omega))); (repeat (first | (with_reducible exact Below.refl _ _) | (with_reducible exact HBE.out) | (with_reducible refine Below.drew ?_) | ((with_reducible refine Below.alloc ?_ ?_ _); rotate_left; (first | omega | (simp only [World.size_setCell]; omega) | (simp only [World.size_alloc, World.size_setCell]; omega) | (simp only [World.size_alloc]; omega) | (simp only [World.size_drew, World.size_alloc]; omega) | (simp only [World.size_drew]; omega))) | ((with_reducible refine set4_below ?_ ?_ _ _ _ _); rotate_left; omega) | ((with_reducible refine Below.setCell ?_ ?_ _); rotate_left; (show _ ≤ _); (simp only); omega)))); have HBE := Lib.hid hB0; clear hB0; have yr : X8.heap.size ≤ w'.heap.size := (by omega); have hB1 : Below X8.heap.size X8 w' := (by refine Below.trans ?_ (hb.mono (by first | omega | (simp only [World.size_alloc]; omega) | (simp only [World.size_drew, World.size_alloc]; omega) | (simp only [World.size_drew]; omega))); (repeat (first | (with_reducible exact Below.refl _ _) | (with_reducible exact HBR.out) | (with_reducible refine Below.drew ?_) | ((with_reducible refine Below.alloc ?_ ?_ _); rotate_left; (first | omega | (simp only [World.size_setCell]; omega) | (simp only [World.size_alloc, World.size_setCell]; omega) | (simp only [World.size_alloc]; omega) | (simp only [World.size_drew, World.size_alloc]; omega) | (simp only [World.size_drew]; omega))) | ((with_reducible refine set4_below ?_ ?_ _ _ _ _); rotate_left; omega) | ((with_reducible refine Below.setCell ?_ ?_ _); rotate_left; (show _ ≤ _); (simp only); omega)))); have HBR := Lib.hid hB1; clear hB1 hb)
          | ((with_reducible refine (CP.out _ _ ?_).mono ?_); (focus (exact HU.out)); rintro e' w' ⟨rfl, hb⟩; (try replace hb := undrew hb); have HLB := LastB.mk hb; obtain ⟨hc, hf⟩ := bcell hb; (try simp only [World.size_drew] at hc hf); have zz := hb.size; (try simp only [World.size_drew] at zz); (try simp only [World.size_alloc] at zz); (try have ua := (Nat.lt_of_lt_of_le ua (by omega) : _ < w'.heap.size)); (try have ub := (Nat.lt_of_lt_of_le ub (by omega) : _ < w'.heap.size)); (try have uc := (Nat.lt_of_lt_of_le uc (by omega) : _ < w'.heap.size)); (try have ud := (Nat.lt_of_lt_of_le ud (by omega) : _ < w'.heap.size)); (first | (have ua := ltA zz; have ub := ltB zz) | (have hq := uc; have ud := ltC zz; clear hq) | (have hq := ub; have uc := ltC zz; clear hq) | (have hq := ua; have ub := ltC zz; clear hq) | (have ua := ltC zz) | skip); (try have ua1 := (Nat.lt_succ_of_lt ua : _ < w'.heap.size + 1)); (try have ua2 := (Nat.lt_succ_of_lt ua1 : _ < w'.heap.size + 1 + 1)); (try have ub1 := (Nat.lt_succ_of_lt ub : _ < w'.heap.size + 1)); (try have ub2 := (Nat.lt_succ_of_lt ub1 : _ < w'.heap.size + 1 + 1)); (try have uc1 := (Nat.lt_succ_of_lt uc : _ < w'.heap.size + 1)); (try have uc2 := (Nat.lt_succ_of_lt uc1 : _ < w'.heap.size + 1 + 1)); (try have ud1 := (Nat.lt_succ_of_lt ud : _ < w'.heap.size + 1)); (try have ud2 := (Nat.lt_succ_of_lt ud1 : _ < w'.heap.size + 1 + 1));  have y0 : w.heap.size < w'.heap.size := (by omega); have x0 : w.heap.size < w'.heap.size + 1 := (by omega); have x1 : w.heap.size < w'.heap.size + 1 + 1 := (by omega); have yg7 : g7 < w'.heap.size := (by omega); have hB0 : Below w.heap.size w w' := (by refine Below.trans ?_ (hb.mono (by first | omega | (simp only [World.size_alloc]; omega) | (simp only [World.size_drew, World.size_alloc]; omega) | (simp only [World.size_drew]; omega))); (repeat (first | (with_reducible exact Below.refl _ _) | (with_reducible exact HBE.out) | (with_reducible refine Below.drew ?_) | ((with_reducible refine Below.alloc ?_ ?_ _); rotate_left; (first | omega | (simp only [World.size_setCell]; omega) | (simp only [World.size_alloc, World.size_setCell]; omega) | (simp only [World.size_alloc]; omega) | (simp only [World.size_drew, World.size_alloc]; omega) | (simp only [World.size_drew]; omega))) | ((with_reducible refine set4_below ?_ ?_ _ _ _ _); rotate_left; omega) | ((with_reducible refine Below.setCell ?_ ?_ _); rotate_left; (show _ ≤ _); (simp only); omega)))); have HBE := Lib.hid hB0; clear hB0; have yr : X8.heap.size ≤ w'.heap.size := (by omega); have hB1 : Below X8.heap.size X8 w' := (by refine Below.trans ?_ (hb.mono (by first | omega | (simp only [World.size_alloc]; omega) | (simp only [World.size_drew, World.size_alloc]; omega) | (simp only [World.size_drew]; omega))); (repeat (first | (with_reducible exact Below.refl _ _) | (with_reducible exact HBR.out) | (with_reducible refine Below.drew ?_) | ((with_reducible refine Below.alloc ?_ ?_ _); rotate_left; (first | omega | (simp only [World.size_setCell]; omega) | (simp only [World.size_alloc, World.size_setCell]; omega) | (simp only [World.size_alloc]; omega) | (simp only [World.size_drew, World.size_alloc]; omega) | (simp only [World.size_drew]; omega))) | ((with_reducible refine set4_below ?_ ?_ _ _ _ _); rotate_left; omega) | ((with_reducible refine Below.setCell ?_ ?_ _); rotate_left; (show _ ≤ _); (simp only); omega)))); have HBR := Lib.hid hB1; clear hB1 hb)
          | ((with_reducible refine (CF.out _).mono ?_); rintro e' w' ⟨rfl, hb⟩; (try replace hb := undrew hb); have HLB := LastB.mk hb; obtain ⟨hc, hf⟩ := bcell hb; (try simp only [World.size_drew] at hc hf); have zz := hb.size; (try simp only [World.size_drew] at zz); (try simp only [World.size_alloc] at zz); (try have ua := (Nat.lt_of_lt_of_le ua (by omega) : _ < w'.heap.size)); (try have ub := (Nat.lt_of_lt_of_le ub (by omega) : _ < w'.heap.size)); (try have uc := (Nat.lt_of_lt_of_le uc (by omega) : _ < w'.heap.size)); (try have ud := (Nat.lt_of_lt_of_le ud (by omega) : _ < w'.heap.size)); (first | (have ua := ltA zz; have ub := ltB zz) | (have hq := uc; have ud := ltC zz; clear hq) | (have hq := ub; have uc := ltC zz; clear hq) | (have hq := ua; have ub := ltC zz; clear hq) | (have ua := ltC zz) | skip); (try have ua1 := (Nat.lt_succ_of_lt ua : _ < w'.heap.size + 1)); (try have ua2 := (Nat.lt_succ_of_lt ua1 : _ < w'.heap.size + 1 + 1)); (try have ub1 := (Nat.lt_succ_of_lt ub : _ < w'.heap.size + 1)); (try have ub2 := (Nat.lt_succ_of_lt ub1 : _ < w'.heap.size + 1 + 1)); (try have uc1 := (Nat.lt_succ_of_lt uc : _ < w'.heap.size + 1)); (try have uc2 := (Nat.lt_succ_of_lt uc1 : _ < w'.heap.size + 1 + 1)); (try have ud1 := (Nat.lt_succ_of_lt ud : _ < w'.heap.size + 1)); (try have ud2 := (Nat.lt_succ_of_lt ud1 : _ < w'.heap.size + 1 + 1));  have y0 : w.heap.size < w'.heap.size := (by omega); have x0 : w.heap.size < w'.heap.size + 1 := (by omega); have x1 : w.heap.size < w'.heap.size + 1 + 1 := (by omega); have yg7 : g7 < w'.heap.size := (by omega); have hB0 : Below w.heap.size w w' := (by refine Below.trans ?_ (hb.mono (by first | omega | (simp only [World.size_alloc]; omega) | (simp only [World.size_drew, World.size_alloc]; omega) | (simp only [World.size_drew]; omega))); (repeat (first | (with_reducible exact Below.refl _ _) | (with_reducible exact HBE.out) | (with_reducible refine Below.drew ?_) | ((with_reducible refine Below.alloc ?_ ?_ _); rotate_left; (first | omega | (simp only [World.size_setCell]; omega) | (simp only [World.size_alloc, World.size_setCell]; omega) | (simp only [World.size_alloc]; omega) | (simp only [World.size_drew, World.size_alloc]; omega) | (simp only [World.size_drew]; omega))) | ((with_reducible refine set4_below ?_ ?_ _ _ _ _); rotate_left; omega) | ((with_reducible refine Below.setCell ?_ ?_ _); rotate_left; (show _ ≤ _); (simp only); omega)))); have HBE := Lib.hid hB0; clear hB0; have yr : X8.heap.size ≤ w'.heap.size := (by omega); have hB1 : Below X8.heap.size X8 w' := (by refine Below.trans ?_ (hb.mono (by first | omega | (simp only [World.size_alloc]; omega) | (simp only [World.size_drew, World.size_alloc]; omega) | (simp only [World.size_drew]; omega))); (repeat (first | (with_reducible exact Below.refl _ _) | (with_reducible exact HBR.out) | (with_reducible refine Below.drew ?_) | ((with_reducible refine Below.alloc ?_ ?_ _); rotate_left; (first | omega | (simp only [World.size_setCell]; omega) | (simp only [World.size_alloc, World.size_setCell]; omega) | (simp only [World.size_alloc]; omega) | (simp only [World.size_drew, World.size_alloc]; omega) | (simp only [World.size_drew]; omega))) | ((with_reducible refine set4_below ?_ ?_ _ _ _ _); rotate_left; omega) | ((with_reducible refine Below.setCell ?_ ?_ _); rotate_left; (show _ ≤ _); (simp only); omega)))); have HBR := Lib.hid hB1; clear hB1 hb)
          | ((with_reducible refine (CR.out _ ?_).mono ?_); (focus ((repeat (first | (with_reducible exact Below.refl _ _) | (with_reducible exact HBR.out) | (with_reducible refine Below.drew ?_) | ((with_reducible refine Below.alloc ?_ ?_ _); rotate_left; (first | omega | (simp only [World.size_setCell]; omega) | (simp only [World.size_alloc, World.size_setCell]; omega) | (simp only [World.size_alloc]; omega) | (simp only [World.size_drew, World.size_alloc]; omega) | (simp only [World.size_drew]; omega))) | ((with_reducible refine set4_below ?_ ?_ _ _ _ _); rotate_left; omega) | ((with_reducible refine Below.setCell ?_ ?_ _); rotate_left; (show _ ≤ _); (simp only); omega))))); rintro e' w' ⟨rfl, hb⟩; (try replace hb := undrew hb); have HLB := LastB.mk hb; obtain ⟨hc, hf⟩ := bcell hb; (try simp only [World.size_drew] at hc hf); have zz := hb.size; (try simp only [World.size_drew] at zz); (try simp only [World.size_alloc] at zz); (try have ua := (Nat.lt_of_lt_of_le ua (by omega) : _ < w'.heap.size)); (try have ub := (Nat.lt_of_lt_of_le ub (by omega) : _ < w'.heap.size)); (try have uc := (Nat.lt_of_lt_of_le uc (by omega) : _ < w'.heap.size)); (try have ud := (Nat.lt_of_lt_of_le ud (by omega) : _ < w'.heap.size)); (first | (have ua := ltA zz; have ub := ltB zz) | (have hq := uc; have ud := ltC zz; clear hq) | (have hq := ub; have uc := ltC zz; clear hq) | (have hq := ua; have ub := ltC zz; clear hq) | (have ua := ltC zz) | skip); (try have ua1 := (Nat.lt_succ_of_lt ua : _ < w'.heap.size + 1)); (try have ua2 := (Nat.lt_succ_of_lt ua1 : _ < w'.heap.size + 1 + 1)); (try have ub1 := (Nat.lt_succ_of_lt ub : _ < w'.heap.size + 1)); (try have ub2 := (Nat.lt_succ_of_lt ub1 : _ < w'.heap.size + 1 + 1)); (try have uc1 := (Nat.lt_succ_of_lt uc : _ < w'.heap.size + 1)); (try have uc2 := (Nat.lt_succ_of_lt uc1 : _ < w'.heap.size + 1 + 1)); (try have ud1 := (Nat.lt_succ_of_lt ud : _ < w'.heap.size + 1)); (try have ud2 := (Nat.lt_succ_of_lt ud1 : _ < w'.heap.size + 1 + 1));  have y0 : w.heap.size < w'.heap.size := (by omega); have x0 : w.heap.size < w'.heap.size + 1 := (by omega); have x1 : w.heap.size < w'.heap.size + 1 + 1 := (by omega); have yg7 : g7 < w'.heap.size := (by omega); have hB0 : Below w.heap.size w w' := (by refine Below.trans ?_ (hb.mono (by first | omega | (simp only [World.size_alloc]; omega) | (simp only [World.size_drew, World.size_alloc]; omega) | (simp only [World.size_drew]; omega))); (repeat (first | (with_reducible exact Below.refl _ _) | (with_reducible exact HBE.out) | (with_reducible refine Below.drew ?_) | ((with_reducible refine Below.alloc ?_ ?_ _); rotate_left; (first | omega | (simp only [World.size_setCell]; omega) | (simp only [World.size_alloc, World.size_setCell]; omega) | (simp only [World.size_alloc]; omega) | (simp only [World.size_drew, World.size_alloc]; omega) | (simp only [World.size_drew]; omega))) | ((with_reducible refine set4_below ?_ ?_ _ _ _ _); rotate_left; omega) | ((with_reducible refine Below.setCell ?_ ?_ _); rotate_left; (show _ ≤ _); (simp only); omega)))); have HBE := Lib.hid hB0; clear hB0; have yr : X8.heap.size ≤ w'.heap.size := (by omega); have hB1 : Below X8.heap.size X8 w' := (by refine Below.trans ?_ (hb.mono (by first | omega | (simp only [World.size_alloc]; omega) | (simp only [World.size_drew, World.size_alloc]; omega) | (simp only [World.size_drew]; omega))); (repeat (first | (with_reducible exact Below.refl _ _) | (with_reducible exact HBR.out) | (with_reducible refine Below.drew ?_) | ((with_reducible refine Below.alloc ?_ ?_ _); rotate_left; (first | omega | (simp only [World.size_setCell]; omega) | (simp only [World.size_alloc, World.size_setCell]; omega) | (simp only [World.size_alloc]; omega) | (simp only [World.size_drew, World.size_alloc]; omega) | (simp only [World.size_drew]; omega))) | ((with_reducible refine set4_below ?_ ?_ _ _ _ _); rotate_left; omega) | ((with_reducible refine Below.setCell ?_ ?_ _); rotate_left; (show _ ≤ _); (simp only); omega)))); have HBR := Lib.hid hB1; clear hB1 hb)
          | ((with_reducible refine (CI.out _).mono ?_); rintro e' w' ⟨rfl, hb⟩; (try replace hb := undrew hb); have HLB := LastB.mk hb; obtain ⟨hc, hf⟩ := bcell hb; (try simp only [World.size_drew] at hc hf); have zz := hb.size; (try simp only [World.size_drew] at zz); (try simp only [World.size_alloc] at zz); (try have ua := (Nat.lt_of_lt_of_le ua (by omega) : _ < w'.heap.size)); (try have ub := (Nat.lt_of_lt_of_le ub (by omega) : _ < w'.heap.size)); (try have uc := (Nat.lt_of_lt_of_le uc (by omega) : _ < w'.heap.size)); (try have ud := (Nat.lt_of_lt_of_le ud (by omega) : _ < w'.heap.size)); (first | (have ua := ltA zz; have ub := ltB zz) | (have hq := uc; have ud := ltC zz; clear hq) | (have hq := ub; have uc := ltC zz; clear hq) | (have hq := ua; have ub := ltC zz; clear hq) | (have ua := ltC zz) | skip); (try have ua1 := (Nat.lt_succ_of_lt ua : _ < w'.heap.size + 1)); (try have ua2 := (Nat.lt_succ_of_lt ua1 : _ < w'.heap.size + 1 + 1)); (try have ub1 := (Nat.lt_succ_of_lt ub : _ < w'.heap.size + 1)); (try have ub2 := (Nat.lt_succ_of_lt ub1 : _ < w'.heap.size + 1 + 1)); (try have uc1 := (Nat.lt_succ_of_lt uc : _ < w'.heap.size + 1)); (try have uc2 := (Nat.lt_succ_of_lt uc1 : _ < w'.heap.size + 1 + 1)); (try have ud1 := (Nat.lt_succ_of_lt ud : _ < w'.heap.size + 1)); (try have ud2 := (Nat.lt_succ_of_lt ud1 : _ < w'.heap.size + 1 + 1));  have y0 : w.heap.size < w'.heap.size := (by omega); have x0 : w.heap.size < w'.heap.size + 1 := (by omega); have x1 : w.heap.size < w'.heap.size + 1 + 1 := (by omega); have yg7 : g7 < w'.heap.size := (by omega); have hB0 : Below w.heap.size w w' := (by refine Below.trans ?_ (hb.mono (by first | omega | (simp only [World.size_alloc]; omega) | (simp only [World.size_drew, World.size_alloc]; omega) | (simp only [World.size_drew]; omega))); (repeat (first | (with_reducible exact Below.refl _ _) | (with_reducible exact HBE.out) | (with_reducible refine Below.drew ?_) | ((with_reducible refine Below.alloc ?_ ?_ _); rotate_left; (first | omega | (simp only [World.size_setCell]; omega) | (simp only [World.size_alloc, World.size_setCell]; omega) | (simp only [World.size_alloc]; omega) | (simp only [World.size_drew, World.size_alloc]; omega) | (simp only [World.size_drew]; omega))) | ((with_reducible refine set4_below ?_ ?_ _ _ _ _); rotate_left; omega) | ((with_reducible refine Below.setCell ?_ ?_ _); rotate_left; (show _ ≤ _); (simp only); omega)))); have HBE := Lib.hid hB0; clear hB0; have yr : X8.heap.size ≤ w'.heap.size := (by omega); have hB1 : Below X8.heap.size X8 w' := (by refine Below.trans ?_ (hb.mono (by first | omega | (simp only [World.size_alloc]; omega) | (simp only [World.size_drew, World.size_alloc]; omega) | (simp only [World.size_drew]; omega))); (repeat (first | (with_reducible exact Below.refl _ _) | (with_reducible exact HBR.out) | (with_reducible refine Below.drew ?_) | ((with_reducible refine Below.alloc ?_ ?_ _); rotate_left; (first | omega | (simp only [World.size_setCell]; omega) | (simp only [World.size_alloc, World.size_setCell]; omega) | (simp only [World.size_alloc]; omega) | (simp only [World.size_drew, World.size_alloc]; omega) | (simp only [World.size_drew]; omega))) | ((with_reducible refine set4_below ?_ ?_ _ _ _ _); rotate_left; omega) | ((with_reducible refine Below.setCell ?_ ?_ _); rotate_left; (show _ ≤ _); (simp only); omega)))); have HBR := Lib.hid hB1; clear hB1 hb)
          | fail)
      go_wp2_with fail
      obtain ⟨wq, hwq⟩ : ∃ wq, wq = w' := ⟨_, rfl⟩
      rw [← hwq] at HBE HBR ⊢
      clear hwq
      have G9 := Lib.hid (G8.out.below HBR.out y7)
      have Q1 := Lib.hid (B1.out.below HBR.out yl)
      have Q2 := Lib.hid (B2.out.below HBR.out yl)
      have zq := HBR.out.size
      have yq : w.heap.size ≤ wq.heap.size := by omega
      have y7q : g7 < wq.heap.size := by omega
      clear B1 B2 G8 A8 CC CC2 CR CF HBR HLB y0 y7 yl x0 c0 c1 c2 c3 d0 d1 d2 d3
      go_loopw [8, 9, 10] (fun s c i wr => ∃ (k cc : Nat) (L : List UInt8), k ≤ 41 ∧ (k ≤ 40 ∨ cc = 0) ∧ cc ≤ 1 ∧ i = .int .i64 k ∧ c = .int .i64 cc ∧ L.length = k ∧ Hid (numL L + cc * 256 ^ k = numL (l.take k) + numL (m.take k)) ∧ Hid (Below wq.heap.size wq wr) ∧ Hid (Own wr wq.heap.size s L)) (fun _ _ i _ => 42 - (intOf i).toNat)
      case atStart => exact ⟨0, 0, [], by omega, .inl (by omega), by omega, rfl, rfl, rfl, Lib.hid (by simp [numL]), Lib.hid (Below.refl _ _), Lib.hid (Own.nil _ _)⟩
      case round =>
        obtain ⟨k, cc, L, hk, hk2, hcc, rfl, rfl, hL, hnum, hbe, hown⟩ := hrel
        have k0 : (0 : Int) ≤ (k : Int) := Int.natCast_nonneg _
        have hn1 : n1 ≤ 40 := by rw [HN1.out]; exact HL.out
        have hn2 : n2 ≤ 40 := by rw [HN2.out]; exact HM.out
        by_cases h1 : k < n1
        · skip
          have d1 : decide ((k : Int) < (n1 : Int)) = true := by simp; omega
          obtain ⟨b1, o1, hb1, hlt1, hc1⟩ : ∃ b off, D1 = some ⟨b, off, none⟩ ∧ b < w.heap.size ∧ ∀ j (h : j < l.length), wq.cell? ⟨b, off + j, none⟩ = some (.int .u8 (l[j].toNat : Int)) := by
            obtain ⟨_, _, hv1, _, _, hcell1⟩ := Q1.out
            simp only [Value.slice.injEq] at hv1
            obtain ⟨rfl, -, -⟩ := hv1
            exact hcell1 (by rw [← HN1.out]; omega)
          subst hb1
          have r1 : wr.cell? ⟨b1, o1 + k, none⟩ = some (.int .u8 ((l.getD k 0).toNat : Int)) := by
            rw [hbe.out.cell (p := ⟨b1, o1 + k, none⟩) (by show b1 < _; omega), hc1 k (by rw [← HN1.out]; exact h1)]
            simp [show k < l.length by rw [← HN1.out]; exact h1]
          have k1 : (k : Int) < (n1 : Int) := by omega
          obtain ⟨x1, hx1⟩ : ∃ x, x = (l.getD k 0).toNat := ⟨_, rfl⟩
          have xb1 : x1 < 256 := by rw [hx1]; exact UInt8.toNat_lt _
          rw [← hx1] at r1
          have HX1 := Lib.hid hx1
          clear hx1 hc1
          by_cases h2 : k < n2
          · skip
            have d2 : decide ((k : Int) < (n2 : Int)) = true := by simp; omega
            obtain ⟨b2, o2, hb2, hlt2, hc2⟩ : ∃ b off, D2 = some ⟨b, off, none⟩ ∧ b < w.heap.size ∧ ∀ j (h : j < m.length), wq.cell? ⟨b, off + j, none⟩ = some (.int .u8 (m[j].toNat : Int)) := by
              obtain ⟨_, _, hv1, _, _, hcell1⟩ := Q2.out
              simp only [Value.slice.injEq] at hv1
              obtain ⟨rfl, -, -⟩ := hv1
              exact hcell1 (by rw [← HN2.out]; omega)
            subst hb2
            have r2 : wr.cell? ⟨b2, o2 + k, none⟩ = some (.int .u8 ((m.getD k 0).toNat : Int)) := by
              rw [hbe.out.cell (p := ⟨b2, o2 + k, none⟩) (by show b2 < _; omega), hc2 k (by rw [← HN2.out]; exact h2)]
              simp [show k < m.length by rw [← HN2.out]; exact h2]
            have k2 : (k : Int) < (n2 : Int) := by omega
            obtain ⟨x2, hx2⟩ : ∃ x, x = (m.getD k 0).toNat := ⟨_, rfl⟩
            have xb2 : x2 < 256 := by rw [hx2]; exact UInt8.toNat_lt _
            rw [← hx2] at r2
            have HX2 := Lib.hid hx2
            clear hx2 hc2
            have HONE := Lib.hid (one_mod wr (cc + x1 + x2) ((cc : Int) + (x1 : Int) + (x2 : Int)) (by omega))
            obtain ⟨bt, hbt⟩ : ∃ bt, bt = UInt8.ofNat (cc + x1 + x2) := ⟨_, rfl⟩
            rw [← hbt] at HONE
            have HOI := Lib.hid (hown.out.alloc (.cells #[.int .u8 (((cc : Int) + (x1 : Int) + (x2 : Int)) % 256)] 5))
            have hwz : wq.heap.size ≤ wr.heap.size := hbe.out.size
            obtain ⟨hs1, hs2⟩ := carry_step (T := cc + x1 + x2) hL hcc HX1.out HX2.out (by omega) hnum.out
            rw [← hbt] at hs1
            have HS := Lib.hid hs1
            clear hs1 hbt
            go_wp2_with (at_builtin; refine wpList_app rfl (.tmp 80) (.tmp 84) rfl rfl HOI.out rfl HONE.out (by simp; omega) (by simp; omega) ?_)
            intro v' w3 hown3 hg3 _
            have hb3 : Below wq.heap.size wq w3 := grown_below (hbe.out.alloc hwz _) hg3 (by simp; omega) HOI.out
            have HB3 := Lib.hid hb3; have HO3 := Lib.hid hown3
            clear hown3 hg3 hb3
            go_wp2
            go_roundw
            case rel => exact ⟨k + 1, (cc + x1 + x2) / 256, L ++ [bt], by omega, .inl (by omega), hs2, by go_num, by go_num, by simp [hL], HS, HB3, HO3⟩
            case measure => simp [intOf]; omega
          · skip
            have d2 : decide ((k : Int) < (n2 : Int)) = false := by simp; omega
            have HX2 : Hid (0 = (m.getD k 0).toNat) := Lib.hid (by rw [getD_over (by rw [← HN2.out]; omega)]; rfl)
            have HONE := Lib.hid (one_mod wr (cc + x1 + 0) ((cc : Int) + (x1 : Int)) (by omega))
            obtain ⟨bt, hbt⟩ : ∃ bt, bt = UInt8.ofNat (cc + x1 + 0) := ⟨_, rfl⟩
            rw [← hbt] at HONE
            have HOI := Lib.hid (hown.out.alloc (.cells #[.int .u8 (((cc : Int) + (x1 : Int)) % 256)] 5))
            have hwz : wq.heap.size ≤ wr.heap.size := hbe.out.size
            obtain ⟨hs1, hs2⟩ := carry_step (T := cc + x1 + 0) hL hcc HX1.out HX2.out (by omega) hnum.out
            rw [← hbt] at hs1
            have HS := Lib.hid hs1
            clear hs1 hbt
            go_wp2_with (at_builtin; refine wpList_app rfl (.tmp 80) (.tmp 84) rfl rfl HOI.out rfl HONE.out (by simp; omega) (by simp; omega) ?_)
            intro v' w3 hown3 hg3 _
            have hb3 : Below wq.heap.size wq w3 := grown_below (hbe.out.alloc hwz _) hg3 (by simp; omega) HOI.out
            have HB3 := Lib.hid hb3; have HO3 := Lib.hid hown3
            clear hown3 hg3 hb3
            go_wp2
            go_roundw
            case rel => exact ⟨k + 1, (cc + x1 + 0) / 256, L ++ [bt], by omega, .inl (by omega), hs2, by go_num, by go_num, by simp [hL], HS, HB3, HO3⟩
            case measure => simp [intOf]; omega
        · skip
          have d1 : decide ((k : Int) < (n1 : Int)) = false := by simp; omega
          have HX1 : Hid (0 = (l.getD k 0).toNat) := Lib.hid (by rw [getD_over (by rw [← HN1.out]; omega)]; rfl)
          by_cases h2 : k < n2
          · skip
            have d2 : decide ((k : Int) < (n2 : Int)) = true := by simp; omega
            obtain ⟨b2, o2, hb2, hlt2, hc2⟩ : ∃ b off, D2 = some ⟨b, off, none⟩ ∧ b < w.heap.size ∧ ∀ j (h : j < m.length), wq.cell? ⟨b, off + j, none⟩ = some (.int .u8 (m[j].toNat : Int)) := by
              obtain ⟨_, _, hv1, _, _, hcell1⟩ := Q2.out
              simp only [Value.slice.injEq] at hv1
              obtain ⟨rfl, -, -⟩ := hv1
              exact hcell1 (by rw [← HN2.out]; omega)
            subst hb2
            have r2 : wr.cell? ⟨b2, o2 + k, none⟩ = some (.int .u8 ((m.getD k 0).toNat : Int)) := by
              rw [hbe.out.cell (p := ⟨b2, o2 + k, none⟩) (by show b2 < _; omega), hc2 k (by rw [← HN2.out]; exact h2)]
              simp [show k < m.length by rw [← HN2.out]; exact h2]
            have k2 : (k : Int) < (n2 : Int) := by omega
            obtain ⟨x2, hx2⟩ : ∃ x, x = (m.getD k 0).toNat := ⟨_, rfl⟩
            have xb2 : x2 < 256 := by rw [hx2]; exact UInt8.toNat_lt _
            rw [← hx2] at r2
            have HX2 := Lib.hid hx2
            clear hx2 hc2
            have HONE := Lib.hid (one_mod wr (cc + 0 + x2) ((cc : Int) + (x2 : Int)) (by omega))
            obtain ⟨bt, hbt⟩ : ∃ bt, bt = UInt8.ofNat (cc + 0 + x2) := ⟨_, rfl⟩
            rw [← hbt] at HONE
            have HOI := Lib.hid (hown.out.alloc (.cells #[.int .u8 (((cc : Int) + (x2 : Int)) % 256)] 5))
            have hwz : wq.heap.size ≤ wr.heap.size := hbe.out.size
            obtain ⟨hs1, hs2⟩ := carry_step (T := cc + 0 + x2) hL hcc HX1.out HX2.out (by omega) hnum.out
            rw [← hbt] at hs1
            have HS := Lib.hid hs1
            clear hs1 hbt
            go_wp2_with (at_builtin; refine wpList_app rfl (.tmp 80) (.tmp 84) rfl rfl HOI.out rfl HONE.out (by simp; omega) (by simp; omega) ?_)
            intro v' w3 hown3 hg3 _
            have hb3 : Below wq.heap.size wq w3 := grown_below (hbe.out.alloc hwz _) hg3 (by simp; omega) HOI.out
            have HB3 := Lib.hid hb3; have HO3 := Lib.hid hown3
            clear hown3 hg3 hb3
            go_wp2
            go_roundw
            case rel => exact ⟨k + 1, (cc + 0 + x2) / 256, L ++ [bt], by omega, .inl (by omega), hs2, by go_num, by go_num, by simp [hL], HS, HB3, HO3⟩
            case measure => simp [intOf]; omega
          · skip
            have d2 : decide ((k : Int) < (n2 : Int)) = false := by simp; omega
            have HX2 : Hid (0 = (m.getD k 0).toNat) := Lib.hid (by rw [getD_over (by rw [← HN2.out]; omega)]; rfl)
            by_cases h3 : 0 < cc
            · have d3 : decide ((0 : Int) < (cc : Int)) = true := by simp; omega
              have d4 : decide (0 < cc) = true := by simp; omega
              have HONE := Lib.hid (one_mod wr (cc + 0 + 0) ((cc : Int)) (by omega))
              obtain ⟨bt, hbt⟩ : ∃ bt, bt = UInt8.ofNat (cc + 0 + 0) := ⟨_, rfl⟩
              rw [← hbt] at HONE
              have HOI := Lib.hid (hown.out.alloc (.cells #[.int .u8 (((cc : Int)) % 256)] 5))
              have hwz : wq.heap.size ≤ wr.heap.size := hbe.out.size
              obtain ⟨hs1, hs2⟩ := carry_step (T := cc + 0 + 0) hL hcc HX1.out HX2.out (by omega) hnum.out
              rw [← hbt] at hs1
              have HS := Lib.hid hs1
              clear hs1 hbt
              go_wp2_with (at_builtin; refine wpList_app rfl (.tmp 80) (.tmp 84) rfl rfl HOI.out rfl HONE.out (by simp; omega) (by simp; omega) ?_)
              intro v' w3 hown3 hg3 _
              have hb3 : Below wq.heap.size wq w3 := grown_below (hbe.out.alloc hwz _) hg3 (by simp; omega) HOI.out
              have HB3 := Lib.hid hb3; have HO3 := Lib.hid hown3
              clear hown3 hg3 hb3
              go_wp2
              go_roundw
              case rel => exact ⟨k + 1, (cc + 0 + 0) / 256, L ++ [bt], by omega, .inr (by omega), hs2, by go_num, by go_num, by simp [hL], HS, HB3, HO3⟩
              case measure => simp [intOf]; omega
            · obtain rfl : cc = 0 := by omega
              clear d1 d2
              have hnl : numL L = numL l + numL m := by
                have h := hnum.out
                rw [List.take_of_length_le (by rw [← HN1.out]; omega), List.take_of_length_le (by rw [← HN2.out]; omega)] at h
                omega
              have hz := hbe.out.size
              have yl : w.heap.size ≤ wr.heap.size := by omega
              have y0 : w.heap.size < wr.heap.size := by omega
              have y7 : g7 < wr.heap.size := by omega
              have x0 : w.heap.size < wr.heap.size + 1 := by omega
              have B1 := Lib.hid (Q1.out.below hbe.out yq)
              have B2 := Lib.hid (Q2.out.below hbe.out yq)
              have hbw := HBE.out.trans (hbe.out.mono yq)
              have HBE := Lib.hid hbw
              have HS := Lib.hid hown.out.bs
              obtain ⟨d0, d1, d2, d3, _, _, _, _⟩ := G9.out.below hbe.out y7q
              have HBR := Lib.hid (Below.refl wr.heap.size wr)
              obtain ⟨PS, hPS⟩ : ∃ PS, PS = V ^ numL L % PP := ⟨_, rfl⟩
              obtain ⟨P2, hP2⟩ : ∃ P2, P2 = V ^ numL m % PP := ⟨_, rfl⟩
              have hpr : prodP [P1, P2] = PS := by rw [HP1.out, hP2, hPS]; exact pow_sum hnl
              have CS := Lib.hid (fun W (h : Below wr.heap.size wr W) => powE HV.out ((HS.out.below h (Nat.le_refl _)).more h.size))
              rw [← hPS] at CS
              have CC1 := Lib.hid (fun W (h : Below wr.heap.size wr W) => copy_any (B1.out.below h yl) (Nat.le_trans yl h.size) (by have := HL.out; omega))
              have CC2 := Lib.hid (fun W (h : Below wr.heap.size wr W) => copy_any (B2.out.below h yl) (Nat.le_trans yl h.size) (by have := HM.out; omega))
              have CP2 := Lib.hid (fun u W (h : Bs W W.heap.size u m) => powE HV.out h)
              rw [← hP2] at CP2
              have hP14 : P1 < W4 := by rw [HP1.out]; exact mod_lt4 _
              have hP24 : P2 < W4 := by rw [hP2]; exact mod_lt4 _
              have hPS4 : PS < W4 := by rw [hPS]; exact mod_lt4 _
              have q1 : ∀ W, (binOp .eql 32 (.agg #[.int .u64 (l0 (PS) : Int), .int .u64 (l1 (PS) : Int), .int .u64 (l2 (PS) : Int), .int .u64 (l3 (PS) : Int)]) (.agg #[.int .u64 (l0 (PS) : Int), .int .u64 (l1 (PS) : Int), .int .u64 (l2 (PS) : Int), .int .u64 (l3 (PS) : Int)])).run Try.prog W = .ok (.bool true) W := fun W => by
                rw [run_eqlE hPS4 hPS4, decide_eq_true rfl]
              have CT : Hid (∀ (W : World), Calls Try.prog 32 #[.slice (some ⟨W.heap.size, 0, none⟩) 2 2] (W.alloc (.cells #[.int .u64 (l0 (P1) : Int), .int .u64 (l1 (P1) : Int), .int .u64 (l2 (P1) : Int), .int .u64 (l3 (P1) : Int), .int .u64 (l0 (P2) : Int), .int .u64 (l1 (P2) : Int), .int .u64 (l2 (P2) : Int), .int .u64 (l3 (P2) : Int)] 32)) fun e w' => e = .returned (.agg #[.int .u64 (l0 (PS) : Int), .int .u64 (l1 (PS) : Int), .int .u64 (l2 (PS) : Int), .int .u64 (l3 (PS) : Int)]) ∧ Below (W.alloc (.cells #[.int .u64 (l0 (P1) : Int), .int .u64 (l1 (P1) : Int), .int .u64 (l2 (P1) : Int), .int .u64 (l3 (P1) : Int), .int .u64 (l0 (P2) : Int), .int .u64 (l1 (P2) : Int), .int .u64 (l2 (P2) : Int), .int .u64 (l3 (P2) : Int)] 32)).heap.size (W.alloc (.cells #[.int .u64 (l0 (P1) : Int), .int .u64 (l1 (P1) : Int), .int .u64 (l2 (P1) : Int), .int .u64 (l3 (P1) : Int), .int .u64 (l0 (P2) : Int), .int .u64 (l1 (P2) : Int), .int .u64 (l2 (P2) : Int), .int .u64 (l3 (P2) : Int)] 32)) w') := Lib.hid (fun W => by
                have h := prodE (es_two hP14 hP24 (heap_alloc_last W _))
                rw [hpr] at h
                exact h)
              clear hnl hz hbw hpr hPS hP2 hP14 hP24 hPS4 hbe hown hnum Q1 Q2 G9 yq y7q zq hL hk hk2
              go_wp2_with fail
              go_region_held3 (fun w' => w'.cell? ⟨g7, 0, none⟩ = some (.int .u64 (l0 (V) : Int)) ∧ w'.cell? ⟨g7, 1, none⟩ = some (.int .u64 (l1 (V) : Int)) ∧ w'.cell? ⟨g7, 2, none⟩ = some (.int .u64 (l2 (V) : Int)) ∧ w'.cell? ⟨g7, 3, none⟩ = some (.int .u64 (l3 (V) : Int))) (go_simp)
                (first
                  | ((with_reducible refine (CS.out _ ?_).mono ?_); (focus ((repeat (first | (with_reducible exact Below.refl _ _) | (with_reducible exact HBR.out) | (with_reducible refine Below.drew ?_) | ((with_reducible refine Below.alloc ?_ ?_ _); rotate_left; (first | omega | (simp only [World.size_setCell]; omega) | (simp only [World.size_alloc, World.size_setCell]; omega) | (simp only [World.size_alloc]; omega) | (simp only [World.size_drew, World.size_alloc]; omega) | (simp only [World.size_drew]; omega))) | ((with_reducible refine set4_below ?_ ?_ _ _ _ _); rotate_left; omega) | ((with_reducible refine Below.setCell ?_ ?_ _); rotate_left; (show _ ≤ _); (simp only); omega))))); rintro e' w' ⟨rfl, hb⟩; (try replace hb := undrew hb); have HLB := LastB.mk hb; obtain ⟨hc, hf⟩ := bcell hb; (try simp only [World.size_drew] at hc hf); have zz := hb.size; (try simp only [World.size_drew] at zz); (try simp only [World.size_alloc] at zz); (try have ua := (Nat.lt_of_lt_of_le ua (by omega) : _ < w'.heap.size)); (try have ub := (Nat.lt_of_lt_of_le ub (by omega) : _ < w'.heap.size)); (try have uc := (Nat.lt_of_lt_of_le uc (by omega) : _ < w'.heap.size)); (try have ud := (Nat.lt_of_lt_of_le ud (by omega) : _ < w'.heap.size)); (first | (have ua := ltA zz; have ub := ltB zz) | (have hq := uc; have ud := ltC zz; clear hq) | (have hq := ub; have uc := ltC zz; clear hq) | (have hq := ua; have ub := ltC zz; clear hq) | (have ua := ltC zz) | skip); (try have ua1 := (Nat.lt_succ_of_lt ua : _ < w'.heap.size + 1)); (try have ua2 := (Nat.lt_succ_of_lt ua1 : _ < w'.heap.size + 1 + 1)); (try have ub1 := (Nat.lt_succ_of_lt ub : _ < w'.heap.size + 1)); (try have ub2 := (Nat.lt_succ_of_lt ub1 : _ < w'.heap.size + 1 + 1)); (try have uc1 := (Nat.lt_succ_of_lt uc : _ < w'.heap.size + 1)); (try have uc2 := (Nat.lt_succ_of_lt uc1 : _ < w'.heap.size + 1 + 1)); (try have ud1 := (Nat.lt_succ_of_lt ud : _ < w'.heap.size + 1)); (try have ud2 := (Nat.lt_succ_of_lt ud1 : _ < w'.heap.size + 1 + 1));  have y0 : w.heap.size < w'.heap.size := (by omega); have x0 : w.heap.size < w'.heap.size + 1 := (by omega); have x1 : w.heap.size < w'.heap.size + 1 + 1 := (by omega); have yg7 : g7 < w'.heap.size := (by omega); have hB0 : Below w.heap.size w w' := (by refine Below.trans ?_ (hb.mono (by first | omega | (simp only [World.size_alloc]; omega) | (simp only [World.size_drew, World.size_alloc]; omega) | (simp only [World.size_drew]; omega))); (repeat (first | (with_reducible exact Below.refl _ _) | (with_reducible exact HBE.out) | (with_reducible refine Below.drew ?_) | ((with_reducible refine Below.alloc ?_ ?_ _); rotate_left; (first | omega | (simp only [World.size_setCell]; omega) | (simp only [World.size_alloc, World.size_setCell]; omega) | (simp only [World.size_alloc]; omega) | (simp only [World.size_drew, World.size_alloc]; omega) | (simp only [World.size_drew]; omega))) | ((with_reducible refine set4_below ?_ ?_ _ _ _ _); rotate_left; omega) | ((with_reducible refine Below.setCell ?_ ?_ _); rotate_left; (show _ ≤ _); (simp only); omega)))); have HBE := Lib.hid hB0; clear hB0; have yr : wr.heap.size ≤ w'.heap.size := (by omega); have hB1 : Below wr.heap.size wr w' := (by refine Below.trans ?_ (hb.mono (by first | omega | (simp only [World.size_alloc]; omega) | (simp only [World.size_drew, World.size_alloc]; omega) | (simp only [World.size_drew]; omega))); (repeat (first | (with_reducible exact Below.refl _ _) | (with_reducible exact HBR.out) | (with_reducible refine Below.drew ?_) | ((with_reducible refine Below.alloc ?_ ?_ _); rotate_left; (first | omega | (simp only [World.size_setCell]; omega) | (simp only [World.size_alloc, World.size_setCell]; omega) | (simp only [World.size_alloc]; omega) | (simp only [World.size_drew, World.size_alloc]; omega) | (simp only [World.size_drew]; omega))) | ((with_reducible refine set4_below ?_ ?_ _ _ _ _); rotate_left; omega) | ((with_reducible refine Below.setCell ?_ ?_ _); rotate_left; (show _ ≤ _); (simp only); omega)))); have HBR := Lib.hid hB1; clear hB1 hb)
                  | ((with_reducible refine (CC1.out _ ?_).mono ?_); (focus ((repeat (first | (with_reducible exact Below.refl _ _) | (with_reducible exact HBR.out) | (with_reducible refine Below.drew ?_) | ((with_reducible refine Below.alloc ?_ ?_ _); rotate_left; (first | omega | (simp only [World.size_setCell]; omega) | (simp only [World.size_alloc, World.size_setCell]; omega) | (simp only [World.size_alloc]; omega) | (simp only [World.size_drew, World.size_alloc]; omega) | (simp only [World.size_drew]; omega))) | ((with_reducible refine set4_below ?_ ?_ _ _ _ _); rotate_left; omega) | ((with_reducible refine Below.setCell ?_ ?_ _); rotate_left; (show _ ≤ _); (simp only); omega))))); rintro e' w' ⟨u, rfl, ho, hb⟩; have HU := Lib.hid ho.bs; clear ho; (try replace hb := undrew hb); have HLB := LastB.mk hb; obtain ⟨hc, hf⟩ := bcell hb; (try simp only [World.size_drew] at hc hf); have zz := hb.size; (try simp only [World.size_drew] at zz); (try simp only [World.size_alloc] at zz); (try have ua := (Nat.lt_of_lt_of_le ua (by omega) : _ < w'.heap.size)); (try have ub := (Nat.lt_of_lt_of_le ub (by omega) : _ < w'.heap.size)); (try have uc := (Nat.lt_of_lt_of_le uc (by omega) : _ < w'.heap.size)); (try have ud := (Nat.lt_of_lt_of_le ud (by omega) : _ < w'.heap.size)); (first | (have ua := ltA zz; have ub := ltB zz) | (have hq := uc; have ud := ltC zz; clear hq) | (have hq := ub; have uc := ltC zz; clear hq) | (have hq := ua; have ub := ltC zz; clear hq) | (have ua := ltC zz) | skip); (try have ua1 := (Nat.lt_succ_of_lt ua : _ < w'.heap.size + 1)); (try have ua2 := (Nat.lt_succ_of_lt ua1 : _ < w'.heap.size + 1 + 1)); (try have ub1 := (Nat.lt_succ_of_lt ub : _ < w'.heap.size + 1)); (try have ub2 := (Nat.lt_succ_of_lt ub1 : _ < w'.heap.size + 1 + 1)); (try have uc1 := (Nat.lt_succ_of_lt uc : _ < w'.heap.size + 1)); (try have uc2 := (Nat.lt_succ_of_lt uc1 : _ < w'.heap.size + 1 + 1)); (try have ud1 := (Nat.lt_succ_of_lt ud : _ < w'.heap.size + 1)); (try have ud2 := (Nat.lt_succ_of_lt ud1 : _ < w'.heap.size + 1 + 1));  have y0 : w.heap.size < w'.heap.size := (by omega); have x0 : w.heap.size < w'.heap.size + 1 := (by omega); have x1 : w.heap.size < w'.heap.size + 1 + 1 := (by omega); have yg7 : g7 < w'.heap.size := (by omega); have hB0 : Below w.heap.size w w' := (by refine Below.trans ?_ (hb.mono (by first | omega | (simp only [World.size_alloc]; omega) | (simp only [World.size_drew, World.size_alloc]; omega) | (simp only [World.size_drew]; omega))); (repeat (first | (with_reducible exact Below.refl _ _) | (with_reducible exact HBE.out) | (with_reducible refine Below.drew ?_) | ((with_reducible refine Below.alloc ?_ ?_ _); rotate_left; (first | omega | (simp only [World.size_setCell]; omega) | (simp only [World.size_alloc, World.size_setCell]; omega) | (simp only [World.size_alloc]; omega) | (simp only [World.size_drew, World.size_alloc]; omega) | (simp only [World.size_drew]; omega))) | ((with_reducible refine set4_below ?_ ?_ _ _ _ _); rotate_left; omega) | ((with_reducible refine Below.setCell ?_ ?_ _); rotate_left; (show _ ≤ _); (simp only); omega)))); have HBE := Lib.hid hB0; clear hB0; have yr : wr.heap.size ≤ w'.heap.size := (by omega); have hB1 : Below wr.heap.size wr w' := (by refine Below.trans ?_ (hb.mono (by first | omega | (simp only [World.size_alloc]; omega) | (simp only [World.size_drew, World.size_alloc]; omega) | (simp only [World.size_drew]; omega))); (repeat (first | (with_reducible exact Below.refl _ _) | (with_reducible exact HBR.out) | (with_reducible refine Below.drew ?_) | ((with_reducible refine Below.alloc ?_ ?_ _); rotate_left; (first | omega | (simp only [World.size_setCell]; omega) | (simp only [World.size_alloc, World.size_setCell]; omega) | (simp only [World.size_alloc]; omega) | (simp only [World.size_drew, World.size_alloc]; omega) | (simp only [World.size_drew]; omega))) | ((with_reducible refine set4_below ?_ ?_ _ _ _ _); rotate_left; omega) | ((with_reducible refine Below.setCell ?_ ?_ _); rotate_left; (show _ ≤ _); (simp only); omega)))); have HBR := Lib.hid hB1; clear hB1 hb)
                  | ((with_reducible refine (CC2.out _ ?_).mono ?_); (focus ((repeat (first | (with_reducible exact Below.refl _ _) | (with_reducible exact HBR.out) | (with_reducible refine Below.drew ?_) | ((with_reducible refine Below.alloc ?_ ?_ _); rotate_left; (first | omega | (simp only [World.size_setCell]; omega) | (simp only [World.size_alloc, World.size_setCell]; omega) | (simp only [World.size_alloc]; omega) | (simp only [World.size_drew, World.size_alloc]; omega) | (simp only [World.size_drew]; omega))) | ((with_reducible refine set4_below ?_ ?_ _ _ _ _); rotate_left; omega) | ((with_reducible refine Below.setCell ?_ ?_ _); rotate_left; (show _ ≤ _); (simp only); omega))))); rintro e' w' ⟨u, rfl, ho, hb⟩; have HU := Lib.hid ho.bs; clear ho; (try replace hb := undrew hb); have HLB := LastB.mk hb; obtain ⟨hc, hf⟩ := bcell hb; (try simp only [World.size_drew] at hc hf); have zz := hb.size; (try simp only [World.size_drew] at zz); (try simp only [World.size_alloc] at zz); (try have ua := (Nat.lt_of_lt_of_le ua (by omega) : _ < w'.heap.size)); (try have ub := (Nat.lt_of_lt_of_le ub (by omega) : _ < w'.heap.size)); (try have uc := (Nat.lt_of_lt_of_le uc (by omega) : _ < w'.heap.size)); (try have ud := (Nat.lt_of_lt_of_le ud (by omega) : _ < w'.heap.size)); (first | (have ua := ltA zz; have ub := ltB zz) | (have hq := uc; have ud := ltC zz; clear hq) | (have hq := ub; have uc := ltC zz; clear hq) | (have hq := ua; have ub := ltC zz; clear hq) | (have ua := ltC zz) | skip); (try have ua1 := (Nat.lt_succ_of_lt ua : _ < w'.heap.size + 1)); (try have ua2 := (Nat.lt_succ_of_lt ua1 : _ < w'.heap.size + 1 + 1)); (try have ub1 := (Nat.lt_succ_of_lt ub : _ < w'.heap.size + 1)); (try have ub2 := (Nat.lt_succ_of_lt ub1 : _ < w'.heap.size + 1 + 1)); (try have uc1 := (Nat.lt_succ_of_lt uc : _ < w'.heap.size + 1)); (try have uc2 := (Nat.lt_succ_of_lt uc1 : _ < w'.heap.size + 1 + 1)); (try have ud1 := (Nat.lt_succ_of_lt ud : _ < w'.heap.size + 1)); (try have ud2 := (Nat.lt_succ_of_lt ud1 : _ < w'.heap.size + 1 + 1));  have y0 : w.heap.size < w'.heap.size := (by omega); have x0 : w.heap.size < w'.heap.size + 1 := (by omega); have x1 : w.heap.size < w'.heap.size + 1 + 1 := (by omega); have yg7 : g7 < w'.heap.size := (by omega); have hB0 : Below w.heap.size w w' := (by refine Below.trans ?_ (hb.mono (by first | omega | (simp only [World.size_alloc]; omega) | (simp only [World.size_drew, World.size_alloc]; omega) | (simp only [World.size_drew]; omega))); (repeat (first | (with_reducible exact Below.refl _ _) | (with_reducible exact HBE.out) | (with_reducible refine Below.drew ?_) | ((with_reducible refine Below.alloc ?_ ?_ _); rotate_left; (first | omega | (simp only [World.size_setCell]; omega) | (simp only [World.size_alloc, World.size_setCell]; omega) | (simp only [World.size_alloc]; omega) | (simp only [World.size_drew, World.size_alloc]; omega) | (simp only [World.size_drew]; omega))) | ((with_reducible refine set4_below ?_ ?_ _ _ _ _); rotate_left; omega) | ((with_reducible refine Below.setCell ?_ ?_ _); rotate_left; (show _ ≤ _); (simp only); omega)))); have HBE := Lib.hid hB0; clear hB0; have yr : wr.heap.size ≤ w'.heap.size := (by omega); have hB1 : Below wr.heap.size wr w' := (by refine Below.trans ?_ (hb.mono (by first | omega | (simp only [World.size_alloc]; omega) | (simp only [World.size_drew, World.size_alloc]; omega) | (simp only [World.size_drew]; omega))); (repeat (first | (with_reducible exact Below.refl _ _) | (with_reducible exact HBR.out) | (with_reducible refine Below.drew ?_) | ((with_reducible refine Below.alloc ?_ ?_ _); rotate_left; (first | omega | (simp only [World.size_setCell]; omega) | (simp only [World.size_alloc, World.size_setCell]; omega) | (simp only [World.size_alloc]; omega) | (simp only [World.size_drew, World.size_alloc]; omega) | (simp only [World.size_drew]; omega))) | ((with_reducible refine set4_below ?_ ?_ _ _ _ _); rotate_left; omega) | ((with_reducible refine Below.setCell ?_ ?_ _); rotate_left; (show _ ≤ _); (simp only); omega)))); have HBR := Lib.hid hB1; clear hB1 hb)
                  | ((with_reducible refine (CP.out _ _ ?_).mono ?_); (focus (exact HU.out)); rintro e' w' ⟨rfl, hb⟩; (try replace hb := undrew hb); have HLB := LastB.mk hb; obtain ⟨hc, hf⟩ := bcell hb; (try simp only [World.size_drew] at hc hf); have zz := hb.size; (try simp only [World.size_drew] at zz); (try simp only [World.size_alloc] at zz); (try have ua := (Nat.lt_of_lt_of_le ua (by omega) : _ < w'.heap.size)); (try have ub := (Nat.lt_of_lt_of_le ub (by omega) : _ < w'.heap.size)); (try have uc := (Nat.lt_of_lt_of_le uc (by omega) : _ < w'.heap.size)); (try have ud := (Nat.lt_of_lt_of_le ud (by omega) : _ < w'.heap.size)); (first | (have ua := ltA zz; have ub := ltB zz) | (have hq := uc; have ud := ltC zz; clear hq) | (have hq := ub; have uc := ltC zz; clear hq) | (have hq := ua; have ub := ltC zz; clear hq) | (have ua := ltC zz) | skip); (try have ua1 := (Nat.lt_succ_of_lt ua : _ < w'.heap.size + 1)); (try have ua2 := (Nat.lt_succ_of_lt ua1 : _ < w'.heap.size + 1 + 1)); (try have ub1 := (Nat.lt_succ_of_lt ub : _ < w'.heap.size + 1)); (try have ub2 := (Nat.lt_succ_of_lt ub1 : _ < w'.heap.size + 1 + 1)); (try have uc1 := (Nat.lt_succ_of_lt uc : _ < w'.heap.size + 1)); (try have uc2 := (Nat.lt_succ_of_lt uc1 : _ < w'.heap.size + 1 + 1)); (try have ud1 := (Nat.lt_succ_of_lt ud : _ < w'.heap.size + 1)); (try have ud2 := (Nat.lt_succ_of_lt ud1 : _ < w'.heap.size + 1 + 1));  have y0 : w.heap.size < w'.heap.size := (by omega); have x0 : w.heap.size < w'.heap.size + 1 := (by omega); have x1 : w.heap.size < w'.heap.size + 1 + 1 := (by omega); have yg7 : g7 < w'.heap.size := (by omega); have hB0 : Below w.heap.size w w' := (by refine Below.trans ?_ (hb.mono (by first | omega | (simp only [World.size_alloc]; omega) | (simp only [World.size_drew, World.size_alloc]; omega) | (simp only [World.size_drew]; omega))); (repeat (first | (with_reducible exact Below.refl _ _) | (with_reducible exact HBE.out) | (with_reducible refine Below.drew ?_) | ((with_reducible refine Below.alloc ?_ ?_ _); rotate_left; (first | omega | (simp only [World.size_setCell]; omega) | (simp only [World.size_alloc, World.size_setCell]; omega) | (simp only [World.size_alloc]; omega) | (simp only [World.size_drew, World.size_alloc]; omega) | (simp only [World.size_drew]; omega))) | ((with_reducible refine set4_below ?_ ?_ _ _ _ _); rotate_left; omega) | ((with_reducible refine Below.setCell ?_ ?_ _); rotate_left; (show _ ≤ _); (simp only); omega)))); have HBE := Lib.hid hB0; clear hB0; have yr : wr.heap.size ≤ w'.heap.size := (by omega); have hB1 : Below wr.heap.size wr w' := (by refine Below.trans ?_ (hb.mono (by first | omega | (simp only [World.size_alloc]; omega) | (simp only [World.size_drew, World.size_alloc]; omega) | (simp only [World.size_drew]; omega))); (repeat (first | (with_reducible exact Below.refl _ _) | (with_reducible exact HBR.out) | (with_reducible refine Below.drew ?_) | ((with_reducible refine Below.alloc ?_ ?_ _); rotate_left; (first | omega | (simp only [World.size_setCell]; omega) | (simp only [World.size_alloc, World.size_setCell]; omega) | (simp only [World.size_alloc]; omega) | (simp only [World.size_drew, World.size_alloc]; omega) | (simp only [World.size_drew]; omega))) | ((with_reducible refine set4_below ?_ ?_ _ _ _ _); rotate_left; omega) | ((with_reducible refine Below.setCell ?_ ?_ _); rotate_left; (show _ ≤ _); (simp only); omega)))); have HBR := Lib.hid hB1; clear hB1 hb)
                  | ((with_reducible refine (CP2.out _ _ ?_).mono ?_); (focus (exact HU.out)); rintro e' w' ⟨rfl, hb⟩; (try replace hb := undrew hb); have HLB := LastB.mk hb; obtain ⟨hc, hf⟩ := bcell hb; (try simp only [World.size_drew] at hc hf); have zz := hb.size; (try simp only [World.size_drew] at zz); (try simp only [World.size_alloc] at zz); (try have ua := (Nat.lt_of_lt_of_le ua (by omega) : _ < w'.heap.size)); (try have ub := (Nat.lt_of_lt_of_le ub (by omega) : _ < w'.heap.size)); (try have uc := (Nat.lt_of_lt_of_le uc (by omega) : _ < w'.heap.size)); (try have ud := (Nat.lt_of_lt_of_le ud (by omega) : _ < w'.heap.size)); (first | (have ua := ltA zz; have ub := ltB zz) | (have hq := uc; have ud := ltC zz; clear hq) | (have hq := ub; have uc := ltC zz; clear hq) | (have hq := ua; have ub := ltC zz; clear hq) | (have ua := ltC zz) | skip); (try have ua1 := (Nat.lt_succ_of_lt ua : _ < w'.heap.size + 1)); (try have ua2 := (Nat.lt_succ_of_lt ua1 : _ < w'.heap.size + 1 + 1)); (try have ub1 := (Nat.lt_succ_of_lt ub : _ < w'.heap.size + 1)); (try have ub2 := (Nat.lt_succ_of_lt ub1 : _ < w'.heap.size + 1 + 1)); (try have uc1 := (Nat.lt_succ_of_lt uc : _ < w'.heap.size + 1)); (try have uc2 := (Nat.lt_succ_of_lt uc1 : _ < w'.heap.size + 1 + 1)); (try have ud1 := (Nat.lt_succ_of_lt ud : _ < w'.heap.size + 1)); (try have ud2 := (Nat.lt_succ_of_lt ud1 : _ < w'.heap.size + 1 + 1));  have y0 : w.heap.size < w'.heap.size := (by omega); have x0 : w.heap.size < w'.heap.size + 1 := (by omega); have x1 : w.heap.size < w'.heap.size + 1 + 1 := (by omega); have yg7 : g7 < w'.heap.size := (by omega); have hB0 : Below w.heap.size w w' := (by refine Below.trans ?_ (hb.mono (by first | omega | (simp only [World.size_alloc]; omega) | (simp only [World.size_drew, World.size_alloc]; omega) | (simp only [World.size_drew]; omega))); (repeat (first | (with_reducible exact Below.refl _ _) | (with_reducible exact HBE.out) | (with_reducible refine Below.drew ?_) | ((with_reducible refine Below.alloc ?_ ?_ _); rotate_left; (first | omega | (simp only [World.size_setCell]; omega) | (simp only [World.size_alloc, World.size_setCell]; omega) | (simp only [World.size_alloc]; omega) | (simp only [World.size_drew, World.size_alloc]; omega) | (simp only [World.size_drew]; omega))) | ((with_reducible refine set4_below ?_ ?_ _ _ _ _); rotate_left; omega) | ((with_reducible refine Below.setCell ?_ ?_ _); rotate_left; (show _ ≤ _); (simp only); omega)))); have HBE := Lib.hid hB0; clear hB0; have yr : wr.heap.size ≤ w'.heap.size := (by omega); have hB1 : Below wr.heap.size wr w' := (by refine Below.trans ?_ (hb.mono (by first | omega | (simp only [World.size_alloc]; omega) | (simp only [World.size_drew, World.size_alloc]; omega) | (simp only [World.size_drew]; omega))); (repeat (first | (with_reducible exact Below.refl _ _) | (with_reducible exact HBR.out) | (with_reducible refine Below.drew ?_) | ((with_reducible refine Below.alloc ?_ ?_ _); rotate_left; (first | omega | (simp only [World.size_setCell]; omega) | (simp only [World.size_alloc, World.size_setCell]; omega) | (simp only [World.size_alloc]; omega) | (simp only [World.size_drew, World.size_alloc]; omega) | (simp only [World.size_drew]; omega))) | ((with_reducible refine set4_below ?_ ?_ _ _ _ _); rotate_left; omega) | ((with_reducible refine Below.setCell ?_ ?_ _); rotate_left; (show _ ≤ _); (simp only); omega)))); have HBR := Lib.hid hB1; clear hB1 hb)
                  | ((with_reducible refine (CT.out _).mono ?_); rintro e' w' ⟨rfl, hb⟩; (try replace hb := undrew hb); have HLB := LastB.mk hb; obtain ⟨hc, hf⟩ := bcell hb; (try simp only [World.size_drew] at hc hf); have zz := hb.size; (try simp only [World.size_drew] at zz); (try simp only [World.size_alloc] at zz); (try have ua := (Nat.lt_of_lt_of_le ua (by omega) : _ < w'.heap.size)); (try have ub := (Nat.lt_of_lt_of_le ub (by omega) : _ < w'.heap.size)); (try have uc := (Nat.lt_of_lt_of_le uc (by omega) : _ < w'.heap.size)); (try have ud := (Nat.lt_of_lt_of_le ud (by omega) : _ < w'.heap.size)); (first | (have ua := ltA zz; have ub := ltB zz) | (have hq := uc; have ud := ltC zz; clear hq) | (have hq := ub; have uc := ltC zz; clear hq) | (have hq := ua; have ub := ltC zz; clear hq) | (have ua := ltC zz) | skip); (try have ua1 := (Nat.lt_succ_of_lt ua : _ < w'.heap.size + 1)); (try have ua2 := (Nat.lt_succ_of_lt ua1 : _ < w'.heap.size + 1 + 1)); (try have ub1 := (Nat.lt_succ_of_lt ub : _ < w'.heap.size + 1)); (try have ub2 := (Nat.lt_succ_of_lt ub1 : _ < w'.heap.size + 1 + 1)); (try have uc1 := (Nat.lt_succ_of_lt uc : _ < w'.heap.size + 1)); (try have uc2 := (Nat.lt_succ_of_lt uc1 : _ < w'.heap.size + 1 + 1)); (try have ud1 := (Nat.lt_succ_of_lt ud : _ < w'.heap.size + 1)); (try have ud2 := (Nat.lt_succ_of_lt ud1 : _ < w'.heap.size + 1 + 1));  have y0 : w.heap.size < w'.heap.size := (by omega); have x0 : w.heap.size < w'.heap.size + 1 := (by omega); have x1 : w.heap.size < w'.heap.size + 1 + 1 := (by omega); have yg7 : g7 < w'.heap.size := (by omega); have hB0 : Below w.heap.size w w' := (by refine Below.trans ?_ (hb.mono (by first | omega | (simp only [World.size_alloc]; omega) | (simp only [World.size_drew, World.size_alloc]; omega) | (simp only [World.size_drew]; omega))); (repeat (first | (with_reducible exact Below.refl _ _) | (with_reducible exact HBE.out) | (with_reducible refine Below.drew ?_) | ((with_reducible refine Below.alloc ?_ ?_ _); rotate_left; (first | omega | (simp only [World.size_setCell]; omega) | (simp only [World.size_alloc, World.size_setCell]; omega) | (simp only [World.size_alloc]; omega) | (simp only [World.size_drew, World.size_alloc]; omega) | (simp only [World.size_drew]; omega))) | ((with_reducible refine set4_below ?_ ?_ _ _ _ _); rotate_left; omega) | ((with_reducible refine Below.setCell ?_ ?_ _); rotate_left; (show _ ≤ _); (simp only); omega)))); have HBE := Lib.hid hB0; clear hB0; have yr : wr.heap.size ≤ w'.heap.size := (by omega); have hB1 : Below wr.heap.size wr w' := (by refine Below.trans ?_ (hb.mono (by first | omega | (simp only [World.size_alloc]; omega) | (simp only [World.size_drew, World.size_alloc]; omega) | (simp only [World.size_drew]; omega))); (repeat (first | (with_reducible exact Below.refl _ _) | (with_reducible exact HBR.out) | (with_reducible refine Below.drew ?_) | ((with_reducible refine Below.alloc ?_ ?_ _); rotate_left; (first | omega | (simp only [World.size_setCell]; omega) | (simp only [World.size_alloc, World.size_setCell]; omega) | (simp only [World.size_alloc]; omega) | (simp only [World.size_drew, World.size_alloc]; omega) | (simp only [World.size_drew]; omega))) | ((with_reducible refine set4_below ?_ ?_ _ _ _ _); rotate_left; omega) | ((with_reducible refine Below.setCell ?_ ?_ _); rotate_left; (show _ ≤ _); (simp only); omega)))); have HBR := Lib.hid hB1; clear hB1 hb)
                  | fail)
              all_goals
                go_wp2_with fail
                go_ret
                refine ⟨rfl, ?_⟩
                (repeat (first | (with_reducible exact Below.refl _ _) | (with_reducible exact HBE.out) | (with_reducible refine Below.drew ?_) | ((with_reducible refine Below.alloc ?_ ?_ _); rotate_left; (first | omega | (simp only [World.size_setCell]; omega) | (simp only [World.size_alloc, World.size_setCell]; omega) | (simp only [World.size_alloc]; omega) | (simp only [World.size_drew, World.size_alloc]; omega) | (simp only [World.size_drew]; omega))) | ((with_reducible refine set4_below ?_ ?_ _ _ _ _); rotate_left; omega) | ((with_reducible refine Below.setCell ?_ ?_ _); rotate_left; (show _ ≤ _); (simp only); omega)))
end Go.Proofs.Ytkgghakdccbfpaa
