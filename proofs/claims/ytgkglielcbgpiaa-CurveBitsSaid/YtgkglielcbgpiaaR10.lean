/- The reference's Power. -/
import Derived.Test.YtgkglielcbgpiaaR9
import Derived.Test.YtgkglielcbgpiaaF8
namespace Go.Proofs.Ytgkglielcbgpiaa
open Go.RowKit

theorem numL_bit : ∀ (l : List UInt8) (q r : Nat), q < l.length → r < 8 → numL l / 2 ^ (8 * q + r) % 2 = (l.getD q 0).toNat / 2 ^ r % 2
  | x :: l, 0, r, _, hr => by
    rw [Nat.mul_zero, Nat.zero_add, numL]
    have hx : (x :: l).getD 0 0 = x := rfl
    rw [hx]
    have e : 256 * numL l = 2 ^ r * (2 * (2 ^ (7 - r) * numL l)) := by
      rw [← Nat.mul_assoc, ← Nat.mul_assoc, ← Nat.pow_succ, ← Nat.pow_add]
      congr 1
      rw [show r + 1 + (7 - r) = 8 by omega]
    rw [e, Nat.add_mul_div_left _ _ (Nat.pow_pos (by decide)), Nat.add_mul_mod_self_left]
  | x :: l, q + 1, r, hq, hr => by
    have h := numL_bit l q r (by simpa using hq) hr
    have hx : (x :: l).getD (q + 1) 0 = l.getD q 0 := rfl
    rw [hx, ← h, numL]
    have e : 2 ^ (8 * (q + 1) + r) = 256 * 2 ^ (8 * q + r) := by
      rw [show 8 * (q + 1) + r = 8 + (8 * q + r) by omega, Nat.pow_add]
    have h0 : x.toNat / 256 = 0 := Nat.div_eq_of_lt x.toNat_lt
    rw [e, ← Nat.div_div_eq_div_mul, Nat.add_mul_div_left _ _ (by decide), h0, Nat.zero_add]
/-- the squares, and what has been multiplied -/
def rpS (V : Nat) : Nat → Nat
  | 0 => V
  | i + 1 => (rpS V i * rpS V i) % PP
def rpO (V M : Nat) : Nat → Nat
  | 0 => 1
  | i + 1 => if M / 2 ^ i % 2 = 1 then (rpO V M i * rpS V i) % PP else rpO V M i
theorem rpS_lt {V : Nat} (h : V < W4) : ∀ i, rpS V i < W4
  | 0 => h
  | _ + 1 => mod_lt4 _
theorem rpO_lt (V M : Nat) : ∀ i, rpO V M i < W4
  | 0 => (by decide : 1 < W4)
  | i + 1 => by
    rw [rpO]
    split
    · exact mod_lt4 _
    · exact rpO_lt V M i
theorem rpS_mod (V : Nat) : ∀ i, rpS V i % PP = V ^ (2 ^ i) % PP
  | 0 => by rw [rpS, Nat.pow_zero, Nat.pow_one]
  | i + 1 => by
    rw [rpS, Nat.mod_mod, Nat.mul_mod, rpS_mod V i, ← Nat.mul_mod, ← Nat.pow_add]
    congr 2
    rw [Nat.pow_succ]
    omega
theorem rpO_mod (V M : Nat) : ∀ i, rpO V M i % PP = V ^ (M % 2 ^ i) % PP
  | 0 => by rw [rpO, Nat.pow_zero, Nat.mod_one, Nat.pow_zero]
  | i + 1 => by
    have e : M % 2 ^ (i + 1) = M % 2 ^ i + 2 ^ i * (M / 2 ^ i % 2) := by rw [Nat.pow_succ, Nat.mod_mul]
    rw [rpO]
    split
    · rename_i h
      rw [Nat.mod_mod, Nat.mul_mod, rpO_mod V M i, rpS_mod, ← Nat.mul_mod, ← Nat.pow_add, e, h, Nat.mul_one]
    · rename_i h
      rw [rpO_mod V M i, e, show M / 2 ^ i % 2 = 0 by omega, Nat.mul_zero, Nat.add_zero]
theorem numL_lt : ∀ l : List UInt8, numL l < 2 ^ (8 * l.length)
  | [] => by decide
  | x :: l => by
    have h := numL_lt l
    have hx := x.toNat_lt
    rw [numL, List.length_cons, show 8 * (l.length + 1) = 8 + 8 * l.length by omega, Nat.pow_add]
    generalize 2 ^ (8 * l.length) = p at *
    show _ < 256 * p
    omega
theorem rpO_all (V : Nat) (l : List UInt8) : rpO V (numL l) (8 * l.length) % PP = V ^ numL l % PP := by rw [rpO_mod, Nat.mod_eq_of_lt (numL_lt l)]

theorem E8.far {w : World} {g h U : Nat} (k : E8 w h U) (hn : h ≠ g) (V : Nat) : E8 (((((((((w).setCell ⟨g, 0, none⟩ (.int .u32 (dig (V) 0 : Int))).setCell ⟨g, 1, none⟩ (.int .u32 (dig (V) 1 : Int))).setCell ⟨g, 2, none⟩ (.int .u32 (dig (V) 2 : Int))).setCell ⟨g, 3, none⟩ (.int .u32 (dig (V) 3 : Int))).setCell ⟨g, 4, none⟩ (.int .u32 (dig (V) 4 : Int))).setCell ⟨g, 5, none⟩ (.int .u32 (dig (V) 5 : Int))).setCell ⟨g, 6, none⟩ (.int .u32 (dig (V) 6 : Int))).setCell ⟨g, 7, none⟩ (.int .u32 (dig (V) 7 : Int))) h U :=
  ⟨(set8_cell hn V).trans k.c0, (set8_cell hn V).trans k.c1, (set8_cell hn V).trans k.c2, (set8_cell hn V).trans k.c3, (set8_cell hn V).trans k.c4, (set8_cell hn V).trans k.c5, (set8_cell hn V).trans k.c6, (set8_cell hn V).trans k.c7,
   (set8_frozen V).trans k.f0, (set8_frozen V).trans k.f1, (set8_frozen V).trans k.f2, (set8_frozen V).trans k.f3, (set8_frozen V).trans k.f4, (set8_frozen V).trans k.f5, (set8_frozen V).trans k.f6, (set8_frozen V).trans k.f7⟩

set_option maxRecDepth 100000 in
set_option maxHeartbeats 4000000 in
theorem rpowE {V : Nat} (hV : V < W4) {l : List UInt8} {v : Value} {w : World} (hl : l.length ≤ 140737488355328) (hb : Bs w w.heap.size v l) : Calls Try.prog 49 #[.agg #[.int .u32 (dig (V) 0 : Int), .int .u32 (dig (V) 1 : Int), .int .u32 (dig (V) 2 : Int), .int .u32 (dig (V) 3 : Int), .int .u32 (dig (V) 4 : Int), .int .u32 (dig (V) 5 : Int), .int .u32 (dig (V) 6 : Int), .int .u32 (dig (V) 7 : Int)], v] w fun e w' => e = .returned (.agg #[.int .u32 (dig (V ^ numL l % PP) 0 : Int), .int .u32 (dig (V ^ numL l % PP) 1 : Int), .int .u32 (dig (V ^ numL l % PP) 2 : Int), .int .u32 (dig (V ^ numL l % PP) 3 : Int), .int .u32 (dig (V ^ numL l % PP) 4 : Int), .int .u32 (dig (V ^ numL l % PP) 5 : Int), .int .u32 (dig (V ^ numL l % PP) 6 : Int), .int .u32 (dig (V ^ numL l % PP) 7 : Int)]) ∧ Below w.heap.size w w' := by
  obtain ⟨N, hN⟩ : ∃ N, N = V ^ numL l % PP := ⟨_, rfl⟩
  rw [← hN]
  have HN := Lib.hid hN
  obtain ⟨AA, c, rfl, hlc, hcm, hcell⟩ := hb
  have HV := Lib.hid hV
  have HC := Lib.hid hcell
  unfold maxLen at hcm
  have CM := Lib.hid (fun V U => fun (h : V < W4) (k : U < W4) W => rmulE h k W)
  have CN := Lib.hid (fun V => fun (h : V < W4) W => rnormE h W)
  obtain ⟨Wa, hWa⟩ : ∃ Wa, Wa = (((w.alloc (.cells #[.int .u32 (dig (V) 0 : Int), .int .u32 (dig (V) 1 : Int), .int .u32 (dig (V) 2 : Int), .int .u32 (dig (V) 3 : Int), .int .u32 (dig (V) 4 : Int), .int .u32 (dig (V) 5 : Int), .int .u32 (dig (V) 6 : Int), .int .u32 (dig (V) 7 : Int)] 34)).alloc (.cells #[.int .u32 0, .int .u32 0, .int .u32 0, .int .u32 0, .int .u32 0, .int .u32 0, .int .u32 0, .int .u32 0] 34)).alloc (.cells #[.int .u32 1, .int .u32 0, .int .u32 0, .int .u32 0, .int .u32 0, .int .u32 0, .int .u32 0, .int .u32 0] 34)).alloc (.cells #[.int .u32 (dig (V) 0 : Int), .int .u32 (dig (V) 1 : Int), .int .u32 (dig (V) 2 : Int), .int .u32 (dig (V) 3 : Int), .int .u32 (dig (V) 4 : Int), .int .u32 (dig (V) 5 : Int), .int .u32 (dig (V) 6 : Int), .int .u32 (dig (V) 7 : Int)] 34) := ⟨_, rfl⟩
  have a1 : E8z Wa (w.heap.size + 1) := by
    rw [hWa]
    have h := ((E8z.new (w.alloc (.cells #[.int .u32 (dig (V) 0 : Int), .int .u32 (dig (V) 1 : Int), .int .u32 (dig (V) 2 : Int), .int .u32 (dig (V) 3 : Int), .int .u32 (dig (V) 4 : Int), .int .u32 (dig (V) 5 : Int), .int .u32 (dig (V) 6 : Int), .int .u32 (dig (V) 7 : Int)] 34))).below ((Below.refl _ _).alloc (Nat.le_refl _) (.cells #[.int .u32 1, .int .u32 0, .int .u32 0, .int .u32 0, .int .u32 0, .int .u32 0, .int .u32 0, .int .u32 0] 34)) (by simp)).below ((Below.refl _ _).alloc (Nat.le_refl _) (.cells #[.int .u32 (dig (V) 0 : Int), .int .u32 (dig (V) 1 : Int), .int .u32 (dig (V) 2 : Int), .int .u32 (dig (V) 3 : Int), .int .u32 (dig (V) 4 : Int), .int .u32 (dig (V) 5 : Int), .int .u32 (dig (V) 6 : Int), .int .u32 (dig (V) 7 : Int)] 34)) (by simp)
    simpa using h
  have a2 : E8 Wa (w.heap.size + 1 + 1) 1 := by
    rw [hWa]
    have h0 : E8 (((w.alloc (.cells #[.int .u32 (dig (V) 0 : Int), .int .u32 (dig (V) 1 : Int), .int .u32 (dig (V) 2 : Int), .int .u32 (dig (V) 3 : Int), .int .u32 (dig (V) 4 : Int), .int .u32 (dig (V) 5 : Int), .int .u32 (dig (V) 6 : Int), .int .u32 (dig (V) 7 : Int)] 34)).alloc (.cells #[.int .u32 0, .int .u32 0, .int .u32 0, .int .u32 0, .int .u32 0, .int .u32 0, .int .u32 0, .int .u32 0] 34)).alloc (.cells #[.int .u32 1, .int .u32 0, .int .u32 0, .int .u32 0, .int .u32 0, .int .u32 0, .int .u32 0, .int .u32 0] 34)) ((w.alloc (.cells #[.int .u32 (dig (V) 0 : Int), .int .u32 (dig (V) 1 : Int), .int .u32 (dig (V) 2 : Int), .int .u32 (dig (V) 3 : Int), .int .u32 (dig (V) 4 : Int), .int .u32 (dig (V) 5 : Int), .int .u32 (dig (V) 6 : Int), .int .u32 (dig (V) 7 : Int)] 34)).alloc (.cells #[.int .u32 0, .int .u32 0, .int .u32 0, .int .u32 0, .int .u32 0, .int .u32 0, .int .u32 0, .int .u32 0] 34)).heap.size 1 := E8.new ((w.alloc (.cells #[.int .u32 (dig (V) 0 : Int), .int .u32 (dig (V) 1 : Int), .int .u32 (dig (V) 2 : Int), .int .u32 (dig (V) 3 : Int), .int .u32 (dig (V) 4 : Int), .int .u32 (dig (V) 5 : Int), .int .u32 (dig (V) 6 : Int), .int .u32 (dig (V) 7 : Int)] 34)).alloc (.cells #[.int .u32 0, .int .u32 0, .int .u32 0, .int .u32 0, .int .u32 0, .int .u32 0, .int .u32 0, .int .u32 0] 34)) 1
    have h := h0.below ((Below.refl _ _).alloc (Nat.le_refl _) (.cells #[.int .u32 (dig (V) 0 : Int), .int .u32 (dig (V) 1 : Int), .int .u32 (dig (V) 2 : Int), .int .u32 (dig (V) 3 : Int), .int .u32 (dig (V) 4 : Int), .int .u32 (dig (V) 5 : Int), .int .u32 (dig (V) 6 : Int), .int .u32 (dig (V) 7 : Int)] 34)) (by simp)
    simpa using h
  have a3 : E8 Wa (w.heap.size + 1 + 1 + 1) V := by
    rw [hWa]
    have h := E8.new (((w.alloc (.cells #[.int .u32 (dig (V) 0 : Int), .int .u32 (dig (V) 1 : Int), .int .u32 (dig (V) 2 : Int), .int .u32 (dig (V) 3 : Int), .int .u32 (dig (V) 4 : Int), .int .u32 (dig (V) 5 : Int), .int .u32 (dig (V) 6 : Int), .int .u32 (dig (V) 7 : Int)] 34)).alloc (.cells #[.int .u32 0, .int .u32 0, .int .u32 0, .int .u32 0, .int .u32 0, .int .u32 0, .int .u32 0, .int .u32 0] 34)).alloc (.cells #[.int .u32 1, .int .u32 0, .int .u32 0, .int .u32 0, .int .u32 0, .int .u32 0, .int .u32 0, .int .u32 0] 34)) V
    simpa using h
  have hBe : Below w.heap.size w Wa := by
    rw [hWa]
    exact ((((Below.refl _ _).alloc (Nat.le_refl _) _).alloc (by simp) _).alloc (by simp; omega) _).alloc (by simp; omega) _
  have A1 := Lib.hid a1; have A2 := Lib.hid a2; have A3 := Lib.hid a3; have HBe := Lib.hid hBe; have HWa := Lib.hid hWa
  clear hV hcell hN a1 a2 a3 hBe hWa
  go_enter Try.func49, Try.ntmps49
  go_wp2_with fail
  rw [← HWa.out]
  go_loopw [7] (fun i wr => ∃ k : Nat, k ≤ 8 * l.length ∧ i = .int .i64 k ∧ Hid (E8 wr (w.heap.size + 1 + 1) (rpO V (numL l) k)) ∧ Hid (E8 wr (w.heap.size + 1 + 1 + 1) (rpS V k)) ∧ Hid (E8z wr (w.heap.size + 1)) ∧ Hid (Below w.heap.size w wr)) (fun i _ => 8 * l.length - (intOf i).toNat)
  case atStart => exact ⟨0, Nat.zero_le _, rfl, A2, A3, A1, HBe⟩
  case round =>
    clear A1 A2 A3 HBe
    obtain ⟨k, hk, rfl, ho, hs, hz, hbe⟩ := hrel
    have kn : (0 : Int) ≤ (k : Int) := Int.natCast_nonneg _
    have x3 : w.heap.size + 1 + 1 + 1 < wr.heap.size := World.block_lt_of_cell? wr ⟨w.heap.size + 1 + 1 + 1, 0, none⟩ hs.out.c0
    have x2 : w.heap.size + 1 + 1 < wr.heap.size := by omega
    have x1 : w.heap.size + 1 < wr.heap.size := by omega
    have x0 : w.heap.size < wr.heap.size := by omega
    by_cases hlt : k < 8 * l.length
    · obtain ⟨b, off, rfl, hbl, hcl⟩ := HC.out (by omega)
      have hq : k / 8 < l.length := by omega
      have hx : wr.cell? ⟨b, off + k / 8, none⟩ = some (.int .u8 ((l.getD (k / 8) 0).toNat : Int)) := by
        rw [hbe.out.cell (p := ⟨b, off + k / 8, none⟩) hbl, hcl (k / 8) hq]
        simp [hq]
      have hbit := numL_bit l (k / 8) (k % 8) hq (Nat.mod_lt _ (by decide))
      rw [Nat.div_add_mod] at hbit
      obtain ⟨x, hxe⟩ : ∃ x, x = l.getD (k / 8) 0 := ⟨_, rfl⟩
      rw [← hxe] at hx hbit
      have xb := x.toNat_lt
      have hS := Lib.hid (rpS_lt HV.out k)
      have hO := Lib.hid (rpO_lt V (numL l) k)
      obtain ⟨S, hS'⟩ : ∃ S, S = rpS V k := ⟨_, rfl⟩
      obtain ⟨O, hO'⟩ : ∃ O, O = rpO V (numL l) k := ⟨_, rfl⟩
      rw [← hS'] at hS hs
      rw [← hO'] at hO ho
      have HS' := Lib.hid hS'; have HO' := Lib.hid hO'
      have ns : rpS V (k + 1) = (S * S) % PP := by rw [rpS, hS']
      have NS := Lib.hid ns
      clear hxe hcl hS' hO' ns
      obtain ⟨c0, c1, c2, c3, c4, c5, c6, c7, f0, f1, f2, f3, f4, f5, f6, f7⟩ := ho.out
      obtain ⟨d0, d1, d2, d3, d4, d5, d6, d7, g0, g1, g2, g3, g4, g5, g6, g7⟩ := hs.out
      have hcast : ((x.toNat : Int) / 2 ^ (k % 8)).tmod 2 = ((x.toNat / 2 ^ (k % 8) % 2 : Nat) : Int) := by
        have e : (x.toNat : Int) / 2 ^ (k % 8) = ((x.toNat / 2 ^ (k % 8) : Nat) : Int) := by rw [Int.natCast_ediv, Int.natCast_pow]; rfl
        rw [e]
        rfl
      have hk8 : decide ((k : Int) < 8 * (l.length : Int)) = true := decide_eq_true (by omega)
      by_cases hb : x.toNat / 2 ^ (k % 8) % 2 = 1
      · have ht : (((x.toNat : Int) / 2 ^ (k % 8)).tmod 2 == 1) = true := by rw [hcast, hb]; rfl
        have no : rpO V (numL l) (k + 1) = (O * S) % PP := by rw [rpO, if_pos (by rw [hbit]; exact hb), HS'.out, HO'.out]
        have NO := Lib.hid no
        clear hcast hb hbit no
        go_wp2_with fail
        with_reducible refine (CM.out O S hO.out hS.out _).mono ?_
        rintro e w1 ⟨rfl, hb1⟩
        have B1 := Lib.hid hb1
        obtain ⟨hc1, hf1⟩ := bcell hb1
        have zz1 := hb1.size
        try simp only [World.size_alloc] at zz1
        have z1_0 : w.heap.size + 1 + 1 + 1 < w1.heap.size := by omega
        have z1_1 : w.heap.size + 1 + 1 < w1.heap.size := by omega
        have z1_2 : w.heap.size + 1 < w1.heap.size := by omega
        have z1_3 : w.heap.size < w1.heap.size := by omega
        clear hb1 zz1
        have o1 := set8_set (ho.out.below B1.out x2) ((O * S) % PP)
        have s1 := (hs.out.below B1.out x3).far (g := w.heap.size + 1 + 1) (by omega) ((O * S) % PP)
        have z1 := (hz.out.below B1.out x1).far (g := w.heap.size + 1 + 1) (by omega) ((O * S) % PP)
        have b1 := set8_below (hbe.out.trans (B1.out.mono (by omega))) (g := w.heap.size + 1 + 1) (by omega) ((O * S) % PP)
        have x3' : w.heap.size + 1 + 1 + 1 < ((((((((((w1).setCell ⟨w.heap.size + 1 + 1, 0, none⟩ (.int .u32 (dig ((O * S) % PP) 0 : Int))).setCell ⟨w.heap.size + 1 + 1, 1, none⟩ (.int .u32 (dig ((O * S) % PP) 1 : Int))).setCell ⟨w.heap.size + 1 + 1, 2, none⟩ (.int .u32 (dig ((O * S) % PP) 2 : Int))).setCell ⟨w.heap.size + 1 + 1, 3, none⟩ (.int .u32 (dig ((O * S) % PP) 3 : Int))).setCell ⟨w.heap.size + 1 + 1, 4, none⟩ (.int .u32 (dig ((O * S) % PP) 4 : Int))).setCell ⟨w.heap.size + 1 + 1, 5, none⟩ (.int .u32 (dig ((O * S) % PP) 5 : Int))).setCell ⟨w.heap.size + 1 + 1, 6, none⟩ (.int .u32 (dig ((O * S) % PP) 6 : Int))).setCell ⟨w.heap.size + 1 + 1, 7, none⟩ (.int .u32 (dig ((O * S) % PP) 7 : Int)))).heap.size := World.block_lt_of_cell? _ ⟨w.heap.size + 1 + 1 + 1, 0, none⟩ s1.c0
        obtain ⟨W1, hW1⟩ : ∃ W1, W1 = (((((((((w1).setCell ⟨w.heap.size + 1 + 1, 0, none⟩ (.int .u32 (dig ((O * S) % PP) 0 : Int))).setCell ⟨w.heap.size + 1 + 1, 1, none⟩ (.int .u32 (dig ((O * S) % PP) 1 : Int))).setCell ⟨w.heap.size + 1 + 1, 2, none⟩ (.int .u32 (dig ((O * S) % PP) 2 : Int))).setCell ⟨w.heap.size + 1 + 1, 3, none⟩ (.int .u32 (dig ((O * S) % PP) 3 : Int))).setCell ⟨w.heap.size + 1 + 1, 4, none⟩ (.int .u32 (dig ((O * S) % PP) 4 : Int))).setCell ⟨w.heap.size + 1 + 1, 5, none⟩ (.int .u32 (dig ((O * S) % PP) 5 : Int))).setCell ⟨w.heap.size + 1 + 1, 6, none⟩ (.int .u32 (dig ((O * S) % PP) 6 : Int))).setCell ⟨w.heap.size + 1 + 1, 7, none⟩ (.int .u32 (dig ((O * S) % PP) 7 : Int))) := ⟨_, rfl⟩
        rw [← hW1] at o1 s1 z1 b1 x3'
        have HW1 := Lib.hid hW1; have Z1 := Lib.hid z1; have B1' := Lib.hid b1; have O1 := Lib.hid o1; have S1 := Lib.hid s1
        clear z1 b1 hW1 o1
        go_wp2_with fail
        rw [← HW1.out]
        clear hc1 hf1 c0 c1 c2 c3 c4 c5 c6 c7 f0 f1 f2 f3 f4 f5 f6 f7 d0 d1 d2 d3 d4 d5 d6 d7 g0 g1 g2 g3 g4 g5 g6 g7
        obtain ⟨d0, d1, d2, d3, d4, d5, d6, d7, g0, g1, g2, g3, g4, g5, g6, g7⟩ := s1
        have x2' : w.heap.size + 1 + 1 < W1.heap.size := by omega
        have x1' : w.heap.size + 1 < W1.heap.size := by omega
        with_reducible refine (CM.out S S hS.out hS.out _).mono ?_
        rintro e w2 ⟨rfl, hb2⟩
        have B2 := Lib.hid hb2
        obtain ⟨hc2, hf2⟩ := bcell hb2
        have zz2 := hb2.size
        try simp only [World.size_alloc] at zz2
        have z2_0 : w.heap.size + 1 + 1 + 1 < w2.heap.size := by omega
        have z2_1 : w.heap.size + 1 + 1 < w2.heap.size := by omega
        have z2_2 : w.heap.size + 1 < w2.heap.size := by omega
        have z2_3 : w.heap.size < w2.heap.size := by omega
        clear hb2 zz2
        have o2 := (O1.out.below B2.out x2').far (g := w.heap.size + 1 + 1 + 1) (by omega) ((S * S) % PP)
        have s2 := set8_set (S1.out.below B2.out x3') ((S * S) % PP)
        have z2 := (Z1.out.below B2.out x1').far (g := w.heap.size + 1 + 1 + 1) (by omega) ((S * S) % PP)
        have b2 := set8_below (B1'.out.trans (B2.out.mono (by omega))) (g := w.heap.size + 1 + 1 + 1) (by omega) ((S * S) % PP)
        have O2 := Lib.hid o2; have S2 := Lib.hid s2; have Z2 := Lib.hid z2; have B2' := Lib.hid b2
        clear o2 s2 z2 b2
        go_wp2_with fail
        go_roundw
        case rel => exact ⟨k + 1, by omega, by go_num, by rw [NO.out]; exact O2, by rw [NS.out]; exact S2, Z2, B2'⟩
        case measure => simp [intOf]; omega
      · have ht : (((x.toNat : Int) / 2 ^ (k % 8)).tmod 2 == 1) = false := by
          rw [hcast, show x.toNat / 2 ^ (k % 8) % 2 = 0 by omega]; rfl
        have no : rpO V (numL l) (k + 1) = O := by rw [rpO, if_neg (by rw [hbit]; exact hb), HO'.out]
        have NO := Lib.hid no
        clear hcast hb hbit no
        go_wp2_with fail
        with_reducible refine (CM.out S S hS.out hS.out _).mono ?_
        rintro e w1 ⟨rfl, hb1⟩
        have B1 := Lib.hid hb1
        obtain ⟨hc1, hf1⟩ := bcell hb1
        have zz1 := hb1.size
        try simp only [World.size_alloc] at zz1
        have z1_0 : w.heap.size + 1 + 1 + 1 < w1.heap.size := by omega
        have z1_1 : w.heap.size + 1 + 1 < w1.heap.size := by omega
        have z1_2 : w.heap.size + 1 < w1.heap.size := by omega
        have z1_3 : w.heap.size < w1.heap.size := by omega
        clear hb1 zz1
        have o1 := (ho.out.below B1.out x2).far (g := w.heap.size + 1 + 1 + 1) (by omega) ((S * S) % PP)
        have s1 := set8_set (hs.out.below B1.out x3) ((S * S) % PP)
        have z1 := (hz.out.below B1.out x1).far (g := w.heap.size + 1 + 1 + 1) (by omega) ((S * S) % PP)
        have b1 := set8_below (hbe.out.trans (B1.out.mono (by omega))) (g := w.heap.size + 1 + 1 + 1) (by omega) ((S * S) % PP)
        have O1 := Lib.hid o1; have S1 := Lib.hid s1; have Z1 := Lib.hid z1; have B1' := Lib.hid b1
        clear o1 s1 z1 b1
        go_wp2_with fail
        go_roundw
        case rel => exact ⟨k + 1, by omega, by go_num, by rw [NO.out]; exact O1, by rw [NS.out]; exact S1, Z1, B1'⟩
        case measure => simp [intOf]; omega
    · obtain rfl : k = 8 * l.length := by omega
      have hk8 : decide (((8 * l.length : Nat) : Int) < 8 * (l.length : Int)) = false := decide_eq_false (by omega)
      have C5 := Lib.hid (fun W => CN.out _ (rpO_lt V (numL l) (8 * l.length)) W)
      have he : rpO V (numL l) (8 * l.length) % PP = N := by rw [rpO_all, HN.out]
      rw [he] at C5
      obtain ⟨O, hO⟩ : ∃ O, O = rpO V (numL l) (8 * l.length) := ⟨_, rfl⟩
      rw [← hO] at C5 ho
      obtain ⟨c0, c1, c2, c3, c4, c5, c6, c7, f0, f1, f2, f3, f4, f5, f6, f7⟩ := ho.out
      clear hO he CN CM
      have hm : Hid (((8 * l.length : Nat) : Int) = 8 * (l.length : Int)) := Lib.hid (by omega)
      have hlt8 : decide (8 * (l.length : Int) < 8 * (l.length : Int)) = false := decide_eq_false (by omega)
      rw [hm.out]
      clear hk8
      go_wp2_with fail
      with_reducible refine (C5.out _).mono ?_
      rintro e w2 ⟨rfl, hb2⟩
      have B2 := Lib.hid hb2
      obtain ⟨d0, d1, d2, d3, d4, d5, d6, d7, k0, k1, k2, k3, k4, k5, k6, k7⟩ := hz.out.below hb2 x1
      clear hb2
      go_wp2_with fail
      refine bodyPost_ret (v := .agg #[.int .u32 (dig (N) 0 : Int), .int .u32 (dig (N) 1 : Int), .int .u32 (dig (N) 2 : Int), .int .u32 (dig (N) 3 : Int), .int .u32 (dig (N) 4 : Int), .int .u32 (dig (N) 5 : Int), .int .u32 (dig (N) 6 : Int), .int .u32 (dig (N) 7 : Int)]) (by simp [results, Try.results49, go_sem, *]) rfl ⟨rfl, ?_⟩
      exact set8_below (hbe.out.trans (B2.out.mono (by omega))) (g := w.heap.size + 1) (by omega) N
end Go.Proofs.Ytgkglielcbgpiaa
