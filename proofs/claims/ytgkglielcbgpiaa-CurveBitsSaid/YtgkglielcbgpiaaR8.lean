/- The reference's Mul. -/
import Derived.Test.YtgkglielcbgpiaaR7
namespace Go.Proofs.Ytgkglielcbgpiaa
open Go.RowKit

theorem valD_upd_eq {f : Nat → Nat} {k x : Nat} : ∀ {n : Nat}, k < n → valD (upd f k x) n + 4294967296 ^ k * f k = valD f n + 4294967296 ^ k * x
  | n + 1, hk => by
    by_cases e : k = n
    · subst e
      rw [valD_upd1, valD]
      omega
    · rw [valD, valD]
      have h := valD_upd_eq (f := f) (x := x) (n := n) (k := k) (by omega)
      have e2 : upd f k x n = f n := by unfold upd; rw [if_neg (fun h => e h.symm)]
      rw [e2]
      omega
/-- within row i: j places done -/
structure MuI (f0 : Nat → Nat) (a : Nat) (b g : Nat → Nat) (i j c : Nat) : Prop where
  lt : ∀ k, g k < 4294967296
  z : ∀ k, i + 8 ≤ k → g k = 0
  cl : c < 4294967296
  e : valD g 17 + 4294967296 ^ (i + j) * c = valD f0 17 + 4294967296 ^ i * (a * valD b j)
theorem mu_bound {c g a b : Nat} (h1 : c < 4294967296) (h2 : g < 4294967296) (h3 : a < 4294967296) (h4 : b < 4294967296) : c + g + a * b < 18446744073709551616 := by
  have h : a * b ≤ 4294967295 * 4294967295 := Nat.mul_le_mul (by omega) (by omega)
  omega
theorem mu_step {f0 : Nat → Nat} {a : Nat} {b g : Nat → Nat} {i j c : Nat} (h : MuI f0 a b g i j c) (ha : a < 4294967296) (hb : b j < 4294967296) (hi : i < 8) (hj : j < 8) :
    MuI f0 a b (upd g (i + j) ((c + g (i + j) + a * b j) % 4294967296)) i (j + 1) ((c + g (i + j) + a * b j) / 4294967296) := by
  have hm := mu_bound h.cl (h.lt (i + j)) ha hb
  have he := h.e
  have hu := valD_upd_eq (f := g) (x := (c + g (i + j) + a * b j) % 4294967296) (n := 17) (k := i + j) (by omega)
  refine ⟨upd_lt h.lt (Nat.mod_lt _ (by decide)), fun k hk => ?_, by omega, ?_⟩
  · unfold upd
    rw [if_neg (by omega)]
    exact h.z k hk
  · have e2 : 4294967296 ^ (i + j) * ((c + g (i + j) + a * b j) % 4294967296) + 4294967296 ^ (i + (j + 1)) * ((c + g (i + j) + a * b j) / 4294967296) = 4294967296 ^ (i + j) * c + 4294967296 ^ (i + j) * g (i + j) + 4294967296 ^ i * (a * (4294967296 ^ j * b j)) := by
      rw [← Nat.add_assoc, Nat.pow_succ, Nat.mul_assoc, ← Nat.mul_add, Nat.mod_add_div, Nat.mul_add, Nat.mul_add, Nat.pow_add]
      congr 1
      rw [Nat.mul_assoc]
      congr 1
      rw [Nat.mul_left_comm]
    rw [show valD b (j + 1) = valD b j + 4294967296 ^ j * b j from rfl, Nat.mul_add a, Nat.mul_add]
    omega
theorem mu_row {f0 : Nat → Nat} {a : Nat} {b g : Nat → Nat} {i c : Nat} (h : MuI f0 a b g i 8 c) (hi : i < 8) :
    (∀ k, upd g (i + 8) c k < 4294967296) ∧ (∀ k, i + 1 + 8 ≤ k → upd g (i + 8) c k = 0) ∧ valD (upd g (i + 8) c) 17 = valD f0 17 + 4294967296 ^ i * (a * valD b 8) := by
  refine ⟨upd_lt h.lt h.cl, fun k hk => ?_, ?_⟩
  · unfold upd
    rw [if_neg (by omega)]
    exact h.z k (by omega)
  · have hu := valD_upd_eq (f := g) (x := c) (n := 17) (k := i + 8) (by omega)
    rw [h.z (i + 8) (Nat.le_refl _), Nat.mul_zero] at hu
    have := h.e
    omega
theorem mu_start {f0 : Nat → Nat} {a : Nat} {b : Nat → Nat} {i : Nat} (h : ∀ k, f0 k < 4294967296) (hz : ∀ k, i + 8 ≤ k → f0 k = 0) : MuI f0 a b f0 i 0 0 := ⟨h, hz, by omega, by simp [valD]⟩
theorem mu_next {a b : Nat → Nat} {f0 f1 : Nat → Nat} {i : Nat} (h : valD f0 17 = valD a i * valD b 8) (h1 : valD f1 17 = valD f0 17 + 4294967296 ^ i * (a i * valD b 8)) : valD f1 17 = valD a (i + 1) * valD b 8 := by
  rw [h1, h, show valD a (i + 1) = valD a i + 4294967296 ^ i * a i from rfl, Nat.add_mul, Nat.mul_assoc]

set_option maxRecDepth 100000 in
set_option maxHeartbeats 4000000 in
theorem rmulE {V U : Nat} (hV : V < W4) (hU : U < W4) (w : World) : Calls Try.prog 15 #[.agg #[.int .u32 (dig (V) 0 : Int), .int .u32 (dig (V) 1 : Int), .int .u32 (dig (V) 2 : Int), .int .u32 (dig (V) 3 : Int), .int .u32 (dig (V) 4 : Int), .int .u32 (dig (V) 5 : Int), .int .u32 (dig (V) 6 : Int), .int .u32 (dig (V) 7 : Int)], .agg #[.int .u32 (dig (U) 0 : Int), .int .u32 (dig (U) 1 : Int), .int .u32 (dig (U) 2 : Int), .int .u32 (dig (U) 3 : Int), .int .u32 (dig (U) 4 : Int), .int .u32 (dig (U) 5 : Int), .int .u32 (dig (U) 6 : Int), .int .u32 (dig (U) 7 : Int)]] w fun e w' => e = .returned (.agg #[.int .u32 (dig ((V * U) % PP) 0 : Int), .int .u32 (dig ((V * U) % PP) 1 : Int), .int .u32 (dig ((V * U) % PP) 2 : Int), .int .u32 (dig ((V * U) % PP) 3 : Int), .int .u32 (dig ((V * U) % PP) 4 : Int), .int .u32 (dig ((V * U) % PP) 5 : Int), .int .u32 (dig ((V * U) % PP) 6 : Int), .int .u32 (dig ((V * U) % PP) 7 : Int)]) ∧ Below w.heap.size w w' := by
  obtain ⟨N, hN⟩ : ∃ N, N = (V * U) % PP := ⟨_, rfl⟩
  rw [← hN]
  obtain ⟨cs, hcs⟩ : ∃ cs, cs = nvA V := ⟨_, rfl⟩
  obtain ⟨ds, hds⟩ : ∃ ds, ds = nvA U := ⟨_, rfl⟩
  rw [← nvL V, ← nvL U, ← hcs, ← hds]
  obtain ⟨Wa, hWa⟩ : ∃ Wa, Wa = (((w.alloc (.cells cs 34)).alloc (.cells ds 34)).alloc (.cells #[.int .u32 0, .int .u32 0, .int .u32 0, .int .u32 0, .int .u32 0, .int .u32 0, .int .u32 0, .int .u32 0] 34)).alloc (.cells #[.int .u64 0, .int .u64 0, .int .u64 0, .int .u64 0, .int .u64 0, .int .u64 0, .int .u64 0, .int .u64 0, .int .u64 0, .int .u64 0, .int .u64 0, .int .u64 0, .int .u64 0, .int .u64 0, .int .u64 0, .int .u64 0, .int .u64 0] 80) := ⟨_, rfl⟩
  have hA : Rw Wa w.heap.size 34 .u32 8 (dig V) := by
    rw [hWa]
    exact (((Rw.new w _ _ _ _ hcs).alloc _).alloc _).alloc _
  have hB : Rw Wa (w.heap.size + 1) 34 .u32 8 (dig U) := by
    rw [hWa]
    have h := ((Rw.new (w.alloc (.cells cs 34)) 34 .u32 8 (dig U) hds).alloc (.cells #[.int .u32 0, .int .u32 0, .int .u32 0, .int .u32 0, .int .u32 0, .int .u32 0, .int .u32 0, .int .u32 0] 34)).alloc (.cells #[.int .u64 0, .int .u64 0, .int .u64 0, .int .u64 0, .int .u64 0, .int .u64 0, .int .u64 0, .int .u64 0, .int .u64 0, .int .u64 0, .int .u64 0, .int .u64 0, .int .u64 0, .int .u64 0, .int .u64 0, .int .u64 0, .int .u64 0] 80)
    simpa using h
  have hZ : E8z Wa (w.heap.size + 1 + 1) := by
    rw [hWa]
    have h := (E8z.new ((w.alloc (.cells cs 34)).alloc (.cells ds 34))).below ((Below.refl _ _).alloc (Nat.le_refl _) (.cells #[.int .u64 0, .int .u64 0, .int .u64 0, .int .u64 0, .int .u64 0, .int .u64 0, .int .u64 0, .int .u64 0, .int .u64 0, .int .u64 0, .int .u64 0, .int .u64 0, .int .u64 0, .int .u64 0, .int .u64 0, .int .u64 0, .int .u64 0] 80)) (by simp)
    simpa using h
  have hR : Rw Wa (w.heap.size + 1 + 1 + 1) 80 .u64 17 (fun _ => 0) := by
    rw [hWa]
    have h := Rw.new (((w.alloc (.cells cs 34)).alloc (.cells ds 34)).alloc (.cells #[.int .u32 0, .int .u32 0, .int .u32 0, .int .u32 0, .int .u32 0, .int .u32 0, .int .u32 0, .int .u32 0] 34)) 80 .u64 17 (fun _ => 0) (cs := #[.int .u64 0, .int .u64 0, .int .u64 0, .int .u64 0, .int .u64 0, .int .u64 0, .int .u64 0, .int .u64 0, .int .u64 0, .int .u64 0, .int .u64 0, .int .u64 0, .int .u64 0, .int .u64 0, .int .u64 0, .int .u64 0, .int .u64 0]) rfl
    simpa using h
  have hBe : Below w.heap.size w Wa := by
    rw [hWa]
    exact ((((Below.refl _ _).alloc (Nat.le_refl _) _).alloc (by simp) _).alloc (by simp; omega) _).alloc (by simp; omega) _
  have HA := Lib.hid hA; have HB := Lib.hid hB; have HR := Lib.hid hR; have HZ := Lib.hid hZ; have HBe := Lib.hid hBe; have HWa := Lib.hid hWa; have HN := Lib.hid hN
  have HV := Lib.hid hV; have HU := Lib.hid hU
  clear hA hB hR hZ hBe hWa hcs hds hN hV hU
  go_enter Try.func15, Try.ntmps15
  go_wp2_with fail
  rw [← HWa.out]
  go_loopw [6] (fun ii wq => ∃ i : Nat, ∃ f : Nat → Nat, i ≤ 8 ∧ ii = .int .i64 i ∧ Hid ((∀ k, f k < 4294967296) ∧ (∀ k, i + 8 ≤ k → f k = 0) ∧ valD f 17 = valD (dig V) i * valD (dig U) 8) ∧ Hid (Rw wq w.heap.size 34 .u32 8 (dig V)) ∧ Hid (Rw wq (w.heap.size + 1) 34 .u32 8 (dig U)) ∧ Hid (Rw wq (w.heap.size + 1 + 1 + 1) 80 .u64 17 f) ∧ Hid (E8z wq (w.heap.size + 1 + 1)) ∧ Hid (Below w.heap.size w wq)) (fun ii _ => 8 - (intOf ii).toNat)
  case atStart => exact ⟨0, fun _ => 0, by omega, rfl, Lib.hid ⟨fun _ => by show 0 < _; omega, fun _ _ => rfl, by simp [valD]⟩, HA, HB, HR, HZ, HBe⟩
  case round =>
    clear HA HB HR HZ HBe
    obtain ⟨i, f, hi, rfl, hf, ha, hb, hr, hz, hbe⟩ := hrel
    have i0 : (0 : Int) ≤ (i : Int) := Int.natCast_nonneg _
    by_cases hi8 : i < 8
    · have hi8' : (i : Int) < 8 := by omega
      have hst := Lib.hid (mu_start (a := dig V i) (b := dig U) hf.out.1 hf.out.2.1)
      go_wp2_with fail
      go_loopw [7, 8] (fun c jj wq => ∃ j c' : Nat, ∃ g : Nat → Nat, j ≤ 8 ∧ c = .int .u64 c' ∧ jj = .int .i64 j ∧ Hid (MuI f (dig V i) (dig U) g i j c') ∧ Hid (Rw wq w.heap.size 34 .u32 8 (dig V)) ∧ Hid (Rw wq (w.heap.size + 1) 34 .u32 8 (dig U)) ∧ Hid (Rw wq (w.heap.size + 1 + 1 + 1) 80 .u64 17 g) ∧ Hid (E8z wq (w.heap.size + 1 + 1)) ∧ Hid (Below w.heap.size w wq)) (fun _ jj _ => 8 - (intOf jj).toNat)
      case atStart => exact ⟨0, 0, f, by omega, rfl, rfl, hst, ha, hb, hr, hz, hbe⟩
      case round =>
        clear ha hb hr hz hbe hst
        obtain ⟨j, c, g, hj, rfl, rfl, hmu, ha, hb, hr, hz, hbe⟩ := hrel
        have j0 : (0 : Int) ≤ (j : Int) := Int.natCast_nonneg _
        have cl := hmu.out.cl
        by_cases hj8 : j < 8
        · have hj8' : (j : Int) < 8 := by omega
          have q0 := hr.out.cell (j := i + j) (by omega)
          have qf := hr.out.frozen (j := i + j)
          have q1 := ha.out.cell (j := i) (by omega)
          have q2 := hb.out.cell (j := j) (by omega)
          have b0 := hmu.out.lt (i + j)
          have b1 := dig_lt V i
          have b2 := dig_lt U j
          have HST := Lib.hid (mu_step hmu.out b1 b2 hi8 hj8)
          obtain ⟨x, hx⟩ : ∃ x, x = dig V i := ⟨_, rfl⟩
          obtain ⟨y, hy⟩ : ∃ y, y = dig U j := ⟨_, rfl⟩
          obtain ⟨z, hz'⟩ : ∃ z, z = g (i + j) := ⟨_, rfl⟩
          rw [← hx, ← hy, ← hz'] at HST
          rw [← hx] at q1 b1
          rw [← hy] at q2 b2
          rw [← hz'] at q0 b0
          have HX := Lib.hid hx
          have hmb := mu_bound cl b0 b1 b2
          clear hx hy hz'
          obtain ⟨m, hm⟩ : ∃ m, m = c + z + x * y := ⟨_, rfl⟩
          rw [← hm] at HST hmb
          have e0 : Hid (IntKind.u64.wrap (IntKind.u64.wrap ((c : Int) + (z : Int)) + IntKind.u64.wrap (IntKind.u64.wrap (x : Int) * IntKind.u64.wrap (y : Int))) = (m : Int)) := Lib.hid (by
            have hxy : (x : Int) * (y : Int) = ((x * y : Nat) : Int) := (Int.natCast_mul x y).symm
            have : x * y ≤ 4294967295 * 4294967295 := Nat.mul_le_mul (by omega) (by omega)
            rw [wrapN x (by omega), wrapN y (by omega), hxy, wrapN (x * y) (by omega), ← Int.natCast_add, wrapN (c + z) (by omega), ← Int.natCast_add, ← hm, wrapN m hmb])
          have e1 : Hid ((m : Int) % 4294967296 = ((m % 4294967296 : Nat) : Int)) := Lib.hid (by omega)
          have e2 : Hid ((m : Int) / 4294967296 = ((m / 4294967296 : Nat) : Int)) := Lib.hid (by omega)
          clear hm
          have w1 : IntKind.i64.wrap ((i : Int) + (j : Int)) = (i : Int) + (j : Int) := by rw [IntKind.wrap_i64]; omega
          have m1 : (0 : Int) ≤ (i : Int) + (j : Int) := by omega
          have m2 : (i : Int) + (j : Int) < 17 := by omega
          have t1 : ((i : Int) + (j : Int)).toNat = i + j := by omega
          go_wp2_with fail
          go_region_held3 (fun w' => w'.cell? ⟨w.heap.size, i, none⟩ = some (.int .u32 (x : Int)) ∧ w'.cell? ⟨w.heap.size + 1, j, none⟩ = some (.int .u32 (y : Int)) ∧ w'.cell? ⟨w.heap.size + 1 + 1 + 1, i + j, none⟩ = some (.int .u64 (z : Int))) (go_simp) (fail)
          rw [e0.out]
          go_wp2_with fail
          rw [e1.out, e2.out]
          clear w1 m1 m2 t1
          go_roundw
          case rel =>
            exact ⟨j + 1, _, _, by omega, rfl, by go_num, by rw [← HX.out]; exact HST, Lib.hid (ha.out.far (by omega)), Lib.hid (hb.out.far (by omega)), Lib.hid (hr.out.set (i + j) _), Lib.hid (hz.out.one (by omega)).drew, Lib.hid ((hbe.out.setCell (by show _ ≤ _; simp only; omega) _).drew)⟩
          case measure => simp [intOf]; omega
        · obtain rfl : j = 8 := by omega
          have hro := mu_row hmu.out hi8
          have q0 := hr.out.cell (j := i + 8) (by omega)
          have qf := hr.out.frozen (j := i + 8)
          have HNX := Lib.hid (mu_next hf.out.2.2 hro.2.2)
          have HR1 := Lib.hid hro.1; have HR2 := Lib.hid hro.2.1
          clear hro
          rw [show ((8 : Nat) : Int) = 8 from rfl]
          go_wp2_with fail
          go_roundw
          case rel =>
            exact ⟨i + 1, upd g (i + 8) c, by omega, by go_num, Lib.hid ⟨HR1.out, HR2.out, HNX.out⟩, Lib.hid (ha.out.far (by omega)), Lib.hid (hb.out.far (by omega)), Lib.hid (hr.out.set (i + 8) c), Lib.hid (hz.out.one (by omega)), Lib.hid (hbe.out.setCell (by show _ ≤ _; simp only; omega) _)⟩
          case measure => simp [intOf]; omega
    · obtain rfl : i = 8 := by omega
      obtain ⟨vs, hvs⟩ : ∃ vs, vs = rowF .u64 17 f := ⟨_, rfl⟩
      have hrow2 : Hid (wr.heap[w.heap.size + 1 + 1 + 1]? = some (.cells vs 80 (0, 0))) := by rw [hvs]; exact hr
      have hi2 : Hid ((Try.prog.info? 80).map (·.size) = some vs.size) := Lib.hid (by rw [hvs]; exact hi17)
      have CF := Lib.hid (fun W => foldedE hvs hf.out.1 W)
      have hval : valD f 17 = V * U := by rw [hf.out.2.2, nv_val HV.out, nv_val HU.out]
      rw [hval, ← HN.out] at CF
      have hs2 := hr.out.lt
      clear hvs hval
      rw [show ((8 : Nat) : Int) = 8 from rfl]
      go_wp2_with (with_reducible refine wpList_load_row rfl 80 (.tmp 5) rfl (w.heap.size + 1 + 1 + 1) rfl 80 vs (0, 0) _ hrow2.out Try.underlying80 rfl hi2.out ?_)
      with_reducible refine (CF.out _).mono ?_
      rintro e w3 ⟨rfl, hb3⟩
      have B3 := Lib.hid hb3
      obtain ⟨hc3, hf3⟩ := bcell hb3
      have zz3 := hb3.size
      try simp only [World.size_alloc] at zz3
      have z3_0 : w.heap.size + 1 + 1 < w3.heap.size := by omega
      have z3_1 : w.heap.size + 1 < w3.heap.size := by omega
      have z3_2 : w.heap.size < w3.heap.size := by omega
      clear hb3 zz3
      obtain ⟨d0, d1, d2, d3, d4, d5, d6, d7, k0, k1, k2, k3, k4, k5, k6, k7⟩ := hz.out.below B3.out (by omega)
      clear hc3 hf3
      go_wp2_with fail
      refine bodyPost_ret (v := .agg #[.int .u32 (dig (N) 0 : Int), .int .u32 (dig (N) 1 : Int), .int .u32 (dig (N) 2 : Int), .int .u32 (dig (N) 3 : Int), .int .u32 (dig (N) 4 : Int), .int .u32 (dig (N) 5 : Int), .int .u32 (dig (N) 6 : Int), .int .u32 (dig (N) 7 : Int)]) (by simp [results, Try.results15, go_sem, *]) rfl ⟨rfl, ?_⟩
      exact set8_below (hbe.out.trans (B3.out.mono (by omega))) (g := w.heap.size + 1 + 1) (by omega) N
end Go.Proofs.Ytgkglielcbgpiaa
