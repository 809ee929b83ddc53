/- The reference's Add. -/
import Derived.Test.YtgkglielcbgpiaaR6
namespace Go.Proofs.Ytgkglielcbgpiaa
open Go.RowKit

/-- the sum's digits after k rounds, with the carry -/
structure AdI (a b g : Nat → Nat) (k c : Nat) : Prop where
  lt : ∀ i, g i < 4294967296
  z : ∀ i, k ≤ i → g i = 0
  cl : c ≤ 1
  e : valD g k + 4294967296 ^ k * c = valD a k + valD b k
theorem ad_step {a b g : Nat → Nat} {k c : Nat} (h : AdI a b g k c) (ha : a k < 4294967296) (hb : b k < 4294967296) :
    AdI a b (upd g k ((c + a k + b k) % 4294967296)) (k + 1) ((c + a k + b k) / 4294967296) := by
  have hc := h.cl
  refine ⟨upd_lt h.lt (Nat.mod_lt _ (by decide)), fun i hi => ?_, by omega, ?_⟩
  · unfold upd
    rw [if_neg (by omega)]
    exact h.z i (by omega)
  · have e := h.e
    rw [valD_upd1, valD, valD, Nat.pow_succ]
    have e2 : 4294967296 ^ k * ((c + a k + b k) % 4294967296) + 4294967296 ^ k * 4294967296 * ((c + a k + b k) / 4294967296) = 4294967296 ^ k * c + 4294967296 ^ k * a k + 4294967296 ^ k * b k := by
      rw [Nat.mul_assoc, ← Nat.mul_add, Nat.mod_add_div, Nat.mul_add, Nat.mul_add]
    omega
theorem ad_end {V U : Nat} (hV : V < W4) (hU : U < W4) {g : Nat → Nat} {c : Nat} (h : AdI (dig V) (dig U) g 8 c) : (∀ i, upd g 8 c i < 4294967296) ∧ valD (upd g 8 c) 17 = V + U := by
  have hc := h.cl
  refine ⟨upd_lt h.lt (by omega), ?_⟩
  rw [show 17 = 9 + 8 from rfl, valD_add _ 9 8, valD_zero (f := fun i => upd g 8 c (i + 9)) (fun i _ => by unfold upd; rw [if_neg (by omega)]; exact h.z _ (by omega)), Nat.mul_zero, Nat.add_zero]
  show valD (upd g 8 c) (8 + 1) = _
  rw [valD_upd1, h.e, nv_val hV, nv_val hU]

theorem E8z.drew {w : World} {g : Nat} (e : E8z w g) : E8z w.drew g := ⟨e.c0, e.c1, e.c2, e.c3, e.c4, e.c5, e.c6, e.c7, e.f0, e.f1, e.f2, e.f3, e.f4, e.f5, e.f6, e.f7⟩

set_option maxRecDepth 100000 in
set_option maxHeartbeats 4000000 in
theorem raddE {V U : Nat} (hV : V < W4) (hU : U < W4) (w : World) : Calls Try.prog 62 #[.agg #[.int .u32 (dig (V) 0 : Int), .int .u32 (dig (V) 1 : Int), .int .u32 (dig (V) 2 : Int), .int .u32 (dig (V) 3 : Int), .int .u32 (dig (V) 4 : Int), .int .u32 (dig (V) 5 : Int), .int .u32 (dig (V) 6 : Int), .int .u32 (dig (V) 7 : Int)], .agg #[.int .u32 (dig (U) 0 : Int), .int .u32 (dig (U) 1 : Int), .int .u32 (dig (U) 2 : Int), .int .u32 (dig (U) 3 : Int), .int .u32 (dig (U) 4 : Int), .int .u32 (dig (U) 5 : Int), .int .u32 (dig (U) 6 : Int), .int .u32 (dig (U) 7 : Int)]] w fun e w' => e = .returned (.agg #[.int .u32 (dig ((V + U) % PP) 0 : Int), .int .u32 (dig ((V + U) % PP) 1 : Int), .int .u32 (dig ((V + U) % PP) 2 : Int), .int .u32 (dig ((V + U) % PP) 3 : Int), .int .u32 (dig ((V + U) % PP) 4 : Int), .int .u32 (dig ((V + U) % PP) 5 : Int), .int .u32 (dig ((V + U) % PP) 6 : Int), .int .u32 (dig ((V + U) % PP) 7 : Int)]) ∧ Below w.heap.size w w' := by
  obtain ⟨N, hN⟩ : ∃ N, N = (V + U) % PP := ⟨_, rfl⟩
  rw [← hN]
  obtain ⟨cs, hcs⟩ : ∃ cs, cs = nvA V := ⟨_, rfl⟩
  obtain ⟨ds, hds⟩ : ∃ ds, ds = nvA U := ⟨_, rfl⟩
  rw [← nvL V, ← nvL U, ← hcs, ← hds]
  obtain ⟨Wa, hWa⟩ : ∃ Wa, Wa = (((w.alloc (.cells cs 34)).alloc (.cells ds 34)).alloc (.cells #[.int .u32 0, .int .u32 0, .int .u32 0, .int .u32 0, .int .u32 0, .int .u32 0, .int .u32 0, .int .u32 0] 34)).alloc (.cells #[.int .u64 0, .int .u64 0, .int .u64 0, .int .u64 0, .int .u64 0, .int .u64 0, .int .u64 0, .int .u64 0, .int .u64 0, .int .u64 0, .int .u64 0, .int .u64 0, .int .u64 0, .int .u64 0, .int .u64 0, .int .u64 0, .int .u64 0] 80) := ⟨_, rfl⟩
  have hA : Rw Wa w.heap.size 34 .u32 8 (dig V) := by
    rw [hWa]
    exact (((Rw.new w _ _ _ _ hcs).alloc _).alloc _).alloc _
  have hB : Rw Wa (w.heap.size + 1) 34 .u32 8 (dig U) := by
    rw [hWa]
    have h := ((Rw.new (w.alloc (.cells cs 34)) 34 .u32 8 (dig U) hds).alloc (.cells #[.int .u32 0, .int .u32 0, .int .u32 0, .int .u32 0, .int .u32 0, .int .u32 0, .int .u32 0, .int .u32 0] 34)).alloc (.cells #[.int .u64 0, .int .u64 0, .int .u64 0, .int .u64 0, .int .u64 0, .int .u64 0, .int .u64 0, .int .u64 0, .int .u64 0, .int .u64 0, .int .u64 0, .int .u64 0, .int .u64 0, .int .u64 0, .int .u64 0, .int .u64 0, .int .u64 0] 80)
    simpa using h
  have hZ : E8z Wa (w.heap.size + 1 + 1) := by
    rw [hWa]
    have h := (E8z.new ((w.alloc (.cells cs 34)).alloc (.cells ds 34))).below ((Below.refl _ _).alloc (Nat.le_refl _) (.cells #[.int .u64 0, .int .u64 0, .int .u64 0, .int .u64 0, .int .u64 0, .int .u64 0, .int .u64 0, .int .u64 0, .int .u64 0, .int .u64 0, .int .u64 0, .int .u64 0, .int .u64 0, .int .u64 0, .int .u64 0, .int .u64 0, .int .u64 0] 80)) (by simp)
    simpa using h
  have hR : Rw Wa (w.heap.size + 1 + 1 + 1) 80 .u64 17 (fun _ => 0) := by
    rw [hWa]
    have h := Rw.new (((w.alloc (.cells cs 34)).alloc (.cells ds 34)).alloc (.cells #[.int .u32 0, .int .u32 0, .int .u32 0, .int .u32 0, .int .u32 0, .int .u32 0, .int .u32 0, .int .u32 0] 34)) 80 .u64 17 (fun _ => 0) (cs := #[.int .u64 0, .int .u64 0, .int .u64 0, .int .u64 0, .int .u64 0, .int .u64 0, .int .u64 0, .int .u64 0, .int .u64 0, .int .u64 0, .int .u64 0, .int .u64 0, .int .u64 0, .int .u64 0, .int .u64 0, .int .u64 0, .int .u64 0]) rfl
    simpa using h
  have hBe : Below w.heap.size w Wa := by
    rw [hWa]
    exact ((((Below.refl _ _).alloc (Nat.le_refl _) _).alloc (by simp) _).alloc (by simp; omega) _).alloc (by simp; omega) _
  have HA := Lib.hid hA; have HB := Lib.hid hB; have HR := Lib.hid hR; have HZ := Lib.hid hZ; have HBe := Lib.hid hBe; have HWa := Lib.hid hWa; have HN := Lib.hid hN
  have HV := Lib.hid hV; have HU := Lib.hid hU
  clear hA hB hR hZ hBe hWa hcs hds hN hV hU
  go_enter Try.func62, Try.ntmps62
  go_wp2_with fail
  rw [← HWa.out]
  go_loopw [6, 7] (fun c i wq => ∃ k c' : Nat, ∃ g : Nat → Nat, k ≤ 8 ∧ c = .int .u64 c' ∧ i = .int .i64 k ∧ Hid (AdI (dig V) (dig U) g k c') ∧ Hid (Rw wq w.heap.size 34 .u32 8 (dig V)) ∧ Hid (Rw wq (w.heap.size + 1) 34 .u32 8 (dig U)) ∧ Hid (Rw wq (w.heap.size + 1 + 1 + 1) 80 .u64 17 g) ∧ Hid (E8z wq (w.heap.size + 1 + 1)) ∧ Hid (Below w.heap.size w wq)) (fun _ i _ => 8 - (intOf i).toNat)
  case atStart => exact ⟨0, 0, fun _ => 0, by omega, rfl, rfl, Lib.hid ⟨fun _ => by show 0 < _; omega, fun _ _ => rfl, by omega, by simp [valD]⟩, HA, HB, HR, HZ, HBe⟩
  case round =>
    clear HA HB HR HZ HBe
    obtain ⟨k, c, g, hk, rfl, rfl, had, ha, hb, hr, hz, hbe⟩ := hrel
    have k0 : (0 : Int) ≤ (k : Int) := Int.natCast_nonneg _
    have cl := had.out.cl
    by_cases h8 : k < 8
    · have q0 := hr.out.cell (j := k) (by omega)
      have qf := hr.out.frozen (j := k)
      have q1 := ha.out.cell (j := k) (by omega)
      have q2 := hb.out.cell (j := k) (by omega)
      have b1 := dig_lt V k
      have b2 := dig_lt U k
      have HST := Lib.hid (ad_step had.out b1 b2)
      obtain ⟨x, hx⟩ : ∃ x, x = dig V k := ⟨_, rfl⟩
      obtain ⟨y, hy⟩ : ∃ y, y = dig U k := ⟨_, rfl⟩
      rw [← hx] at q1 b1 HST
      rw [← hy] at q2 b2 HST
      clear hx hy
      have k8 : (k : Int) < 8 := by omega
      obtain ⟨m, hm⟩ : ∃ m, m = c + x + y := ⟨_, rfl⟩
      rw [← hm] at HST
      have e0 : Hid (IntKind.u64.wrap (IntKind.u64.wrap ((c : Int) + IntKind.u64.wrap (x : Int)) + IntKind.u64.wrap (y : Int)) = (m : Int)) := Lib.hid (by
        rw [IntKind.wrap_u64, IntKind.wrap_u64, IntKind.wrap_u64, IntKind.wrap_u64]
        omega)
      have e1 : Hid ((m : Int) % 4294967296 = ((m % 4294967296 : Nat) : Int)) := Lib.hid (by omega)
      have e2 : Hid ((m : Int) / 4294967296 = ((m / 4294967296 : Nat) : Int)) := Lib.hid (by omega)
      have mb : m < 18446744073709551616 := by omega
      clear hm
      go_wp2_with fail
      go_region_held3 (fun w' => w'.cell? ⟨w.heap.size, k, none⟩ = some (.int .u32 (x : Int)) ∧ w'.cell? ⟨w.heap.size + 1, k, none⟩ = some (.int .u32 (y : Int))) (go_simp) (fail)
      rw [e0.out]
      go_wp2_with fail
      rw [e1.out, e2.out]
      go_roundw
      case rel =>
        exact ⟨k + 1, _, _, by omega, rfl, by go_num, HST, Lib.hid (ha.out.far (by omega)), Lib.hid (hb.out.far (by omega)), Lib.hid (hr.out.set k _), Lib.hid (hz.out.one (by omega)).drew, Lib.hid ((hbe.out.setCell (by show _ ≤ _; simp only; omega) _).drew)⟩
      case measure => simp [intOf]; omega
    · obtain rfl : k = 8 := by omega
      have hen := ad_end HV.out HU.out had.out
      have q0 := hr.out.cell (j := 8) (by omega)
      have qf := hr.out.frozen (j := 8)
      obtain ⟨vs, hvs⟩ : ∃ vs, vs = rowF .u64 17 (upd g 8 c) := ⟨_, rfl⟩
      have hrow2 : Hid ((wr.setCell ⟨w.heap.size + 1 + 1 + 1, 8, none⟩ (.int .u64 (c : Int))).heap[w.heap.size + 1 + 1 + 1]? = some (.cells vs 80 (0, 0))) := by rw [hvs]; exact Lib.hid (hr.out.set 8 c)
      have hi2 : Hid ((Try.prog.info? 80).map (·.size) = some vs.size) := Lib.hid (by rw [hvs]; exact hi17)
      have CF := Lib.hid (fun W => foldedE hvs hen.1 W)
      rw [hen.2, ← HN.out] at CF
      have hz2 := hz.out.one (g := w.heap.size + 1 + 1 + 1) (k := 8) (v := .int .u64 (c : Int)) (by omega)
      have hb2 : Below w.heap.size w (wr.setCell ⟨w.heap.size + 1 + 1 + 1, 8, none⟩ (.int .u64 (c : Int))) := hbe.out.setCell (by show _ ≤ _; simp only; omega) _
      have hs2 : w.heap.size + 1 + 1 + 1 < (wr.setCell ⟨w.heap.size + 1 + 1 + 1, 8, none⟩ (.int .u64 (c : Int))).heap.size := (hr.out.set 8 c).lt
      obtain ⟨wz, hwz⟩ : ∃ wz, wz = wr.setCell ⟨w.heap.size + 1 + 1 + 1, 8, none⟩ (.int .u64 (c : Int)) := ⟨_, rfl⟩
      rw [← hwz] at hrow2 hz2 hb2 hs2
      have HWZ := Lib.hid hwz; have HB2 := Lib.hid hb2
      clear hwz hen hvs hb2
      rw [show ((8 : Nat) : Int) = 8 from rfl]
      go_wp2_with ((with_reducible refine wpList_load_row rfl 80 (.tmp 5) rfl (w.heap.size + 1 + 1 + 1) rfl 80 vs (0, 0) _ (by rw [← HWZ.out]; exact hrow2.out) Try.underlying80 rfl hi2.out ?_); rw [← HWZ.out])
      with_reducible refine (CF.out _).mono ?_
      rintro e w3 ⟨rfl, hb3⟩
      have B3 := Lib.hid hb3
      obtain ⟨hc3, hf3⟩ := bcell hb3
      have zz3 := hb3.size
      try simp only [World.size_alloc] at zz3
      have z3_0 : w.heap.size + 1 + 1 < w3.heap.size := by omega
      have z3_1 : w.heap.size + 1 < w3.heap.size := by omega
      have z3_2 : w.heap.size < w3.heap.size := by omega
      clear hb3 zz3
      obtain ⟨d0, d1, d2, d3, d4, d5, d6, d7, k0, k1, k2, k3, k4, k5, k6, k7⟩ := hz2.below B3.out (by omega)
      clear hc3 hf3
      go_wp2_with fail
      refine bodyPost_ret (v := .agg #[.int .u32 (dig (N) 0 : Int), .int .u32 (dig (N) 1 : Int), .int .u32 (dig (N) 2 : Int), .int .u32 (dig (N) 3 : Int), .int .u32 (dig (N) 4 : Int), .int .u32 (dig (N) 5 : Int), .int .u32 (dig (N) 6 : Int), .int .u32 (dig (N) 7 : Int)]) (by simp [results, Try.results62, go_sem, *]) rfl ⟨rfl, ?_⟩
      exact set8_below (HB2.out.trans (B3.out.mono (by omega))) (g := w.heap.size + 1 + 1) (by omega) N
end Go.Proofs.Ytgkglielcbgpiaa
