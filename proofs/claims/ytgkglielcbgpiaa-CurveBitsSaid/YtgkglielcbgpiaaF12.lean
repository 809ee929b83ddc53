/- field's Product. -/
import Derived.Test.YtgkglielcbgpiaaF11
import Derived.Test.YtgkglielcbgpiaaF8
namespace Go.Proofs.Ytgkglielcbgpiaa
open Go.RowKit

theorem elElem : Try.prog.elem 86 = 26 := by kernel_rfl
theorem elSlice : Try.prog.underlying 86 = some (.slice (Try.prog.elem 86)) := by rw [elElem]; exact Try.underlying86
theorem elSizeOf (W : World) : (sizeOf 26).run Try.prog W = .ok 4 W := by kernel_rfl
/-- v[1:] of elements -/
theorem cutE_1 {A : Option Addr} {n c : Nat} (hl : 1 ≤ n) (hn : n ≤ c) : ∃ D, (1 < n → D = A.map (·.add 4)) ∧
    ∀ W, (Instr.slice 86 (.slice A n c) (some (.int .i64 1)) none none).run Try.prog W = .ok (.slice D (n - 1) (c - 1)) W := by
  refine ⟨if c = 1 then A else A.map (·.add (1 * 4)), fun h => by rw [if_neg (by omega)], fun W => ?_⟩
  rw [run_slice_l _ _ _ _ _ elSlice _ _ (by omega) (by omega), elElem, elSizeOf]
  simp [Result.andThen, sliced]

/-- what Product holds before it is brought below the prime -/
def tmL (s : Nat) (xs : List Nat) : Nat := xs.foldl (fun s x => tmN (s * x)) s
theorem tmL_snoc (s : Nat) (xs : List Nat) (x : Nat) : tmL s (xs ++ [x]) = tmN (tmL s xs * x) := by simp [tmL]
theorem tmL_lt {s : Nat} (hs : s < W4) : ∀ {xs : List Nat}, (∀ x ∈ xs, x < W4) → tmL s xs < W4 := by
  intro xs
  induction xs generalizing s with
  | nil => exact fun _ => hs
  | cons x xs ih => exact fun h => ih (tmN_lt hs (h x (by simp))) (fun y hy => h y (by simp [hy]))
theorem tmL_mod {s t : Nat} (h : s % PP = t % PP) : ∀ xs : List Nat, tmL s xs % PP = xs.foldl mulP (t % PP) := by
  intro xs
  induction xs generalizing s t with
  | nil => exact h
  | cons x xs ih =>
    have e : tmN (s * x) % PP = (t % PP * x) % PP := by rw [tmN_mod, Nat.mul_mod, h, ← Nat.mul_mod, Nat.mod_mul_mod]
    have h2 := ih e
    show tmL (tmN (s * x)) xs % PP = xs.foldl mulP (mulP (t % PP) x)
    rw [h2]
    rfl
theorem prod_of (x : Nat) (xs : List Nat) : tmL x xs % PP = prodP (x :: xs) := by
  rw [tmL_mod rfl]
  show _ = xs.foldl mulP (mulP (1 % PP) x)
  have e : mulP (1 % PP) x = x % PP := by unfold mulP; rw [Nat.mod_mul_mod, Nat.one_mul]
  rw [e]

set_option maxRecDepth 100000 in
set_option maxHeartbeats 4000000 in
theorem prod_nil (v : Value) {w : World} (he : Es w w.heap.size v []) : Calls Try.prog 22 #[v] w fun e w' => e = .returned (.agg #[.int .u64 (l0 (prodP []) : Int), .int .u64 (l1 (prodP []) : Int), .int .u64 (l2 (prodP []) : Int), .int .u64 (l3 (prodP []) : Int)]) ∧ Below w.heap.size w w' := by
  obtain ⟨A, c, rfl, hlen, hcm, hcs⟩ := he
  have C1 := Lib.hid (fun W => of1 W)
  rw [show prodP [] = 1 from by decide]
  clear hlen hcm hcs
  go_enter Try.func22, Try.ntmps22
  go_wp2_with fail
  with_reducible refine (C1.out _).mono ?_
  rintro e w1 ⟨rfl, hb1⟩
  have B1 := Lib.hid hb1
  obtain ⟨hc1, hf1⟩ := bcell hb1
  have zz1 := hb1.size
  try simp only [World.size_alloc] at zz1
  have z1_0 : w.heap.size < w1.heap.size := by omega
  clear hb1 zz1
  go_wp2_with fail
  refine bodyPost_ret (v := .agg #[.int .u64 (l0 (1) : Int), .int .u64 (l1 (1) : Int), .int .u64 (l2 (1) : Int), .int .u64 (l3 (1) : Int)]) (by simp [results, Try.results22, go_sem, *]) rfl ⟨rfl, ?_⟩
  have b1 := B1.out
  simp only [World.size_alloc] at b1
  exact set4_below (((Below.refl w.heap.size w).alloc (Nat.le_refl _) _).trans (b1.mono (by omega))) (g := w.heap.size) (by omega) _ _ _ _

theorem es_cons {w : World} {b off x0 : Nat} {xs : List Nat} (hcell : ∀ j (h : j < (x0 :: xs).length), (x0 :: xs)[j] < W4 ∧ ∀ i, i < 4 → w.cell? ⟨b, off + j * 4 + i, none⟩ = some (.int .u64 (limb (x0 :: xs)[j] i : Int))) :
    x0 < W4 ∧ w.cell? ⟨b, off, none⟩ = some (.int .u64 (l0 x0 : Int)) ∧ w.cell? ⟨b, off + 1, none⟩ = some (.int .u64 (l1 x0 : Int)) ∧ w.cell? ⟨b, off + 2, none⟩ = some (.int .u64 (l2 x0 : Int)) ∧ w.cell? ⟨b, off + 3, none⟩ = some (.int .u64 (l3 x0 : Int)) ∧
    (∀ j (h : j < xs.length), xs[j] < W4 ∧ ∀ i, i < 4 → w.cell? ⟨b, off + 4 + j * 4 + i, none⟩ = some (.int .u64 (limb xs[j] i : Int))) ∧ ∀ x ∈ xs, x < W4 := by
  obtain ⟨h0, h1⟩ := hcell 0 (by simp)
  rw [Nat.zero_mul, Nat.add_zero] at h1
  obtain ⟨q0, q1, q2, q3⟩ := limbs_of x0
  have hr : ∀ j (h : j < xs.length), xs[j] < W4 ∧ ∀ i, i < 4 → w.cell? ⟨b, off + 4 + j * 4 + i, none⟩ = some (.int .u64 (limb xs[j] i : Int)) := fun j h => by
    obtain ⟨k0, k1⟩ := hcell (j + 1) (by simp; omega)
    refine ⟨k0, fun i hi => ?_⟩
    have := k1 i hi
    rw [show off + 4 + j * 4 + i = off + (j + 1) * 4 + i by omega]
    exact this
  refine ⟨h0, by rw [← q0]; exact h1 0 (by omega), by rw [← q1]; exact h1 1 (by omega), by rw [← q2]; exact h1 2 (by omega), by rw [← q3]; exact h1 3 (by omega), hr, fun x hx => ?_⟩
  obtain ⟨j, hj, rfl⟩ := List.mem_iff_getElem.1 hx
  exact (hr j hj).1

set_option maxRecDepth 100000 in
set_option maxHeartbeats 4000000 in
theorem prod_cons {x0 : Nat} {xs : List Nat} {v : Value} {w : World} (he : Es w w.heap.size v (x0 :: xs)) : Calls Try.prog 22 #[v] w fun e w' => e = .returned (.agg #[.int .u64 (l0 (prodP (x0 :: xs)) : Int), .int .u64 (l1 (prodP (x0 :: xs)) : Int), .int .u64 (l2 (prodP (x0 :: xs)) : Int), .int .u64 (l3 (prodP (x0 :: xs)) : Int)]) ∧ Below w.heap.size w w' := by
  obtain ⟨A, c, rfl, hlen, hcm, hcs⟩ := he
  unfold maxLen at hcm
  obtain ⟨b, off, rfl, hb, hcell⟩ := hcs (by simp)
  obtain ⟨hx0, e0, e1, e2, e3, hcell, hall⟩ := es_cons hcell
  obtain ⟨n, hn⟩ : ∃ n, n = xs.length := ⟨_, rfl⟩
  have hln : (x0 :: xs).length = n + 1 := by simp [hn]
  rw [hln] at hlen ⊢
  obtain ⟨D, hD, hcut⟩ := cutE_1 (A := some ⟨b, off, none⟩) (n := n + 1) (c := c) (by omega) hlen
  rw [show n + 1 - 1 = n from rfl] at hcut
  have hD2 : 0 < n → D = some ⟨b, off + 4, none⟩ := fun h => by rw [hD (by omega)]; rfl
  have C2 := Lib.hid (fun s => fun (h : s < W4) x => fun (h' : x < W4) W => timesE h h' W)
  have C3 := Lib.hid (fun s => fun (h : s < W4) W => normE h W)
  have hds : D = none → n = 0 := fun h => by
    by_cases hp : 0 < n
    · rw [hD2 hp] at h; cases h
    · omega
  obtain ⟨rr, hrr⟩ : ∃ rr, rr = prodP (x0 :: xs) := ⟨_, rfl⟩
  rw [← hrr]
  have HRR := Lib.hid hrr
  have HCE := Lib.hid hcell; have HAL := Lib.hid hall; have HX0 := Lib.hid hx0; have HN := Lib.hid hn; have HD2 := Lib.hid hD2
  have hdz : ((n : Int) + 1 == 0) = false := by simp only [beq_eq_false_iff_ne, ne_eq]; omega
  clear hD hcell hall hx0 hcs hln hD2 hrr hn hds
  go_enter Try.func22, Try.ntmps22
  go_wp2_with fail
  go_loopw [16] (fun i wr => ∃ k : Nat, k ≤ n ∧ i = .int .i64 k ∧ Hid (Below w.heap.size w wr) ∧ Hid (Ez wr w.heap.size) ∧ Hid (Ec wr (w.heap.size + 1) (tmL x0 (xs.take k)))) (fun i _ => n - (intOf i).toNat)
  case atStart =>
    refine ⟨0, Nat.zero_le _, rfl, Lib.hid (((Below.refl _ _).alloc (Nat.le_refl _) _).alloc (by simp) _), Lib.hid ?_, Lib.hid ?_⟩
    · constructor <;> simp [go_sem]
    · constructor <;> simp [go_sem] <;> rfl
  case round =>
    obtain ⟨k, hk, rfl, hbe, hez, hec⟩ := hrel
    have y0 : w.heap.size + 1 < wr.heap.size := World.block_lt_of_cell? wr ⟨w.heap.size + 1, 0, none⟩ hec.out.c0
    have y1 : w.heap.size < wr.heap.size := by omega
    clear e0 e1 e2 e3
    by_cases hlt : k < n
    · obtain rfl := HD2.out (by omega)
      have hkx : k < xs.length := by rw [← HN.out]; exact hlt
      obtain ⟨hx4, hcell⟩ := HCE.out k hkx
      have hl := limbs_of xs[k]
      have e0 : wr.cell? ⟨b, off + 4 + k * 4, none⟩ = some (.int .u64 (l0 xs[k] : Int)) := (hbe.out.cell (p := ⟨b, off + 4 + k * 4, none⟩) hb).trans (by rw [← hl.1]; exact hcell 0 (by omega))
      have e1 : wr.cell? ⟨b, off + 4 + k * 4 + 1, none⟩ = some (.int .u64 (l1 xs[k] : Int)) := (hbe.out.cell (p := ⟨b, off + 4 + k * 4 + 1, none⟩) hb).trans (by rw [← hl.2.1]; exact hcell 1 (by omega))
      have e2 : wr.cell? ⟨b, off + 4 + k * 4 + 2, none⟩ = some (.int .u64 (l2 xs[k] : Int)) := (hbe.out.cell (p := ⟨b, off + 4 + k * 4 + 2, none⟩) hb).trans (by rw [← hl.2.2.1]; exact hcell 2 (by omega))
      have e3 : wr.cell? ⟨b, off + 4 + k * 4 + 3, none⟩ = some (.int .u64 (l3 xs[k] : Int)) := (hbe.out.cell (p := ⟨b, off + 4 + k * 4 + 3, none⟩) hb).trans (by rw [← hl.2.2.2]; exact hcell 3 (by omega))
      obtain ⟨x, hx⟩ : ∃ x, x = xs[k] := ⟨_, rfl⟩
      obtain ⟨s, hs⟩ : ∃ s, s = tmL x0 (xs.take k) := ⟨_, rfl⟩
      have hsl : Hid (s < W4) := Lib.hid (by rw [hs]; exact tmL_lt HX0.out fun x hx => HAL.out x (List.mem_of_mem_take hx))
      have HX4 := Lib.hid hx4
      rw [← hx] at e0 e1 e2 e3 HX4
      rw [← hs] at hec
      have HS := Lib.hid hs; have HX := Lib.hid hx
      obtain ⟨c0, c1, c2, c3, f0, f1, f2, f3⟩ := hec.out
      have k0 : (0 : Int) ≤ (k : Int) := Int.natCast_nonneg _
      have kn : (k : Int) < (n : Int) := by omega
      clear hcell hl hs hx hx4
      go_wp2_with fail
      with_reducible refine (C2.out s hsl.out x HX4.out _).mono ?_
      rintro e w1 ⟨rfl, hb1⟩
      have B1 := Lib.hid hb1
      obtain ⟨hc1, hf1⟩ := bcell hb1
      have zz1 := hb1.size
      try simp only [World.size_alloc] at zz1
      have z1_0 : w.heap.size + 1 < w1.heap.size := by omega
      have z1_1 : w.heap.size < w1.heap.size := by omega
      clear hb1 zz1
      go_wp2_with fail
      go_roundw
      case rel =>
        have hst : tmL x0 (xs.take (k + 1)) = tmN (s * x) := by
          rw [List.take_succ_eq_append_getElem hkx, tmL_snoc, HS.out, HX.out]
        refine ⟨k + 1, by omega, by go_num, Lib.hid ?_, Lib.hid ?_, Lib.hid ?_⟩
        · have b1 := B1.out
          simp only [World.size_alloc] at b1
          exact set4_below ((hbe.out.alloc (by omega) _).trans (b1.mono (by omega))) (by omega) _ _ _ _
        · obtain ⟨d0, d1, d2, d3, g0, g1, g2, g3⟩ := hez.out
          constructor <;> go_simp
        · rw [hst]
          constructor <;> go_simp
      case measure => simp [intOf]; omega
    · obtain rfl : k = n := by omega
      have hsl := Lib.hid (tmL_lt HX0.out (fun x hx => HAL.out x (List.mem_of_mem_take (i := k) hx)))
      have C4 := Lib.hid (fun W => C3.out _ hsl.out W)
      have hee : tmL x0 (xs.take k) % PP = rr := by rw [HN.out, List.take_length, prod_of, HRR.out]
      rw [hee] at C4
      obtain ⟨s, hs⟩ : ∃ s, s = tmL x0 (xs.take k) := ⟨_, rfl⟩
      rw [← hs] at C4 hec
      clear hee hs hsl C3
      obtain ⟨c0, c1, c2, c3, f0, f1, f2, f3⟩ := hec.out
      obtain ⟨d0, d1, d2, d3, g0, g1, g2, g3⟩ := hez.out
      go_wp2_with fail
      with_reducible refine (C4.out _).mono ?_
      rintro e w1 ⟨rfl, hb1⟩
      have B1 := Lib.hid hb1
      obtain ⟨hc1, hf1⟩ := bcell hb1
      have zz1 := hb1.size
      try simp only [World.size_alloc] at zz1
      have z1_0 : w.heap.size + 1 < w1.heap.size := by omega
      have z1_1 : w.heap.size < w1.heap.size := by omega
      clear hb1 zz1
      go_wp2_with fail
      refine bodyPost_ret (v := .agg #[.int .u64 (l0 (rr) : Int), .int .u64 (l1 (rr) : Int), .int .u64 (l2 (rr) : Int), .int .u64 (l3 (rr) : Int)]) (by simp [results, Try.results22, go_sem, *]) rfl ⟨rfl, ?_⟩
      exact set4_below (hbe.out.trans (B1.out.mono (by omega))) (g := w.heap.size) (by omega) _ _ _ _

theorem prodE {xs : List Nat} {v : Value} {w : World} (he : Es w w.heap.size v xs) : Calls Try.prog 22 #[v] w fun e w' => e = .returned (.agg #[.int .u64 (l0 (prodP xs) : Int), .int .u64 (l1 (prodP xs) : Int), .int .u64 (l2 (prodP xs) : Int), .int .u64 (l3 (prodP xs) : Int)]) ∧ Below w.heap.size w w' := by
  cases xs with
  | nil => exact prod_nil v he
  | cons x xs => exact prod_cons he
end Go.Proofs.Ytgkglielcbgpiaa
