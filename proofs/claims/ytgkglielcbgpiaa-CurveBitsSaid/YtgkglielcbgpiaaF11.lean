/- field's Sum and Product. -/
import Derived.Test.YtgkglielcbgpiaaF10
namespace Go.Proofs.Ytgkglielcbgpiaa
open Go.RowKit

/-- v is a slice of elements with the numbers xs -/
def Es (w : World) (B : Nat) (v : Value) (xs : List Nat) : Prop :=
  ∃ A c, v = .slice A xs.length c ∧ xs.length ≤ c ∧ c ≤ maxLen ∧
    (0 < xs.length → ∃ b off, A = some ⟨b, off, none⟩ ∧ b < B ∧ ∀ j (h : j < xs.length), xs[j] < W4 ∧ ∀ i, i < 4 → w.cell? ⟨b, off + j * 4 + i, none⟩ = some (.int .u64 (limb xs[j] i : Int)))
theorem Es.below {w w' : World} {B B' : Nat} {v : Value} {xs : List Nat} (h : Es w B v xs) (hb : Below B' w w') (hB : B ≤ B') : Es w' B v xs := by
  obtain ⟨A, c, rfl, h1, h2, h3⟩ := h
  refine ⟨A, c, rfl, h1, h2, fun hp => ?_⟩
  obtain ⟨b, off, rfl, hlt, hc⟩ := h3 hp
  exact ⟨b, off, rfl, hlt, fun j hj => ⟨(hc j hj).1, fun i hi => (hb.cell (p := ⟨b, off + j * 4 + i, none⟩) (by show b < B'; omega)).trans ((hc j hj).2 i hi)⟩⟩
def addP (s x : Nat) : Nat := (s + x) % PP
def mulP (s x : Nat) : Nat := (s * x) % PP
def sumP (xs : List Nat) : Nat := xs.foldl addP 0
def prodP (xs : List Nat) : Nat := xs.foldl mulP (1 % PP)
theorem sumP_lt (xs : List Nat) : sumP xs < PP := by
  unfold sumP
  rw [← List.foldr_reverse]
  cases xs.reverse with
  | nil => exact (by decide : 0 < PP)
  | cons x xs => exact Nat.mod_lt _ (by decide)
theorem sumP_snoc (xs : List Nat) (x : Nat) : sumP (xs ++ [x]) = addP (sumP xs) x := by simp [sumP]
theorem sum_step {s x : Nat} (hs : s < PP) : (s + x % PP) % W4 % PP = addP s x := by
  have h1 : x % PP < PP := Nat.mod_lt _ (by decide)
  have h2 : s + x % PP < W4 := by have : PP + PP < W4 := by decide
                                  omega
  rw [Nat.mod_eq_of_lt h2, addP, Nat.add_mod_mod]

set_option maxRecDepth 100000 in
set_option maxHeartbeats 4000000 in
theorem sumE {xs : List Nat} {v : Value} {w : World} (he : Es w w.heap.size v xs) : Calls Try.prog 21 #[v] w fun e w' => e = .returned (.agg #[.int .u64 (l0 (sumP xs) : Int), .int .u64 (l1 (sumP xs) : Int), .int .u64 (l2 (sumP xs) : Int), .int .u64 (l3 (sumP xs) : Int)]) ∧ Below w.heap.size w w' := by
  obtain ⟨A, c, rfl, hlen, hcm, hcs⟩ := he
  unfold maxLen at hcm
  have C1 := Lib.hid (fun x => fun (h : x < W4) W => normE h W)
  have C2 := Lib.hid (fun s x => fun (h : s < PP) W => plusE (Nat.lt_trans h PP_lt) (mod_lt4 x) W)
  have C3 := Lib.hid (fun s x => fun (h : s < PP) W => normE (V := (s + x % PP) % W4) (Nat.mod_lt _ (by decide)) W)
  go_enter Try.func21, Try.ntmps21
  go_wp2_with fail
  go_loopw [8] (fun i wr => ∃ k : Nat, k ≤ xs.length ∧ i = .int .i64 k ∧ Hid (Below w.heap.size w wr) ∧ Hid (Ez wr w.heap.size) ∧ Hid (Ec wr (w.heap.size + 1) (sumP (xs.take k)))) (fun i _ => xs.length - (intOf i).toNat)
  case atStart =>
    refine ⟨0, Nat.zero_le _, rfl, Lib.hid (((Below.refl _ _).alloc (Nat.le_refl _) _).alloc (by simp) _), Lib.hid ?_, Lib.hid ?_⟩
    · constructor <;> simp [go_sem]
    · constructor <;> simp [go_sem] <;> rfl
  case round =>
    obtain ⟨k, hk, rfl, hbe, hez, hec⟩ := hrel
    have y0 : w.heap.size + 1 < wr.heap.size := World.block_lt_of_cell? wr ⟨w.heap.size + 1, 0, none⟩ hec.out.c0
    have y1 : w.heap.size < wr.heap.size := by omega
    by_cases hlt : k < xs.length
    · obtain ⟨b, off, rfl, hb, hcell⟩ := hcs (by omega)
      obtain ⟨hx4, hcell⟩ := hcell k hlt
      have hl := limbs_of xs[k]
      have e0 : wr.cell? ⟨b, off + k * 4, none⟩ = some (.int .u64 (l0 xs[k] : Int)) := (hbe.out.cell (p := ⟨b, off + k * 4, none⟩) hb).trans (by rw [← hl.1]; exact hcell 0 (by omega))
      have e1 : wr.cell? ⟨b, off + k * 4 + 1, none⟩ = some (.int .u64 (l1 xs[k] : Int)) := (hbe.out.cell (p := ⟨b, off + k * 4 + 1, none⟩) hb).trans (by rw [← hl.2.1]; exact hcell 1 (by omega))
      have e2 : wr.cell? ⟨b, off + k * 4 + 2, none⟩ = some (.int .u64 (l2 xs[k] : Int)) := (hbe.out.cell (p := ⟨b, off + k * 4 + 2, none⟩) hb).trans (by rw [← hl.2.2.1]; exact hcell 2 (by omega))
      have e3 : wr.cell? ⟨b, off + k * 4 + 3, none⟩ = some (.int .u64 (l3 xs[k] : Int)) := (hbe.out.cell (p := ⟨b, off + k * 4 + 3, none⟩) hb).trans (by rw [← hl.2.2.2]; exact hcell 3 (by omega))
      obtain ⟨x, hx⟩ : ∃ x, x = xs[k] := ⟨_, rfl⟩
      obtain ⟨s, hs⟩ : ∃ s, s = sumP (xs.take k) := ⟨_, rfl⟩
      have hsl : Hid (s < PP) := Lib.hid (by rw [hs]; exact sumP_lt _)
      have HX4 := Lib.hid hx4
      rw [← hx] at e0 e1 e2 e3 HX4
      rw [← hs] at hec
      have HS := Lib.hid hs; have HX := Lib.hid hx
      obtain ⟨c0, c1, c2, c3, f0, f1, f2, f3⟩ := hec.out
      have k0 : (0 : Int) ≤ (k : Int) := Int.natCast_nonneg _
      have kn : (k : Int) < (xs.length : Int) := by omega
      clear hcs hcell hl hs hx hx4
      have HBE := hbe
      go_wp2_with fail
      go_region_with (first
        | ((with_reducible refine (C1.out x HX4.out _).mono ?_); rintro e' w' ⟨rfl, hb⟩; obtain ⟨hc, hf⟩ := bcell hb; have zz := hb.size; (try simp only [World.size_drew] at zz); (try simp only [World.size_alloc] at zz); (first | (have zt := Nat.lt_of_lt_of_le zt zz) | (have zt := Nat.lt_of_lt_of_le zs zz) | skip); (try have zs := Nat.lt_of_succ_le zz); have y0 : w.heap.size < w'.heap.size := (by omega); have y1 : w.heap.size + 1 < w'.heap.size := (by omega); have hB0 : Below w.heap.size w w' := (by refine Below.trans ?_ (hb.mono (by first | omega | (simp only [World.size_alloc]; omega) | (simp only [World.size_drew, World.size_alloc]; omega) | (simp only [World.size_drew]; omega))); (repeat (first | exact Below.refl _ _ | exact HBE.out | refine Below.drew ?_ | refine Below.alloc ?_ (by first | omega | (simp only [World.size_alloc]; omega) | (simp only [World.size_drew, World.size_alloc]; omega) | (simp only [World.size_drew]; omega)) _ | refine set4_below ?_ (by omega) _ _ _ _))); have HBE := Lib.hid hB0; clear hB0 hb)
        | ((with_reducible refine (C2.out s x hsl.out _).mono ?_); rintro e' w' ⟨rfl, hb⟩; obtain ⟨hc, hf⟩ := bcell hb; have zz := hb.size; (try simp only [World.size_drew] at zz); (try simp only [World.size_alloc] at zz); (first | (have zt := Nat.lt_of_lt_of_le zt zz) | (have zt := Nat.lt_of_lt_of_le zs zz) | skip); (try have zs := Nat.lt_of_succ_le zz); have y0 : w.heap.size < w'.heap.size := (by omega); have y1 : w.heap.size + 1 < w'.heap.size := (by omega); have hB0 : Below w.heap.size w w' := (by refine Below.trans ?_ (hb.mono (by first | omega | (simp only [World.size_alloc]; omega) | (simp only [World.size_drew, World.size_alloc]; omega) | (simp only [World.size_drew]; omega))); (repeat (first | exact Below.refl _ _ | exact HBE.out | refine Below.drew ?_ | refine Below.alloc ?_ (by first | omega | (simp only [World.size_alloc]; omega) | (simp only [World.size_drew, World.size_alloc]; omega) | (simp only [World.size_drew]; omega)) _ | refine set4_below ?_ (by omega) _ _ _ _))); have HBE := Lib.hid hB0; clear hB0 hb)
        | ((with_reducible refine (C3.out s x hsl.out _).mono ?_); rintro e' w' ⟨rfl, hb⟩; obtain ⟨hc, hf⟩ := bcell hb; have zz := hb.size; (try simp only [World.size_drew] at zz); (try simp only [World.size_alloc] at zz); (first | (have zt := Nat.lt_of_lt_of_le zt zz) | (have zt := Nat.lt_of_lt_of_le zs zz) | skip); (try have zs := Nat.lt_of_succ_le zz); have y0 : w.heap.size < w'.heap.size := (by omega); have y1 : w.heap.size + 1 < w'.heap.size := (by omega); have hB0 : Below w.heap.size w w' := (by refine Below.trans ?_ (hb.mono (by first | omega | (simp only [World.size_alloc]; omega) | (simp only [World.size_drew, World.size_alloc]; omega) | (simp only [World.size_drew]; omega))); (repeat (first | exact Below.refl _ _ | exact HBE.out | refine Below.drew ?_ | refine Below.alloc ?_ (by first | omega | (simp only [World.size_alloc]; omega) | (simp only [World.size_drew, World.size_alloc]; omega) | (simp only [World.size_drew]; omega)) _ | refine set4_below ?_ (by omega) _ _ _ _))); have HBE := Lib.hid hB0; clear hB0 hb))
      all_goals
        go_wp2_with fail
        go_roundw
        case rel =>
          refine ⟨k + 1, by omega, by go_num, Lib.hid ?_, Lib.hid ?_, Lib.hid ?_⟩
          · (repeat (first | exact Below.refl _ _ | exact HBE.out | refine Below.drew ?_ | refine Below.alloc ?_ (by first | omega | (simp only [World.size_alloc]; omega) | (simp only [World.size_drew, World.size_alloc]; omega) | (simp only [World.size_drew]; omega)) _ | refine set4_below ?_ (by omega) _ _ _ _))
          · obtain ⟨d0, d1, d2, d3, g0, g1, g2, g3⟩ := hez.out
            constructor <;> go_simp
          · have hst : sumP (xs.take (k + 1)) = (s + x % PP) % W4 % PP := by
              rw [List.take_succ_eq_append_getElem hlt, sumP_snoc, sum_step hsl.out, HS.out, HX.out]
            rw [hst]
            constructor <;> go_simp
        case measure => simp [intOf]; omega
    · obtain rfl : k = xs.length := by omega
      rw [List.take_length] at hec
      obtain ⟨c0, c1, c2, c3, f0, f1, f2, f3⟩ := hec.out
      obtain ⟨d0, d1, d2, d3, g0, g1, g2, g3⟩ := hez.out
      clear hcs
      go_wp2_with fail
      refine bodyPost_ret (v := .agg #[.int .u64 (l0 (sumP xs) : Int), .int .u64 (l1 (sumP xs) : Int), .int .u64 (l2 (sumP xs) : Int), .int .u64 (l3 (sumP xs) : Int)]) (by simp [results, Try.results21, go_sem, *]) rfl ⟨rfl, ?_⟩
      exact set4_below hbe.out (g := w.heap.size) (by omega) _ _ _ _
end Go.Proofs.Ytgkglielcbgpiaa
