/- Root and Prime of the reference. -/
import Derived.Test.YtnkbgokimafaeaaZ6
namespace Go.Proofs.Ytnkbgokimafaeaa
open Go.RowKit

set_option maxRecDepth 100000 in
set_option maxHeartbeats 4000000 in
theorem root_any {p k : Nat} (hp : p < 65536) (hk : k ≤ 3) (w : World) :
    Calls Try.prog 7 #[.int .i64 (p : Int), .int .i64 (k : Int)] w fun e w' => e = .returned (.int .u32 ((rootF p k 37 0 % 2 ^ 32 : Nat) : Int)) ∧ Below w.heap.size w w' := by
  obtain ⟨R, hR⟩ : ∃ R, R = rootF p k 37 0 := ⟨_, rfl⟩
  rw [← hR]
  have HR := Lib.hid hR
  clear hR
  go_enter Try.func7, Try.ntmps7
  go_wp2_with fail
  go_loopw [5, 6] (fun x i wr => ∃ (xn b : Nat), x = .int .u64 (xn : Int) ∧ i = .int .i64 ((b : Int) - 1) ∧ b ≤ 37 ∧ xn + 2 ^ b ≤ 2 ^ 37 ∧ Hid (rootF p k b xn = R) ∧ Hid (Below w.heap.size w wr)) (fun _ i _ => (intOf i + 1).toNat)
  case atStart => exact ⟨0, 37, rfl, rfl, Nat.le_refl _, by omega, Lib.hid HR.out.symm, Lib.hid (Below.refl _ _)⟩
  case round =>
    obtain ⟨x, b, rfl, rfl, hb, hx, hr, hbe⟩ := hrel
    by_cases h0 : b = 0
    · subst h0
      have hxR : x = R := hr.out
      subst hxR
      have hI0 : ¬ (0 : Int) ≤ ((0 : Nat) : Int) - 1 := by omega
      have hw : IntKind.u32.wrap ((x : Int) % 4294967296) = ((x % 2 ^ 32 : Nat) : Int) := by
        rw [IntKind.wrap_u32]
        omega
      go_wp2
      go_ret
      exact ⟨ret_int (by omega), hbe.out⟩
    · obtain ⟨s, rfl⟩ : ∃ s, b = s + 1 := ⟨b - 1, by omega⟩
      have e1 : ((s + 1 : Nat) : Int) - 1 = (s : Int) := by omega
      rw [e1]
      have hI0 : (0 : Int) ≤ (s : Int) := Int.natCast_nonneg _
      obtain ⟨T, hT⟩ : ∃ T, T = 2 ^ s := ⟨_, rfl⟩
      have hx2 : x + (T + T) ≤ 2 ^ 37 := by rw [Nat.pow_succ, ← hT] at hx; omega
      obtain ⟨Y, hY⟩ : ∃ Y, Y = x + T := ⟨_, rfl⟩
      have hw1 : IntKind.u64.wrap ((2 : Int) ^ s) = (T : Int) := by
        rw [show (2 : Int) ^ s = (T : Int) by rw [hT]; push_cast; rfl]
        exact IntWalk.u64_in _ (by omega)
      have hw2 : IntKind.u64.wrap ((x : Int) + (T : Int)) = (Y : Int) := by
        rw [show (x : Int) + (T : Int) = (Y : Int) by omega]
        exact IntWalk.u64_in _ (by omega)
      have CA := Lib.hid (above_any (y := Y) (by omega) hp hk wr)
      have HR2 : Hid (rootF p k s (if p * 2 ^ (32 * k) < Y ^ k then x else Y) = R) := Lib.hid (by
        have h := hr.out
        rw [rootF, ← hT, ← hY] at h
        exact h)
      have hTp : Hid (T = 2 ^ s) := Lib.hid hT
      have hYx : Y + T ≤ 2 ^ 37 := by omega
      have hxT : x + T ≤ 2 ^ 37 := by omega
      clear hT hY hr hx hx2 e1
      go_wp2_with fail
      with_reducible refine (CA.out).mono ?_
      rintro e2 w2 ⟨rfl, hb2⟩
      have HB2 := Lib.hid (hbe.out.trans (hb2.mono hbe.out.size))
      clear hb2 CA hbe hw1 hw2
      by_cases hab : p * 2 ^ (32 * k) < Y ^ k
      · have h := HR2.out
        rw [if_pos hab] at h
        have HR3 := Lib.hid h
        rw [decide_eq_true hab]
        clear h hab HR2
        go_wp2
        go_roundw
        case rel => exact ⟨x, s, rfl, by go_num, by omega, by rw [← hTp.out]; exact hxT, HR3, HB2⟩
        case measure => (simp [intOf]; try omega)
      · have h := HR2.out
        rw [if_neg hab] at h
        have HR3 := Lib.hid h
        rw [decide_eq_false hab]
        clear h hab HR2
        go_wp2
        go_roundw
        case rel => exact ⟨Y, s, rfl, by go_num, by omega, by rw [← hTp.out]; exact hYx, HR3, HB2⟩
        case measure => (simp [intOf]; try omega)

set_option maxRecDepth 100000 in
set_option maxHeartbeats 4000000 in
theorem prime_any {n P : Nat} (hn : n < 64) (hP : prime? 318 2 n = some P) (w : World) :
    Calls Try.prog 6 #[.int .i64 (n : Int)] w fun e w' => e = .returned (.int .i64 (P : Int)) ∧ w = w' := by
  have HP := Lib.hid hP
  clear hP
  go_enter Try.func6, Try.ntmps6
  go_wp2_with fail
  go_loopw [0, 3] (fun m p wr => ∃ (mn pn f : Nat), m = .int .i64 (mn : Int) ∧ p = .int .i64 (pn : Int) ∧ f + pn = 320 ∧ mn < 64 ∧ Hid (prime? f pn mn = some P) ∧ Hid (2 ≤ pn) ∧ Hid (wr = w)) (fun _ p _ => 400 - (intOf p).toNat)
  case atStart => exact ⟨n, 2, 318, rfl, rfl, rfl, hn, HP, Lib.hid (Nat.le_refl _), Lib.hid rfl⟩
  case round =>
    obtain ⟨m, p, f, rfl, rfl, hf, hm, hpr, hp2, hwr⟩ := hrel
    obtain ⟨f', rfl⟩ : ∃ f', f = f' + 1 := by
      rcases f with _ | f'
      · have := hpr.out
        simp [prime?] at this
      · exact ⟨f', rfl⟩
    go_wp2_with fail
    go_loopw [4, 5] (fun b q wr => ∃ (bb : Bool) (qn f : Nat), b = .bool bb ∧ q = .int .i64 (qn : Int) ∧ 2 ≤ qn ∧ qn ≤ 400 ∧ Hid (qn + f = p + 2) ∧ Hid (prF p f qn bb = isPr p) ∧ Hid (wr = w)) (fun _ q _ => 401 - (intOf q).toNat)
    case atStart => exact ⟨true, 2, p, rfl, rfl, by omega, by omega, Lib.hid (by omega), Lib.hid rfl, hwr⟩
    case round =>
      obtain ⟨b, q, f2, rfl, rfl, hq2, hq4, hqf, hpf, hwr⟩ := hrel
      obtain ⟨S, hS⟩ : ∃ S, S = q * q := ⟨_, rfl⟩
      have hS1 : S ≤ 160000 := by rw [hS]; exact Nat.mul_le_mul hq4 hq4
      have hS2 : q ≤ S := by rw [hS]; exact Nat.le_mul_of_pos_left q (by omega)
      have hw : IntKind.i64.wrap ((q : Int) * (q : Int)) = (S : Int) := by
        rw [show (q : Int) * (q : Int) = (S : Int) by rw [hS]; push_cast; rfl]
        exact IntWalk.i64_in _ (by omega)
      have HS := Lib.hid hS
      clear hS
      by_cases hle : S ≤ p
      · have hI : (S : Int) ≤ (p : Int) := by omega
        have hq0 : ¬ (q : Int) = 0 := by omega
        obtain ⟨f3, hf3, hst⟩ := prF_step (p := p) (q := q) (f := f2) (by rw [← HS.out]; exact hle) hqf.out b
        have hst2 := hst.symm.trans hpf.out
        have HST := Lib.hid hst2
        have HF3 : Hid (q + 1 + f3 = p + 2) := Lib.hid (by have := hqf.out; omega)
        have hrm : Int.tmod (p : Int) (q : Int) = ((p % q : Nat) : Int) := rfl
        have hq5 : q + 1 ≤ 400 := by omega
        clear hst hst2 hf3 hqf hpf
        by_cases hd : p % q = 0
        · have hdI : Int.tmod (p : Int) (q : Int) = 0 := by rw [hrm, hd]; rfl
          have hdE : (p : Int) % (q : Int) = 0 := by rw [← Int.natCast_emod, hd]; rfl
          have hdB : (((p : Int) % (q : Int)) == 0) = true := by rw [hdE]; rfl
          have h3 := HST.out
          rw [if_pos hd] at h3
          have H3 := Lib.hid h3
          clear h3 HST hrm hd hdE hdI
          go_wp2
          go_roundw
          case rel => exact ⟨false, q + 1, f3, rfl, by go_num, by omega, hq5, HF3, H3, hwr⟩
          case measure => (simp [intOf]; try omega)
        · have hdE : ¬ (p : Int) % (q : Int) = 0 := by rw [← Int.natCast_emod]; omega
          have hdB : (((p : Int) % (q : Int)) == 0) = false := by simpa using hdE
          have h3 := HST.out
          rw [if_neg hd] at h3
          have H3 := Lib.hid h3
          clear h3 HST hrm hd
          go_wp2
          go_roundw
          case rel => exact ⟨b, q + 1, f3, rfl, by go_num, by omega, hq5, HF3, H3, hwr⟩
          case measure => (simp [intOf]; try omega)
      · have hI : ¬ (S : Int) ≤ (p : Int) := by omega
        have hb := hpf.out
        rw [prF_end (by rw [← HS.out]; exact hle)] at hb
        have h1 := hpr.out
        rw [prime?, ← hb] at h1
        have H1 := Lib.hid h1
        have hp4 := hp2.out
        clear h1 hb hpf hqf hpr
        cases b with
        | true =>
          have h2 := H1.out
          rw [if_pos rfl] at h2
          by_cases hm0 : m = 0
          · subst hm0
            rw [if_pos rfl] at h2
            simp only [Option.some.injEq] at h2
            subst h2
            clear H1
            go_wp2
            go_ret
            exact ⟨rfl, hwr.out.symm⟩
          · rw [if_neg hm0] at h2
            have H2 := Lib.hid h2
            have hmI : ¬ (m : Int) = 0 := by omega
            have em : ((m - 1 : Nat) : Int) = (m : Int) - 1 := by omega
            have HEM := Lib.hid em
            clear h2 H1 em
            go_wp2
            go_roundw
            case rel => exact ⟨m - 1, p + 1, f', by rw [HEM.out], by go_num, by omega, by omega, H2, Lib.hid (by omega), hwr⟩
            case measure => (simp [intOf]; try omega)
        | false =>
          have h2 := H1.out
          rw [if_neg (by decide)] at h2
          have H2 := Lib.hid h2
          clear h2 H1
          go_wp2
          go_roundw
          case rel => exact ⟨m, p + 1, f', rfl, by go_num, by omega, hm, H2, Lib.hid (by omega), hwr⟩
          case measure => (simp [intOf]; try omega)
end Go.Proofs.Ytnkbgokimafaeaa
