/- Put: what is refused; and Put of the reference, by division. -/
import Derived.Test.YtifgigpflfdmfaaPut
namespace Go.Proofs.Ytifgigpflfdmfaa
open Go.RowKit

theorem put_arg (o k n : Int) (hs : shapeB o k = false) (w : World) :
    Calls Try.prog 83 #[.int .i64 o, .int .i64 k, .int .u64 n] w fun e w' => e = .returned (.tuple #[.slice none 0 0, .int .i64 1]) ∧ w = w' := by
  go_enter Try.func83, Try.ntmps83
  go_wp2_with (go_at_call 93; refine (formed_any _ _ _).mono ?_; rintro e w' ⟨rfl, rfl⟩; rw [hs])
  go_ret2
  exact ⟨rfl, rfl⟩
theorem refput_arg (o k n : Int) (hs : shapeB o k = false) (w : World) :
    Calls Try.prog 90 #[.int .i64 o, .int .i64 k, .int .u64 n] w fun e w' => e = .returned (.tuple #[.slice none 0 0, .int .i64 1]) ∧ w = w' := by
  go_enter Try.func90, Try.ntmps90
  go_wp2_with (go_at_call 101; refine (shape_any _ _ _).mono ?_; rintro e w' ⟨rfl, rfl⟩; rw [hs])
  go_ret2
  exact ⟨rfl, rfl⟩

theorem put_size (o : Int) (K n : Nat) (hs : shapeB o K = true) (hfit : ((n : Int) / 2 ^ (8 * K) != 0) = true) (w : World) :
    Calls Try.prog 83 #[.int .i64 o, .int .i64 K, .int .u64 n] w fun e w' => e = .returned (.tuple #[.slice none 0 0, .int .i64 2]) ∧ w = w' := by
  have hk := (shape_iff.1 hs).2
  go_enter Try.func83, Try.ntmps83
  go_wp2_with (go_at_call 93; refine (formed_any _ _ _).mono ?_; rintro e w' ⟨rfl, rfl⟩; rw [hs])
  go_ret2
  exact ⟨rfl, rfl⟩

set_option maxHeartbeats 400000 in
theorem refput_little_ok (K n : Nat) (hK1 : 1 ≤ K) (hK : K ≤ 8) (hn : n < 18446744073709551616) (hfit : ((n : Int) / 2 ^ (8 * K) != 0) = false) (w : World) :
    Calls Try.prog 90 #[.int .i64 1, .int .i64 K, .int .u64 n] w fun e w' => ∃ v, e = .returned (.tuple #[v, .int .i64 0]) ∧ Own w' w.heap.size v (putL 1 K n) ∧ Below w.heap.size w w' := by
  have hmk := run_make_row' (P := Try.prog) 22 5 (.int .u8 0) 1 Try.underlying22 u8info rfl .i64 .i64 K (by omega) (by omega)
  have hs : shapeB 1 K = true := by simp [shapeB]; omega
  have hrow := World.rowIs_made w (.int .u8 0) K 5
  have hF := Lib.hid hfit; clear hfit
  go_enter Try.func90, Try.ntmps90
  go_wp2_with (go_at_call 101; refine (shape_any _ _ _).mono ?_; rintro e w' ⟨rfl, rfl⟩; rw [hs])
  go_loopw [2, 9] (fun m i wr => ∃ k : Nat, k ≤ K ∧ i = .int .i64 k ∧ m = .int .u64 ((n / 256 ^ k : Nat) : Int) ∧ Below w.heap.size w wr ∧ wr.rowIs w.heap.size 5 K (fun j => if idx 1 K j < k then vb ((putL 1 K n).getD j 0) else .int .u8 0)) (fun _ i _ => K - (intOf i).toNat)
  case atStart => exact ⟨0, Nat.zero_le _, rfl, by simp, (Below.refl _ _).alloc (Nat.le_refl _) _, hrow.congr (fun i _ => by simp)⟩
  case round =>
    obtain ⟨k, hk, rfl, rfl, hbel, hr⟩ := hrel
    clear hmk hs hrow
    obtain ⟨q, hq⟩ : ∃ q : Nat, q = n / 256 ^ k := ⟨_, rfl⟩
    have hqn : q ≤ n := by rw [hq]; exact Nat.div_le_self _ _
    rw [← hq]
    have HQ := Lib.hid hq; clear hq
    by_cases hlt : k < K
    · have hcell := hr.cell (i := k) (by omega)
      have hfrz := hr.frozen (k)
      have hR := Lib.hid hr
      clear hr
      obtain ⟨old, hold⟩ : ∃ old, (if idx 1 K (k) < k then vb ((putL 1 K n).getD (k) 0) else Value.int .u8 0) = old := ⟨_, rfl⟩
      rw [hold] at hcell
      clear hold
      go_wp2
      go_roundw
      case rel =>
        refine ⟨k + 1, by omega, by go_num, ?_, (hbel.setCell (Nat.le_refl _) _), ((hR.out.set (k) _).congr fun j hj => ?_)⟩
        · rw [Nat.pow_succ, ← Nat.div_div_eq_div_mul, ← HQ.out]
          simp
        · have hI : idx 1 K j = j := idx_little K j
          by_cases e : j = k
          · have hI' : idx 1 K j = k := by omega
            rw [if_pos e, putL_at _ _ _ hj, if_pos (by omega), hI', ← HQ.out]
            simp
          · rw [if_neg e]
            by_cases h : idx 1 K j < k
            · rw [if_pos h, if_pos (by omega)]
            · rw [if_neg h, if_neg (by omega)]
      case measure => simp [intOf]; omega
    · have hR := Lib.hid hr
      clear hr
      have hkK : k = K := by omega
      have h0 : ((q : Int) != 0) = false := by
        have := hF.out
        rw [HQ.out, hkK, ← pow8]
        simpa using this
      clear hkK
      go_wp2
      go_ret2
      exact ⟨_, rfl, Own.of_row (hR.out.congr fun j hj => if_pos (idx_lt _ _ _ _ hj (by omega))) (Nat.le_refl _) (by unfold maxLen; omega) (putL_length _ _ _), hbel⟩

set_option maxHeartbeats 400000 in
theorem refput_little_size (K n : Nat) (hK1 : 1 ≤ K) (hK : K ≤ 8) (hn : n < 18446744073709551616) (hfit : ((n : Int) / 2 ^ (8 * K) != 0) = true) (w : World) :
    Calls Try.prog 90 #[.int .i64 1, .int .i64 K, .int .u64 n] w fun e w' => e = .returned (.tuple #[.slice none 0 0, .int .i64 2]) ∧ Below w.heap.size w w' := by
  have hmk := run_make_row' (P := Try.prog) 22 5 (.int .u8 0) 1 Try.underlying22 u8info rfl .i64 .i64 K (by omega) (by omega)
  have hs : shapeB 1 K = true := by simp [shapeB]; omega
  have hrow := World.rowIs_made w (.int .u8 0) K 5
  have hF := Lib.hid hfit; clear hfit
  go_enter Try.func90, Try.ntmps90
  go_wp2_with (go_at_call 101; refine (shape_any _ _ _).mono ?_; rintro e w' ⟨rfl, rfl⟩; rw [hs])
  go_loopw [2, 9] (fun m i wr => ∃ k : Nat, k ≤ K ∧ i = .int .i64 k ∧ m = .int .u64 ((n / 256 ^ k : Nat) : Int) ∧ Below w.heap.size w wr ∧ wr.rowIs w.heap.size 5 K (fun j => if idx 1 K j < k then vb ((putL 1 K n).getD j 0) else .int .u8 0)) (fun _ i _ => K - (intOf i).toNat)
  case atStart => exact ⟨0, Nat.zero_le _, rfl, by simp, (Below.refl _ _).alloc (Nat.le_refl _) _, hrow.congr (fun i _ => by simp)⟩
  case round =>
    obtain ⟨k, hk, rfl, rfl, hbel, hr⟩ := hrel
    clear hmk hs hrow
    obtain ⟨q, hq⟩ : ∃ q : Nat, q = n / 256 ^ k := ⟨_, rfl⟩
    have hqn : q ≤ n := by rw [hq]; exact Nat.div_le_self _ _
    rw [← hq]
    have HQ := Lib.hid hq; clear hq
    by_cases hlt : k < K
    · have hcell := hr.cell (i := k) (by omega)
      have hfrz := hr.frozen (k)
      have hR := Lib.hid hr
      clear hr
      obtain ⟨old, hold⟩ : ∃ old, (if idx 1 K (k) < k then vb ((putL 1 K n).getD (k) 0) else Value.int .u8 0) = old := ⟨_, rfl⟩
      rw [hold] at hcell
      clear hold
      go_wp2
      go_roundw
      case rel =>
        refine ⟨k + 1, by omega, by go_num, ?_, (hbel.setCell (Nat.le_refl _) _), ((hR.out.set (k) _).congr fun j hj => ?_)⟩
        · rw [Nat.pow_succ, ← Nat.div_div_eq_div_mul, ← HQ.out]
          simp
        · have hI : idx 1 K j = j := idx_little K j
          by_cases e : j = k
          · have hI' : idx 1 K j = k := by omega
            rw [if_pos e, putL_at _ _ _ hj, if_pos (by omega), hI', ← HQ.out]
            simp
          · rw [if_neg e]
            by_cases h : idx 1 K j < k
            · rw [if_pos h, if_pos (by omega)]
            · rw [if_neg h, if_neg (by omega)]
      case measure => simp [intOf]; omega
    · have hR := Lib.hid hr
      clear hr
      have hkK : k = K := by omega
      have h0 : ((q : Int) != 0) = true := by
        have := hF.out
        rw [HQ.out, hkK, ← pow8]
        simpa using this
      clear hkK
      go_wp2
      go_ret2
      exact ⟨rfl, hbel⟩

set_option maxHeartbeats 400000 in
theorem refput_big_ok (K n : Nat) (hK1 : 1 ≤ K) (hK : K ≤ 8) (hn : n < 18446744073709551616) (hfit : ((n : Int) / 2 ^ (8 * K) != 0) = false) (w : World) :
    Calls Try.prog 90 #[.int .i64 2, .int .i64 K, .int .u64 n] w fun e w' => ∃ v, e = .returned (.tuple #[v, .int .i64 0]) ∧ Own w' w.heap.size v (putL 2 K n) ∧ Below w.heap.size w w' := by
  have hmk := run_make_row' (P := Try.prog) 22 5 (.int .u8 0) 1 Try.underlying22 u8info rfl .i64 .i64 K (by omega) (by omega)
  have hs : shapeB 2 K = true := by simp [shapeB]; omega
  have hrow := World.rowIs_made w (.int .u8 0) K 5
  have hF := Lib.hid hfit; clear hfit
  go_enter Try.func90, Try.ntmps90
  go_wp2_with (go_at_call 101; refine (shape_any _ _ _).mono ?_; rintro e w' ⟨rfl, rfl⟩; rw [hs])
  go_loopw [2, 9] (fun m i wr => ∃ k : Nat, k ≤ K ∧ i = .int .i64 k ∧ m = .int .u64 ((n / 256 ^ k : Nat) : Int) ∧ Below w.heap.size w wr ∧ wr.rowIs w.heap.size 5 K (fun j => if idx 2 K j < k then vb ((putL 2 K n).getD j 0) else .int .u8 0)) (fun _ i _ => K - (intOf i).toNat)
  case atStart => exact ⟨0, Nat.zero_le _, rfl, by simp, (Below.refl _ _).alloc (Nat.le_refl _) _, hrow.congr (fun i _ => by simp)⟩
  case round =>
    obtain ⟨k, hk, rfl, rfl, hbel, hr⟩ := hrel
    clear hmk hs hrow
    obtain ⟨q, hq⟩ : ∃ q : Nat, q = n / 256 ^ k := ⟨_, rfl⟩
    have hqn : q ≤ n := by rw [hq]; exact Nat.div_le_self _ _
    rw [← hq]
    have HQ := Lib.hid hq; clear hq
    by_cases hlt : k < K
    · have hcell := hr.cell (i := K - 1 - k) (by omega)
      have hfrz := hr.frozen (K - 1 - k)
      have hR := Lib.hid hr
      clear hr
      obtain ⟨old, hold⟩ : ∃ old, (if idx 2 K (K - 1 - k) < k then vb ((putL 2 K n).getD (K - 1 - k) 0) else Value.int .u8 0) = old := ⟨_, rfl⟩
      rw [hold] at hcell
      clear hold
      go_wp2
      go_roundw
      case rel =>
        refine ⟨k + 1, by omega, by go_num, ?_, (hbel.setCell (Nat.le_refl _) _), ((hR.out.set (K - 1 - k) _).congr fun j hj => ?_)⟩
        · rw [Nat.pow_succ, ← Nat.div_div_eq_div_mul, ← HQ.out]
          simp
        · have hI : idx 2 K j = K - 1 - j := idx_big K j
          by_cases e : j = K - 1 - k
          · have hI' : idx 2 K j = k := by omega
            rw [if_pos e, putL_at _ _ _ hj, if_pos (by omega), hI', ← HQ.out]
            simp
          · rw [if_neg e]
            by_cases h : idx 2 K j < k
            · rw [if_pos h, if_pos (by omega)]
            · rw [if_neg h, if_neg (by omega)]
      case measure => simp [intOf]; omega
    · have hR := Lib.hid hr
      clear hr
      have hkK : k = K := by omega
      have h0 : ((q : Int) != 0) = false := by
        have := hF.out
        rw [HQ.out, hkK, ← pow8]
        simpa using this
      clear hkK
      go_wp2
      go_ret2
      exact ⟨_, rfl, Own.of_row (hR.out.congr fun j hj => if_pos (idx_lt _ _ _ _ hj (by omega))) (Nat.le_refl _) (by unfold maxLen; omega) (putL_length _ _ _), hbel⟩

set_option maxHeartbeats 400000 in
theorem refput_big_size (K n : Nat) (hK1 : 1 ≤ K) (hK : K ≤ 8) (hn : n < 18446744073709551616) (hfit : ((n : Int) / 2 ^ (8 * K) != 0) = true) (w : World) :
    Calls Try.prog 90 #[.int .i64 2, .int .i64 K, .int .u64 n] w fun e w' => e = .returned (.tuple #[.slice none 0 0, .int .i64 2]) ∧ Below w.heap.size w w' := by
  have hmk := run_make_row' (P := Try.prog) 22 5 (.int .u8 0) 1 Try.underlying22 u8info rfl .i64 .i64 K (by omega) (by omega)
  have hs : shapeB 2 K = true := by simp [shapeB]; omega
  have hrow := World.rowIs_made w (.int .u8 0) K 5
  have hF := Lib.hid hfit; clear hfit
  go_enter Try.func90, Try.ntmps90
  go_wp2_with (go_at_call 101; refine (shape_any _ _ _).mono ?_; rintro e w' ⟨rfl, rfl⟩; rw [hs])
  go_loopw [2, 9] (fun m i wr => ∃ k : Nat, k ≤ K ∧ i = .int .i64 k ∧ m = .int .u64 ((n / 256 ^ k : Nat) : Int) ∧ Below w.heap.size w wr ∧ wr.rowIs w.heap.size 5 K (fun j => if idx 2 K j < k then vb ((putL 2 K n).getD j 0) else .int .u8 0)) (fun _ i _ => K - (intOf i).toNat)
  case atStart => exact ⟨0, Nat.zero_le _, rfl, by simp, (Below.refl _ _).alloc (Nat.le_refl _) _, hrow.congr (fun i _ => by simp)⟩
  case round =>
    obtain ⟨k, hk, rfl, rfl, hbel, hr⟩ := hrel
    clear hmk hs hrow
    obtain ⟨q, hq⟩ : ∃ q : Nat, q = n / 256 ^ k := ⟨_, rfl⟩
    have hqn : q ≤ n := by rw [hq]; exact Nat.div_le_self _ _
    rw [← hq]
    have HQ := Lib.hid hq; clear hq
    by_cases hlt : k < K
    · have hcell := hr.cell (i := K - 1 - k) (by omega)
      have hfrz := hr.frozen (K - 1 - k)
      have hR := Lib.hid hr
      clear hr
      obtain ⟨old, hold⟩ : ∃ old, (if idx 2 K (K - 1 - k) < k then vb ((putL 2 K n).getD (K - 1 - k) 0) else Value.int .u8 0) = old := ⟨_, rfl⟩
      rw [hold] at hcell
      clear hold
      go_wp2
      go_roundw
      case rel =>
        refine ⟨k + 1, by omega, by go_num, ?_, (hbel.setCell (Nat.le_refl _) _), ((hR.out.set (K - 1 - k) _).congr fun j hj => ?_)⟩
        · rw [Nat.pow_succ, ← Nat.div_div_eq_div_mul, ← HQ.out]
          simp
        · have hI : idx 2 K j = K - 1 - j := idx_big K j
          by_cases e : j = K - 1 - k
          · have hI' : idx 2 K j = k := by omega
            rw [if_pos e, putL_at _ _ _ hj, if_pos (by omega), hI', ← HQ.out]
            simp
          · rw [if_neg e]
            by_cases h : idx 2 K j < k
            · rw [if_pos h, if_pos (by omega)]
            · rw [if_neg h, if_neg (by omega)]
      case measure => simp [intOf]; omega
    · have hR := Lib.hid hr
      clear hr
      have hkK : k = K := by omega
      have h0 : ((q : Int) != 0) = true := by
        have := hF.out
        rw [HQ.out, hkK, ← pow8]
        simpa using this
      clear hkK
      go_wp2
      go_ret2
      exact ⟨rfl, hbel⟩
end Go.Proofs.Ytifgigpflfdmfaa
