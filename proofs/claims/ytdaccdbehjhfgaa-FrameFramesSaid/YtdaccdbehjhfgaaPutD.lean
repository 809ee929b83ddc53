/- Put of codec and of the reference: a number as so many bytes, in either order. -/
import Derived.Test.YtdaccdbehjhfgaaLib
import Derived.Deep.RegionWith
namespace Go.Proofs.Ytdaccdbehjhfgaa
open Go.RowKit

/-- the document's order and width -/
def shapeB (o k : Int) : Bool := (decide (o = 1) || decide (o = 2)) && decide (1 ≤ k) && decide (k ≤ 8)
theorem shape_iff {o k : Int} : shapeB o k = true ↔ (o = 1 ∨ o = 2) ∧ 1 ≤ k ∧ k ≤ 8 := by simp [shapeB, and_assoc]
/-- which power of 256 the byte at place j counts -/
def idx (o : Int) (K j : Nat) : Nat := if o = 2 then K - 1 - j else j
theorem idx_little (K j : Nat) : idx 1 K j = j := rfl
theorem idx_big (K j : Nat) : idx 2 K j = K - 1 - j := rfl
theorem idx_lt (o : Int) (K j k : Nat) (hj : j < K) (hk : K ≤ k) : idx o K j < k := by unfold idx; split <;> omega
/-- the bytes of n -/
def putL (o : Int) (K n : Nat) : List UInt8 := (List.range K).map fun j => UInt8.ofNat (n / 256 ^ idx o K j)
theorem putL_length (o : Int) (K n : Nat) : (putL o K n).length = K := by simp [putL]
theorem putL_at (o : Int) (K n : Nat) {j : Nat} (hj : j < K) : vb ((putL o K n).getD j 0) = .int .u8 ((n / 256 ^ idx o K j % 256 : Nat) : Int) := by
  simp [putL, vb, hj, UInt8.toNat_ofNat']
theorem pow8 (k : Nat) : (2 : Nat) ^ (8 * k) = 256 ^ k := by rw [Nat.pow_mul]
theorem byte_of (n k : Nat) : ((n : Int) / 2 ^ (8 * k) % 256) = ((n / 256 ^ k % 256 : Nat) : Int) := by
  rw [← pow8]
  simp

theorem formed_any (o k : Int) (w : World) :
    Calls Try.prog 52 #[.int .i64 o, .int .i64 k] w fun e w' => e = .returned (.bool (shapeB o k)) ∧ w = w' := by
  have two : ∀ x : Int, x = 1 ∨ x = 2 → Calls Try.prog 52 #[.int .i64 x, .int .i64 k] w fun e w' => e = .returned (.bool (shapeB x k)) ∧ w = w' := by
    intro x hx
    by_cases h3 : 1 ≤ k
    · have hb : shapeB x k = decide (k ≤ 8) := by simp [shapeB, h3, hx]
      have H := Lib.hid hb; clear hb
      rcases hx with rfl | rfl
      all_goals
        go_enter Try.func52, Try.ntmps52
        go_wp2
        go_ret
        rw [H.out]
        exact ⟨rfl, rfl⟩
    · have hb : shapeB x k = false := by simp [shapeB, h3]
      have H := Lib.hid hb; clear hb
      have h5 : decide (1 ≤ k) = false := by simpa using h3
      rcases hx with rfl | rfl
      all_goals
        go_enter Try.func52, Try.ntmps52
        go_wp2
        go_ret
        rw [H.out]
        exact ⟨rfl, rfl⟩
  by_cases h1 : o = 1
  · exact two o (.inl h1)
  by_cases h2 : o = 2
  · exact two o (.inr h2)
  have hb : shapeB o k = false := by simp [shapeB, h1, h2]
  have H := Lib.hid hb; clear hb
  have e1 : (o == 1) = false := by simpa using h1
  have e2 : (o == 2) = false := by simpa using h2
  clear h1 h2 two
  go_enter Try.func52, Try.ntmps52
  go_wp2
  go_ret
  rw [H.out]
  exact ⟨rfl, rfl⟩

theorem place_little (K i : Nat) (w : World) :
    Calls Try.prog 53 #[.int .i64 1, .int .i64 K, .int .i64 i] w fun e w' => e = .returned (.int .i64 i) ∧ w' = w := by
  go_enter Try.func53, Try.ntmps53
  go_wp2
  go_ret
  exact ⟨rfl, rfl⟩
theorem place_big (K i : Nat) (hK : K ≤ 8) (hi : i < K) (w : World) :
    Calls Try.prog 53 #[.int .i64 2, .int .i64 K, .int .i64 i] w fun e w' => e = .returned (.int .i64 ((K : Int) - 1 - i)) ∧ w' = w := by
  go_enter Try.func53, Try.ntmps53
  go_wp2
  go_ret
  exact ⟨rfl, rfl⟩

set_option maxHeartbeats 400000 in
theorem put_little (K n : Nat) (hK1 : 1 ≤ K) (hK : K ≤ 8) (hfit : ((n : Int) / 2 ^ (8 * K) != 0) = false) (w : World) :
    Calls Try.prog 39 #[.int .i64 1, .int .i64 K, .int .u64 n] w fun e w' => ∃ v, e = .returned (.tuple #[v, .int .i64 0]) ∧ Own w' w.heap.size v (putL 1 K n) ∧ Below w.heap.size w w' := by
  have hmk := run_make_row' (P := Try.prog) 23 5 (.int .u8 0) 1 Try.underlying23 u8info rfl .i64 .i64 K (by omega) (by omega)
  have hs : shapeB 1 K = true := by simp [shapeB]; omega
  have hrow := World.rowIs_made w (.int .u8 0) K 5
  go_enter Try.func39, Try.ntmps39
  go_wp2_with (go_at_call 52; refine (formed_any _ _ _).mono ?_; rintro e w' ⟨rfl, rfl⟩; rw [hs])
  go_loopw [23] (fun i wr => ∃ k : Nat, k ≤ K ∧ i = .int .i64 k ∧ Below w.heap.size w wr ∧ wr.rowIs w.heap.size 5 K (fun j => if idx 1 K j < k then vb ((putL 1 K n).getD j 0) else .int .u8 0)) (fun i _ => K - (intOf i).toNat)
  case atStart => exact ⟨0, Nat.zero_le _, rfl, (Below.refl _ _).alloc (Nat.le_refl _) _, hrow.congr (fun i _ => by simp)⟩
  case round =>
    obtain ⟨k, hk, rfl, hbel, hr⟩ := hrel
    clear hmk hs hrow
    by_cases hlt : k < K
    · have hcell := hr.cell (i := k) (by omega)
      have hfrz := hr.frozen (k)
      have e8 : IntKind.i64.wrap (8 * (k : Int)) = 8 * (k : Int) := IntWalk.i64_in _ (by omega)
      have hR := Lib.hid hr
      clear hr
      obtain ⟨old, hold⟩ : ∃ old, (if idx 1 K (k) < k then vb ((putL 1 K n).getD (k) 0) else Value.int .u8 0) = old := ⟨_, rfl⟩
      rw [hold] at hcell
      clear hold
      go_wp2_with fail
      go_region_with (go_at_call 53; refine (place_little _ _ _).mono ?_; rintro e w' ⟨rfl, rfl⟩)
      go_wp2
      go_roundw
      case rel =>
        refine ⟨k + 1, by omega, by go_num, (hbel.setCell (Nat.le_refl _) _).drew, ((hR.out.set (k) _).congr fun j hj => ?_).drew⟩
        have hI : idx 1 K j = j := idx_little K j
        by_cases e : j = k
        · have hI' : idx 1 K j = k := by omega
          rw [if_pos e, byte_of, putL_at _ _ _ hj, if_pos (by omega), hI']
        · rw [if_neg e]
          by_cases h : idx 1 K j < k
          · rw [if_pos h, if_pos (by omega)]
          · rw [if_neg h, if_neg (by omega)]
      case measure => simp [intOf]; omega
    · have hR := Lib.hid hr
      clear hr
      go_wp2
      go_ret2
      exact ⟨_, rfl, Own.of_row (hR.out.congr fun j hj => if_pos (idx_lt _ _ _ _ hj (by omega))) (Nat.le_refl _) (by unfold maxLen; omega) (putL_length _ _ _), hbel⟩

set_option maxHeartbeats 400000 in
theorem put_big (K n : Nat) (hK1 : 1 ≤ K) (hK : K ≤ 8) (hfit : ((n : Int) / 2 ^ (8 * K) != 0) = false) (w : World) :
    Calls Try.prog 39 #[.int .i64 2, .int .i64 K, .int .u64 n] w fun e w' => ∃ v, e = .returned (.tuple #[v, .int .i64 0]) ∧ Own w' w.heap.size v (putL 2 K n) ∧ Below w.heap.size w w' := by
  have hmk := run_make_row' (P := Try.prog) 23 5 (.int .u8 0) 1 Try.underlying23 u8info rfl .i64 .i64 K (by omega) (by omega)
  have hs : shapeB 2 K = true := by simp [shapeB]; omega
  have hrow := World.rowIs_made w (.int .u8 0) K 5
  go_enter Try.func39, Try.ntmps39
  go_wp2_with (go_at_call 52; refine (formed_any _ _ _).mono ?_; rintro e w' ⟨rfl, rfl⟩; rw [hs])
  go_loopw [23] (fun i wr => ∃ k : Nat, k ≤ K ∧ i = .int .i64 k ∧ Below w.heap.size w wr ∧ wr.rowIs w.heap.size 5 K (fun j => if idx 2 K j < k then vb ((putL 2 K n).getD j 0) else .int .u8 0)) (fun i _ => K - (intOf i).toNat)
  case atStart => exact ⟨0, Nat.zero_le _, rfl, (Below.refl _ _).alloc (Nat.le_refl _) _, hrow.congr (fun i _ => by simp)⟩
  case round =>
    obtain ⟨k, hk, rfl, hbel, hr⟩ := hrel
    clear hmk hs hrow
    by_cases hlt : k < K
    · have hcell := hr.cell (i := K - 1 - k) (by omega)
      have hfrz := hr.frozen (K - 1 - k)
      have e8 : IntKind.i64.wrap (8 * (k : Int)) = 8 * (k : Int) := IntWalk.i64_in _ (by omega)
      have hR := Lib.hid hr
      clear hr
      obtain ⟨old, hold⟩ : ∃ old, (if idx 2 K (K - 1 - k) < k then vb ((putL 2 K n).getD (K - 1 - k) 0) else Value.int .u8 0) = old := ⟨_, rfl⟩
      rw [hold] at hcell
      clear hold
      go_wp2_with fail
      go_region_with (go_at_call 53; refine (place_big _ _ (by omega) (by omega) _).mono ?_; rintro e w' ⟨rfl, rfl⟩)
      go_wp2
      go_roundw
      case rel =>
        refine ⟨k + 1, by omega, by go_num, (hbel.setCell (Nat.le_refl _) _).drew, ((hR.out.set (K - 1 - k) _).congr fun j hj => ?_).drew⟩
        have hI : idx 2 K j = K - 1 - j := idx_big K j
        by_cases e : j = K - 1 - k
        · have hI' : idx 2 K j = k := by omega
          rw [if_pos e, byte_of, putL_at _ _ _ hj, if_pos (by omega), hI']
        · rw [if_neg e]
          by_cases h : idx 2 K j < k
          · rw [if_pos h, if_pos (by omega)]
          · rw [if_neg h, if_neg (by omega)]
      case measure => simp [intOf]; omega
    · have hR := Lib.hid hr
      clear hr
      go_wp2
      go_ret2
      exact ⟨_, rfl, Own.of_row (hR.out.congr fun j hj => if_pos (idx_lt _ _ _ _ hj (by omega))) (Nat.le_refl _) (by unfold maxLen; omega) (putL_length _ _ _), hbel⟩
end Go.Proofs.Ytdaccdbehjhfgaa
