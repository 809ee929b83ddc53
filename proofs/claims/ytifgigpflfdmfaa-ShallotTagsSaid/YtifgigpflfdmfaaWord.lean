/- Words of 32 bits: what the walk's values of them are; rotations. -/
import Derived.Test.YtifgigpflfdmfaaWordC
import Derived.Test.YtifgigpflfdmfaaLib
import Derived.Laws.BitsAllLaws
import Derived.Laws.Bits64b
import Derived.Deep.RegionHeld3
namespace Go.Proofs.Ytifgigpflfdmfaa
open Go.RowKit

theorem rotl_2 (y : Nat) (hlt : y < 4294967296) (w : World) :
    Calls Try.prog 102 #[.int .u32 (y : Int), .int .i64 (-2)] w fun e w' => e = .returned (.int .u32 (rotN y 2 : Int)) ∧ w' = w := by
  have hb : bits BinOp.and IntKind.u64 (IntKind.u64.wrap (-2)) 31 = 30 := by decide
  have hr : Hid (bits .or .u32 (IntKind.u32.wrap ((y : Int) * 1073741824)) ((y : Int) / 4) = (rotN y 2 : Int)) := ro_val y 4 1073741824 hlt
  go_enter Try.func102, Try.ntmps102
  go_wp2
  go_ret
  exact ⟨ret_int hr.out, rfl⟩
theorem rotr_2 (y : Nat) (hlt : y < 4294967296) (w : World) :
    Calls Try.prog 98 #[.int .u32 (y : Int), .int .i64 2] w fun e w' => e = .returned (.int .u32 (rotN y 2 : Int)) ∧ w' = w.drew := by
  have hw' : IntKind.i64.wrap 30 = 30 := by decide
  have hr : Hid (bits .or .u32 ((y : Int) / 4) (IntKind.u32.wrap ((y : Int) * 1073741824)) = (rotN y 2 : Int)) := or_val y 4 1073741824 hlt
  go_enter Try.func98, Try.ntmps98
  go_wp2_with fail
  go_region_held3 (fun _ => True) (exact trivial) (fail)
  go_wp2
  go_ret
  exact ⟨ret_int hr.out, rfl⟩
theorem rotl_6 (y : Nat) (hlt : y < 4294967296) (w : World) :
    Calls Try.prog 102 #[.int .u32 (y : Int), .int .i64 (-6)] w fun e w' => e = .returned (.int .u32 (rotN y 6 : Int)) ∧ w' = w := by
  have hb : bits BinOp.and IntKind.u64 (IntKind.u64.wrap (-6)) 31 = 26 := by decide
  have hr : Hid (bits .or .u32 (IntKind.u32.wrap ((y : Int) * 67108864)) ((y : Int) / 64) = (rotN y 6 : Int)) := ro_val y 64 67108864 hlt
  go_enter Try.func102, Try.ntmps102
  go_wp2
  go_ret
  exact ⟨ret_int hr.out, rfl⟩
theorem rotr_6 (y : Nat) (hlt : y < 4294967296) (w : World) :
    Calls Try.prog 98 #[.int .u32 (y : Int), .int .i64 6] w fun e w' => e = .returned (.int .u32 (rotN y 6 : Int)) ∧ w' = w.drew := by
  have hw' : IntKind.i64.wrap 26 = 26 := by decide
  have hr : Hid (bits .or .u32 ((y : Int) / 64) (IntKind.u32.wrap ((y : Int) * 67108864)) = (rotN y 6 : Int)) := or_val y 64 67108864 hlt
  go_enter Try.func98, Try.ntmps98
  go_wp2_with fail
  go_region_held3 (fun _ => True) (exact trivial) (fail)
  go_wp2
  go_ret
  exact ⟨ret_int hr.out, rfl⟩
theorem rotl_7 (y : Nat) (hlt : y < 4294967296) (w : World) :
    Calls Try.prog 102 #[.int .u32 (y : Int), .int .i64 (-7)] w fun e w' => e = .returned (.int .u32 (rotN y 7 : Int)) ∧ w' = w := by
  have hb : bits BinOp.and IntKind.u64 (IntKind.u64.wrap (-7)) 31 = 25 := by decide
  have hr : Hid (bits .or .u32 (IntKind.u32.wrap ((y : Int) * 33554432)) ((y : Int) / 128) = (rotN y 7 : Int)) := ro_val y 128 33554432 hlt
  go_enter Try.func102, Try.ntmps102
  go_wp2
  go_ret
  exact ⟨ret_int hr.out, rfl⟩
theorem rotr_7 (y : Nat) (hlt : y < 4294967296) (w : World) :
    Calls Try.prog 98 #[.int .u32 (y : Int), .int .i64 7] w fun e w' => e = .returned (.int .u32 (rotN y 7 : Int)) ∧ w' = w.drew := by
  have hw' : IntKind.i64.wrap 25 = 25 := by decide
  have hr : Hid (bits .or .u32 ((y : Int) / 128) (IntKind.u32.wrap ((y : Int) * 33554432)) = (rotN y 7 : Int)) := or_val y 128 33554432 hlt
  go_enter Try.func98, Try.ntmps98
  go_wp2_with fail
  go_region_held3 (fun _ => True) (exact trivial) (fail)
  go_wp2
  go_ret
  exact ⟨ret_int hr.out, rfl⟩
theorem rotl_11 (y : Nat) (hlt : y < 4294967296) (w : World) :
    Calls Try.prog 102 #[.int .u32 (y : Int), .int .i64 (-11)] w fun e w' => e = .returned (.int .u32 (rotN y 11 : Int)) ∧ w' = w := by
  have hb : bits BinOp.and IntKind.u64 (IntKind.u64.wrap (-11)) 31 = 21 := by decide
  have hr : Hid (bits .or .u32 (IntKind.u32.wrap ((y : Int) * 2097152)) ((y : Int) / 2048) = (rotN y 11 : Int)) := ro_val y 2048 2097152 hlt
  go_enter Try.func102, Try.ntmps102
  go_wp2
  go_ret
  exact ⟨ret_int hr.out, rfl⟩
theorem rotr_11 (y : Nat) (hlt : y < 4294967296) (w : World) :
    Calls Try.prog 98 #[.int .u32 (y : Int), .int .i64 11] w fun e w' => e = .returned (.int .u32 (rotN y 11 : Int)) ∧ w' = w.drew := by
  have hw' : IntKind.i64.wrap 21 = 21 := by decide
  have hr : Hid (bits .or .u32 ((y : Int) / 2048) (IntKind.u32.wrap ((y : Int) * 2097152)) = (rotN y 11 : Int)) := or_val y 2048 2097152 hlt
  go_enter Try.func98, Try.ntmps98
  go_wp2_with fail
  go_region_held3 (fun _ => True) (exact trivial) (fail)
  go_wp2
  go_ret
  exact ⟨ret_int hr.out, rfl⟩
theorem rotl_13 (y : Nat) (hlt : y < 4294967296) (w : World) :
    Calls Try.prog 102 #[.int .u32 (y : Int), .int .i64 (-13)] w fun e w' => e = .returned (.int .u32 (rotN y 13 : Int)) ∧ w' = w := by
  have hb : bits BinOp.and IntKind.u64 (IntKind.u64.wrap (-13)) 31 = 19 := by decide
  have hr : Hid (bits .or .u32 (IntKind.u32.wrap ((y : Int) * 524288)) ((y : Int) / 8192) = (rotN y 13 : Int)) := ro_val y 8192 524288 hlt
  go_enter Try.func102, Try.ntmps102
  go_wp2
  go_ret
  exact ⟨ret_int hr.out, rfl⟩
theorem rotr_13 (y : Nat) (hlt : y < 4294967296) (w : World) :
    Calls Try.prog 98 #[.int .u32 (y : Int), .int .i64 13] w fun e w' => e = .returned (.int .u32 (rotN y 13 : Int)) ∧ w' = w.drew := by
  have hw' : IntKind.i64.wrap 19 = 19 := by decide
  have hr : Hid (bits .or .u32 ((y : Int) / 8192) (IntKind.u32.wrap ((y : Int) * 524288)) = (rotN y 13 : Int)) := or_val y 8192 524288 hlt
  go_enter Try.func98, Try.ntmps98
  go_wp2_with fail
  go_region_held3 (fun _ => True) (exact trivial) (fail)
  go_wp2
  go_ret
  exact ⟨ret_int hr.out, rfl⟩
theorem rotl_17 (y : Nat) (hlt : y < 4294967296) (w : World) :
    Calls Try.prog 102 #[.int .u32 (y : Int), .int .i64 (-17)] w fun e w' => e = .returned (.int .u32 (rotN y 17 : Int)) ∧ w' = w := by
  have hb : bits BinOp.and IntKind.u64 (IntKind.u64.wrap (-17)) 31 = 15 := by decide
  have hr : Hid (bits .or .u32 (IntKind.u32.wrap ((y : Int) * 32768)) ((y : Int) / 131072) = (rotN y 17 : Int)) := ro_val y 131072 32768 hlt
  go_enter Try.func102, Try.ntmps102
  go_wp2
  go_ret
  exact ⟨ret_int hr.out, rfl⟩
theorem rotr_17 (y : Nat) (hlt : y < 4294967296) (w : World) :
    Calls Try.prog 98 #[.int .u32 (y : Int), .int .i64 17] w fun e w' => e = .returned (.int .u32 (rotN y 17 : Int)) ∧ w' = w.drew := by
  have hw' : IntKind.i64.wrap 15 = 15 := by decide
  have hr : Hid (bits .or .u32 ((y : Int) / 131072) (IntKind.u32.wrap ((y : Int) * 32768)) = (rotN y 17 : Int)) := or_val y 131072 32768 hlt
  go_enter Try.func98, Try.ntmps98
  go_wp2_with fail
  go_region_held3 (fun _ => True) (exact trivial) (fail)
  go_wp2
  go_ret
  exact ⟨ret_int hr.out, rfl⟩
theorem rotl_18 (y : Nat) (hlt : y < 4294967296) (w : World) :
    Calls Try.prog 102 #[.int .u32 (y : Int), .int .i64 (-18)] w fun e w' => e = .returned (.int .u32 (rotN y 18 : Int)) ∧ w' = w := by
  have hb : bits BinOp.and IntKind.u64 (IntKind.u64.wrap (-18)) 31 = 14 := by decide
  have hr : Hid (bits .or .u32 (IntKind.u32.wrap ((y : Int) * 16384)) ((y : Int) / 262144) = (rotN y 18 : Int)) := ro_val y 262144 16384 hlt
  go_enter Try.func102, Try.ntmps102
  go_wp2
  go_ret
  exact ⟨ret_int hr.out, rfl⟩
theorem rotr_18 (y : Nat) (hlt : y < 4294967296) (w : World) :
    Calls Try.prog 98 #[.int .u32 (y : Int), .int .i64 18] w fun e w' => e = .returned (.int .u32 (rotN y 18 : Int)) ∧ w' = w.drew := by
  have hw' : IntKind.i64.wrap 14 = 14 := by decide
  have hr : Hid (bits .or .u32 ((y : Int) / 262144) (IntKind.u32.wrap ((y : Int) * 16384)) = (rotN y 18 : Int)) := or_val y 262144 16384 hlt
  go_enter Try.func98, Try.ntmps98
  go_wp2_with fail
  go_region_held3 (fun _ => True) (exact trivial) (fail)
  go_wp2
  go_ret
  exact ⟨ret_int hr.out, rfl⟩
theorem rotl_19 (y : Nat) (hlt : y < 4294967296) (w : World) :
    Calls Try.prog 102 #[.int .u32 (y : Int), .int .i64 (-19)] w fun e w' => e = .returned (.int .u32 (rotN y 19 : Int)) ∧ w' = w := by
  have hb : bits BinOp.and IntKind.u64 (IntKind.u64.wrap (-19)) 31 = 13 := by decide
  have hr : Hid (bits .or .u32 (IntKind.u32.wrap ((y : Int) * 8192)) ((y : Int) / 524288) = (rotN y 19 : Int)) := ro_val y 524288 8192 hlt
  go_enter Try.func102, Try.ntmps102
  go_wp2
  go_ret
  exact ⟨ret_int hr.out, rfl⟩
theorem rotr_19 (y : Nat) (hlt : y < 4294967296) (w : World) :
    Calls Try.prog 98 #[.int .u32 (y : Int), .int .i64 19] w fun e w' => e = .returned (.int .u32 (rotN y 19 : Int)) ∧ w' = w.drew := by
  have hw' : IntKind.i64.wrap 13 = 13 := by decide
  have hr : Hid (bits .or .u32 ((y : Int) / 524288) (IntKind.u32.wrap ((y : Int) * 8192)) = (rotN y 19 : Int)) := or_val y 524288 8192 hlt
  go_enter Try.func98, Try.ntmps98
  go_wp2_with fail
  go_region_held3 (fun _ => True) (exact trivial) (fail)
  go_wp2
  go_ret
  exact ⟨ret_int hr.out, rfl⟩
theorem rotl_22 (y : Nat) (hlt : y < 4294967296) (w : World) :
    Calls Try.prog 102 #[.int .u32 (y : Int), .int .i64 (-22)] w fun e w' => e = .returned (.int .u32 (rotN y 22 : Int)) ∧ w' = w := by
  have hb : bits BinOp.and IntKind.u64 (IntKind.u64.wrap (-22)) 31 = 10 := by decide
  have hr : Hid (bits .or .u32 (IntKind.u32.wrap ((y : Int) * 1024)) ((y : Int) / 4194304) = (rotN y 22 : Int)) := ro_val y 4194304 1024 hlt
  go_enter Try.func102, Try.ntmps102
  go_wp2
  go_ret
  exact ⟨ret_int hr.out, rfl⟩
theorem rotr_22 (y : Nat) (hlt : y < 4294967296) (w : World) :
    Calls Try.prog 98 #[.int .u32 (y : Int), .int .i64 22] w fun e w' => e = .returned (.int .u32 (rotN y 22 : Int)) ∧ w' = w.drew := by
  have hw' : IntKind.i64.wrap 10 = 10 := by decide
  have hr : Hid (bits .or .u32 ((y : Int) / 4194304) (IntKind.u32.wrap ((y : Int) * 1024)) = (rotN y 22 : Int)) := or_val y 4194304 1024 hlt
  go_enter Try.func98, Try.ntmps98
  go_wp2_with fail
  go_region_held3 (fun _ => True) (exact trivial) (fail)
  go_wp2
  go_ret
  exact ⟨ret_int hr.out, rfl⟩
theorem rotl_25 (y : Nat) (hlt : y < 4294967296) (w : World) :
    Calls Try.prog 102 #[.int .u32 (y : Int), .int .i64 (-25)] w fun e w' => e = .returned (.int .u32 (rotN y 25 : Int)) ∧ w' = w := by
  have hb : bits BinOp.and IntKind.u64 (IntKind.u64.wrap (-25)) 31 = 7 := by decide
  have hr : Hid (bits .or .u32 (IntKind.u32.wrap ((y : Int) * 128)) ((y : Int) / 33554432) = (rotN y 25 : Int)) := ro_val y 33554432 128 hlt
  go_enter Try.func102, Try.ntmps102
  go_wp2
  go_ret
  exact ⟨ret_int hr.out, rfl⟩
theorem rotr_25 (y : Nat) (hlt : y < 4294967296) (w : World) :
    Calls Try.prog 98 #[.int .u32 (y : Int), .int .i64 25] w fun e w' => e = .returned (.int .u32 (rotN y 25 : Int)) ∧ w' = w.drew := by
  have hw' : IntKind.i64.wrap 7 = 7 := by decide
  have hr : Hid (bits .or .u32 ((y : Int) / 33554432) (IntKind.u32.wrap ((y : Int) * 128)) = (rotN y 25 : Int)) := or_val y 33554432 128 hlt
  go_enter Try.func98, Try.ntmps98
  go_wp2_with fail
  go_region_held3 (fun _ => True) (exact trivial) (fail)
  go_wp2
  go_ret
  exact ⟨ret_int hr.out, rfl⟩

theorem right_l (x : UInt32) (n : Int) (hn : n = 2 ∨ n = 6 ∨ n = 7 ∨ n = 11 ∨ n = 13 ∨ n = 17 ∨ n = 18 ∨ n = 19 ∨ n = 22 ∨ n = 25) (w : World) :
    Calls Try.prog 92 #[.int .u32 (x.toNat : Int), .int .i64 n] w fun e w' => e = .returned (.int .u32 ((rotr x n.toNat).toNat : Int)) ∧ w' = w := by
  have hr := rotr_val x n.toNat
  have HR := Lib.hid hr
  clear hr
  obtain ⟨y, hy⟩ : ∃ y : Nat, x.toNat = y := ⟨_, rfl⟩
  have hlt : y < 4294967296 := by rw [← hy]; exact x.toNat_lt
  rw [hy] at HR ⊢
  clear hy
  rcases hn with rfl | rfl | rfl | rfl | rfl | rfl | rfl | rfl | rfl | rfl
  all_goals
    go_enter Try.func92, Try.ntmps92
    go_wp2_with fail
    (first | with_reducible refine (rotl_2 y hlt w).mono ?_ | with_reducible refine (rotl_6 y hlt w).mono ?_ | with_reducible refine (rotl_7 y hlt w).mono ?_ | with_reducible refine (rotl_11 y hlt w).mono ?_ | with_reducible refine (rotl_13 y hlt w).mono ?_ | with_reducible refine (rotl_17 y hlt w).mono ?_ | with_reducible refine (rotl_18 y hlt w).mono ?_ | with_reducible refine (rotl_19 y hlt w).mono ?_ | with_reducible refine (rotl_22 y hlt w).mono ?_ | with_reducible refine (rotl_25 y hlt w).mono ?_)
    rintro e w2 ⟨rfl, rfl⟩
    go_wp2
    go_ret
    exact ⟨ret_int HR.out, rfl⟩
theorem right_r (x : UInt32) (n : Int) (hn : n = 2 ∨ n = 6 ∨ n = 7 ∨ n = 11 ∨ n = 13 ∨ n = 17 ∨ n = 18 ∨ n = 19 ∨ n = 22 ∨ n = 25) (w : World) :
    Calls Try.prog 98 #[.int .u32 (x.toNat : Int), .int .i64 n] w fun e w' => e = .returned (.int .u32 ((rotr x n.toNat).toNat : Int)) ∧ w' = w.drew := by
  rw [← rotr_val]
  have hlt := x.toNat_lt
  rcases hn with rfl | rfl | rfl | rfl | rfl | rfl | rfl | rfl | rfl | rfl
  exact rotr_2 _ hlt w
  exact rotr_6 _ hlt w
  exact rotr_7 _ hlt w
  exact rotr_11 _ hlt w
  exact rotr_13 _ hlt w
  exact rotr_17 _ hlt w
  exact rotr_18 _ hlt w
  exact rotr_19 _ hlt w
  exact rotr_22 _ hlt w
  exact rotr_25 _ hlt w

end Go.Proofs.Ytifgigpflfdmfaa
