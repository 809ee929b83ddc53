/- The marks that Apart writes. -/
import Derived.Test.YthgdficgjldobaaG3
namespace Go.Proofs.Ythgdficgjldobaa
open Go.RowKit

/-- what list i holds at place j -/
def markA (i j : Nat) : UInt8 := UInt8.ofNat (17 * i + 3 * j + 1)
/-- the first n places of list i -/
def mkL (i n : Nat) : List UInt8 := (List.range n).map (markA i)
theorem mkL_len (i n : Nat) : (mkL i n).length = n := by simp [mkL]
theorem mkL_at (i n j : Nat) (h : j < (mkL i n).length) : (mkL i n)[j] = markA i j := by simp [mkL]
theorem mkL_succ (i n : Nat) : mkL i n ++ [markA i n] = mkL i (n + 1) := by simp [mkL, List.range_succ]
theorem mkL_agree (i n m : Nat) : Agree (mkL i n) (mkL i m) := fun j h h' => by rw [mkL_at, mkL_at]
theorem mkL_app (i n m : Nat) : mkL i n ++ (List.range m).map (fun k => markA i (n + k)) = mkL i (n + m) := by
  simp [mkL, List.range_add]
/-- a row of which the first j places are marked -/
def rowM (i j : Nat) (l : List UInt8) : List UInt8 := mkL i j ++ l.drop j
theorem rowM_len (i : Nat) {j : Nat} {l : List UInt8} (h : j ≤ l.length) : (rowM i j l).length = l.length := by rw [rowM, List.length_append, mkL_len, List.length_drop]; omega
theorem rowM_zero (i : Nat) (l : List UInt8) : rowM i 0 l = l := by simp [rowM, mkL]
theorem rowM_end (i : Nat) (l : List UInt8) : rowM i l.length l = mkL i l.length := by simp [rowM]
theorem rowM_set (i : Nat) {j : Nat} {l : List UInt8} (h : j < l.length) : (rowM i j l).set j (markA i j) = rowM i (j + 1) l := by
  have e : l.drop j = l[j] :: l.drop (j + 1) := List.drop_eq_getElem_cons h
  have hl : (mkL i j).length = j := mkL_len i j
  rw [rowM, e, List.set_append_right _ _ (by omega), hl, Nat.sub_self, List.set_cons_zero, rowM, ← mkL_succ, List.append_assoc, List.singleton_append]

set_option maxRecDepth 100000 in
set_option maxHeartbeats 800000 in
theorem mark_any (i j : Nat) (hi : i ≤ 17592186044416) (hj : j ≤ 281474976710656) (w : World) :
    Calls Try.prog 44 #[.int .i64 (i : Int), .int .i64 (j : Int)] w fun e w' => e = .returned (.int .u8 ((markA i j).toNat : Int)) ∧ w = w' := by
  obtain ⟨b, hb⟩ : ∃ b, b = markA i j := ⟨_, rfl⟩
  have hw : IntKind.u8.wrap (17 * (i : Int) + 3 * (j : Int) + 1) = (b.toNat : Int) := by
    rw [hb, markA, IntKind.wrap_u8, UInt8.toNat_ofNat']
    omega
  rw [← hb]
  clear hb
  go_enter Try.func44, Try.ntmps44
  go_wp2
  go_ret
  exact ⟨rfl, rfl⟩
end Go.Proofs.Ythgdficgjldobaa
