/- Words of 32 bits: what the walk's values of them are; rotations. -/
import Derived.Test.YtifgigpflfdmfaaLib
import Derived.Laws.BitsAllLaws
import Derived.Laws.Bits64b
import Derived.Deep.RegionHeld3
namespace Go.Proofs.Ytifgigpflfdmfaa
open Go.RowKit

def vw (x : UInt32) : Value := .int .u32 (x.toNat : Int)
/-- rotated to the right -/
def rotN (y n : Nat) : Nat := y / 2 ^ n ||| y * 2 ^ (32 - n) % 4294967296
def rotr (x : UInt32) (n : Nat) : UInt32 := UInt32.ofNat (rotN x.toNat n)

theorem or_val (y a b : Nat) (hlt : y < 4294967296) : bits .or .u32 ((y : Int) / (a : Int)) (IntKind.u32.wrap ((y : Int) * (b : Int))) = ((y / a ||| y * b % 4294967296 : Nat) : Int) := by
  rw [IntKind.wrap_u32', ← Int.natCast_mul, show ((4294967296 : Int)) = ((4294967296 : Nat) : Int) from rfl, ← Int.natCast_emod, ← Int.natCast_ediv]
  exact u32_or_nat _ _ (Nat.lt_of_le_of_lt (Nat.div_le_self _ _) hlt) (Nat.mod_lt _ (by decide))
theorem ro_val (y a b : Nat) (hlt : y < 4294967296) : bits .or .u32 (IntKind.u32.wrap ((y : Int) * (b : Int))) ((y : Int) / (a : Int)) = ((y / a ||| y * b % 4294967296 : Nat) : Int) := by
  rw [IntKind.wrap_u32', ← Int.natCast_mul, show ((4294967296 : Int)) = ((4294967296 : Nat) : Int) from rfl, ← Int.natCast_emod, ← Int.natCast_ediv]
  rw [u32_or_nat _ _ (Nat.mod_lt _ (by decide)) (Nat.lt_of_le_of_lt (Nat.div_le_self _ _) hlt), Nat.or_comm]

theorem rotN_lt (y n : Nat) (hlt : y < 4294967296) : rotN y n < 4294967296 :=
  Nat.or_lt_two_pow (n := 32) (Nat.lt_of_le_of_lt (Nat.div_le_self _ _) hlt) (Nat.mod_lt _ (by decide))
theorem rotr_val (x : UInt32) (n : Nat) : (rotN x.toNat n : Int) = ((rotr x n).toNat : Int) := by
  rw [rotr, UInt32.toNat_ofNat', Nat.mod_eq_of_lt (rotN_lt _ _ x.toNat_lt)]

theorem w_xor (a b : UInt32) : bits .xor .u32 (a.toNat : Int) (b.toNat : Int) = ((a ^^^ b).toNat : Int) := by
  rw [u32_xor_nat _ _ a.toNat_lt b.toNat_lt, UInt32.toNat_xor]
theorem w_and (a b : UInt32) : bits .and .u32 (a.toNat : Int) (b.toNat : Int) = ((a &&& b).toNat : Int) := by
  rw [u32_and_nat _ _ a.toNat_lt b.toNat_lt, UInt32.toNat_and]
theorem w_add (a b : UInt32) : IntKind.u32.wrap ((a.toNat : Int) + (b.toNat : Int)) = ((a + b).toNat : Int) := by
  rw [IntKind.wrap_u32', UInt32.toNat_add]
  omega
end Go.Proofs.Ytifgigpflfdmfaa
