/- The block of ChaCha20, as lists of words. -/
import Derived.Test.YthgdficgjldobaaQuarterC
import Derived.Test.YthgdficgjldobaaGet
namespace Go.Proofs.Ythgdficgjldobaa
open Go.RowKit

/-- word i of bytes, the least first -/
def wd (b : List UInt8) (i : Nat) : UInt32 := UInt32.ofNat (getP 1 4 b (4 * i) 4)
theorem wd_val (b : List UInt8) (i : Nat) : ((getP 1 4 b (4 * i) 4 : Nat) : Int) = ((wd b i).toNat : Int) := by
  have h := getP_lt 1 4 b (4 * i) 4
  rw [wd, UInt32.toNat_ofNat']
  have e : (256 : Nat) ^ 4 = 4294967296 := by decide
  rw [e] at h
  omega
def wds (b : List UInt8) (n : Nat) : List UInt32 := (List.range n).map (wd b)
theorem wds_len (b : List UInt8) (n : Nat) : (wds b n).length = n := by simp [wds]
theorem wds_succ (b : List UInt8) (n : Nat) : wds b (n + 1) = wds b n ++ [wd b n] := by simp [wds, List.range_succ]
/-- the state ahead of the rounds -/
def beginL (key nonce : List UInt8) (c : UInt32) : List UInt32 := [0x61707865, 0x3320646e, 0x79622d32, 0x6b206574] ++ wds key 8 ++ [c] ++ wds nonce 3
theorem beginL_len (key nonce : List UInt8) (c : UInt32) : (beginL key nonce c).length = 16 := by simp [beginL, wds_len]
/-- the places of quarter round k -/
def plc : Nat → List Nat
  | 0 => [0, 4, 8, 12]
  | 1 => [1, 5, 9, 13]
  | 2 => [2, 6, 10, 14]
  | 3 => [3, 7, 11, 15]
  | 4 => [0, 5, 10, 15]
  | 5 => [1, 6, 11, 12]
  | 6 => [2, 7, 8, 13]
  | _ => [3, 4, 9, 14]
def pl (k j : Nat) : Nat := (plc k).getD j 0
theorem pl_lt (k j : Nat) : pl k j < 16 := by
  unfold pl
  match k, j with
  | 0, 0 | 0, 1 | 0, 2 | 0, 3 | 1, 0 | 1, 1 | 1, 2 | 1, 3 | 2, 0 | 2, 1 | 2, 2 | 2, 3 | 3, 0 | 3, 1 | 3, 2 | 3, 3 => decide
  | 4, 0 | 4, 1 | 4, 2 | 4, 3 | 5, 0 | 5, 1 | 5, 2 | 5, 3 | 6, 0 | 6, 1 | 6, 2 | 6, 3 => decide
  | 0, j + 4 | 1, j + 4 | 2, j + 4 | 3, j + 4 | 4, j + 4 | 5, j + 4 | 6, j + 4 => simp [plc, List.getD_eq_getElem?_getD]
  | k + 7, 0 | k + 7, 1 | k + 7, 2 | k + 7, 3 => simp [plc]
  | k + 7, j + 4 => simp [plc, List.getD_eq_getElem?_getD]
def gw (L : List UInt32) (i : Nat) : UInt32 := L.getD i 0
/-- quarter round k -/
def qstep (k : Nat) (L : List UInt32) : List UInt32 :=
  (((L.set (pl k 0) (qa2 (gw L (pl k 0)) (gw L (pl k 1)) (gw L (pl k 2)) (gw L (pl k 3)))).set (pl k 1) (qb2 (gw L (pl k 0)) (gw L (pl k 1)) (gw L (pl k 2)) (gw L (pl k 3)))).set (pl k 2) (qc2 (gw L (pl k 0)) (gw L (pl k 1)) (gw L (pl k 2)) (gw L (pl k 3)))).set (pl k 3) (qd2 (gw L (pl k 0)) (gw L (pl k 1)) (gw L (pl k 2)) (gw L (pl k 3)))
theorem qstep_len (k : Nat) (L : List UInt32) : (qstep k L).length = L.length := by simp [qstep]
/-- the first k quarter rounds of a double one -/
def d8 : Nat → List UInt32 → List UInt32
  | 0, L => L
  | k + 1, L => qstep k (d8 k L)
theorem d8_len : ∀ (k : Nat) (L : List UInt32), (d8 k L).length = L.length
  | 0, _ => rfl
  | k + 1, L => by rw [d8, qstep_len, d8_len k L]
/-- n quarter rounds -/
def qn : Nat → List UInt32 → List UInt32
  | 0, L => L
  | n + 1, L => qstep (n % 8) (qn n L)
theorem qn_len : ∀ (n : Nat) (L : List UInt32), (qn n L).length = L.length
  | 0, _ => rfl
  | n + 1, L => by rw [qn, qstep_len, qn_len n L]
theorem qn_d8 (r : Nat) (L : List UInt32) : ∀ k, k ≤ 8 → qn (8 * r + k) L = d8 k (qn (8 * r) L)
  | 0, _ => rfl
  | k + 1, h => by
    rw [← Nat.add_assoc, qn, qn_d8 r L k (by omega), d8]
    rw [show (8 * r + k) % 8 = k by omega]
theorem qn_double (r : Nat) (L : List UInt32) : qn (8 * (r + 1)) L = d8 8 (qn (8 * r) L) := by
  rw [show 8 * (r + 1) = 8 * r + 8 by omega, qn_d8 r L 8 (Nat.le_refl _)]
/-- the bytes of the first n words of a state, added to what it was -/
def outB (S F : List UInt32) (n : Nat) : List UInt8 := (List.range n).flatMap fun i => putL 1 4 ((gw S i + gw F i).toNat)
theorem outB_succ (S F : List UInt32) (n : Nat) : outB S F (n + 1) = outB S F n ++ putL 1 4 ((gw S n + gw F n).toNat) := by simp [outB, List.range_succ]
theorem outB_len (S F : List UInt32) : ∀ n, (outB S F n).length = 4 * n
  | 0 => rfl
  | n + 1 => by rw [outB_succ, List.length_append, outB_len S F n, putL_length]; omega
/-- the block -/
def blockL (key nonce : List UInt8) (c : UInt32) : List UInt8 := outB (qn 80 (beginL key nonce c)) (beginL key nonce c) 16
end Go.Proofs.Ythgdficgjldobaa
