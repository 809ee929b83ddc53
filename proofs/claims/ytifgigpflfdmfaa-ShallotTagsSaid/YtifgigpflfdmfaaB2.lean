/- The block of ChaCha20, as lists of words. -/
import Derived.Test.YtifgigpflfdmfaaQuarterC
import Derived.Test.YtifgigpflfdmfaaGet
import Derived.Deep.WholeRow
import Derived.Deep.DeepCutAuto
namespace Go.Proofs.Ytifgigpflfdmfaa
open Go.RowKit

/-- word i of bytes, the least first -/
def wd (b : List UInt8) (i : Nat) : UInt32 := UInt32.ofNat (getP 1 4 b (4 * i) 4)
theorem wd_val (b : List UInt8) (i : Nat) : ((getP 1 4 b (4 * i) 4 : Nat) : Int) = ((wd b i).toNat : Int) := by
  have h := getP_lt 1 4 b (4 * i) 4
  rw [wd, UInt32.toNat_ofNat']
  have e : (256 : Nat) ^ 4 = 4294967296 := by decide
  rw [e] at h
  omega
def wds (b : List UInt8) (n : Nat) : List UInt32 := (List.range n).map (wd b)
theorem wds_len (b : List UInt8) (n : Nat) : (wds b n).length = n := by simp [wds]
theorem wds_succ (b : List UInt8) (n : Nat) : wds b (n + 1) = wds b n ++ [wd b n] := by simp [wds, List.range_succ]
/-- the state ahead of the rounds -/
def beginL (key nonce : List UInt8) (c : UInt32) : List UInt32 := [0x61707865, 0x3320646e, 0x79622d32, 0x6b206574] ++ wds key 8 ++ [c] ++ wds nonce 3
theorem beginL_len (key nonce : List UInt8) (c : UInt32) : (beginL key nonce c).length = 16 := by simp [beginL, wds_len]
/-- the places of quarter round k -/
def plc : Nat → List Nat
  | 0 => [0, 4, 8, 12]
  | 1 => [1, 5, 9, 13]
  | 2 => [2, 6, 10, 14]
  | 3 => [3, 7, 11, 15]
  | 4 => [0, 5, 10, 15]
  | 5 => [1, 6, 11, 12]
  | 6 => [2, 7, 8, 13]
  | _ => [3, 4, 9, 14]
def pl (k j : Nat) : Nat := (plc k).getD j 0
theorem pl_lt (k j : Nat) : pl k j < 16 := by
  unfold pl
  match k, j with
  | 0, 0 | 0, 1 | 0, 2 | 0, 3 | 1, 0 | 1, 1 | 1, 2 | 1, 3 | 2, 0 | 2, 1 | 2, 2 | 2, 3 | 3, 0 | 3, 1 | 3, 2 | 3, 3 => decide
  | 4, 0 | 4, 1 | 4, 2 | 4, 3 | 5, 0 | 5, 1 | 5, 2 | 5, 3 | 6, 0 | 6, 1 | 6, 2 | 6, 3 => decide
  | 0, j + 4 | 1, j + 4 | 2, j + 4 | 3, j + 4 | 4, j + 4 | 5, j + 4 | 6, j + 4 => simp [plc, List.getD_eq_getElem?_getD]
  | k + 7, 0 | k + 7, 1 | k + 7, 2 | k + 7, 3 => simp [plc]
  | k + 7, j + 4 => simp [plc, List.getD_eq_getElem?_getD]
def gw (L : List UInt32) (i : Nat) : UInt32 := L.getD i 0
/-- quarter round k -/
def qstep (k : Nat) (L : List UInt32) : List UInt32 :=
  (((L.set (pl k 0) (qa2 (gw L (pl k 0)) (gw L (pl k 1)) (gw L (pl k 2)) (gw L (pl k 3)))).set (pl k 1) (qb2 (gw L (pl k 0)) (gw L (pl k 1)) (gw L (pl k 2)) (gw L (pl k 3)))).set (pl k 2) (qc2 (gw L (pl k 0)) (gw L (pl k 1)) (gw L (pl k 2)) (gw L (pl k 3)))).set (pl k 3) (qd2 (gw L (pl k 0)) (gw L (pl k 1)) (gw L (pl k 2)) (gw L (pl k 3)))
theorem qstep_len (k : Nat) (L : List UInt32) : (qstep k L).length = L.length := by simp [qstep]
/-- the first k quarter rounds of a double one -/
def d8 : Nat → List UInt32 → List UInt32
  | 0, L => L
  | k + 1, L => qstep k (d8 k L)
theorem d8_len : ∀ (k : Nat) (L : List UInt32), (d8 k L).length = L.length
  | 0, _ => rfl
  | k + 1, L => by rw [d8, qstep_len, d8_len k L]
/-- n quarter rounds -/
def qn : Nat → List UInt32 → List UInt32
  | 0, L => L
  | n + 1, L => qstep (n % 8) (qn n L)
theorem qn_len : ∀ (n : Nat) (L : List UInt32), (qn n L).length = L.length
  | 0, _ => rfl
  | n + 1, L => by rw [qn, qstep_len, qn_len n L]
theorem qn_d8 (r : Nat) (L : List UInt32) : ∀ k, k ≤ 8 → qn (8 * r + k) L = d8 k (qn (8 * r) L)
  | 0, _ => rfl
  | k + 1, h => by
    rw [← Nat.add_assoc, qn, qn_d8 r L k (by omega), d8]
    rw [show (8 * r + k) % 8 = k by omega]
theorem qn_double (r : Nat) (L : List UInt32) : qn (8 * (r + 1)) L = d8 8 (qn (8 * r) L) := by
  rw [show 8 * (r + 1) = 8 * r + 8 by omega, qn_d8 r L 8 (Nat.le_refl _)]
/-- the bytes of the first n words of a state, added to what it was -/
def outB (S F : List UInt32) (n : Nat) : List UInt8 := (List.range n).flatMap fun i => putL 1 4 ((gw S i + gw F i).toNat)
theorem outB_succ (S F : List UInt32) (n : Nat) : outB S F (n + 1) = outB S F n ++ putL 1 4 ((gw S n + gw F n).toNat) := by simp [outB, List.range_succ]
theorem outB_len (S F : List UInt32) : ∀ n, (outB S F n).length = 4 * n
  | 0 => rfl
  | n + 1 => by rw [outB_succ, List.length_append, outB_len S F n, putL_length]; omega
/-- the block -/
def blockL (key nonce : List UInt8) (c : UInt32) : List UInt8 := outB (qn 80 (beginL key nonce c)) (beginL key nonce c) 16
end Go.Proofs.Ytifgigpflfdmfaa

namespace Go.Proofs.Ytifgigpflfdmfaa
open Go.RowKit

/-- block g holds the 16 words l -/
def Wx (w : World) (g : Nat) (l : List UInt32) : Prop := w.heap[g]? = some (.cells (l.map vw).toArray 126 (0, 0))
theorem Wx.at_ {w : World} {g : Nat} {l : List UInt32} (h : Wx w g l) {j : Nat} (hj : j < l.length) :
    w.cell? ⟨g, j, none⟩ = some (.int .u32 (l[j].toNat : Int)) ∧ w.frozen? ⟨g, j, none⟩ = false ∧ ∀ x : UInt32, Wx (w.setCell ⟨g, j, none⟩ (.int .u32 (x.toNat : Int))) g (l.set j x) := by
  refine ⟨?_, frozen_of_row w g j _ _ h, fun x => ?_⟩
  · rw [cell_of_row w g j _ _ _ h]
    simp [hj, vw]
  · unfold Wx
    rw [heap_setCell_same w g j _ _ _ h, List.map_set]
    simp [vw]
theorem Wx.lt {w : World} {g : Nat} {l : List UInt32} (h : Wx w g l) : g < w.heap.size := (Array.getElem?_eq_some_iff.1 h).1
theorem Wx.below {w w' : World} {B g : Nat} {l : List UInt32} (h : Wx w g l) (hb : Below B w w') (hg : g < B) : Wx w' g l := (hb.block g hg).trans h
theorem vw_one (l : List UInt32) : ∀ u ∈ l.map vw, u.oneCell' = true := by
  intro u hu
  obtain ⟨x, _, rfl⟩ := List.mem_map.1 hu
  rfl
theorem info16 {l : List UInt32} (h : l.length = 16) : (Try.prog.info? 126).map (·.size) = some (l.map vw).toArray.size := by
  rw [List.size_toArray, List.length_map, h]; kernel_rfl
def z16 : List UInt32 := List.replicate 16 0
/-- the state as it grows -/
def bgA (key : List UInt8) (k : Nat) : List UInt32 := [0x61707865, 0x3320646e, 0x79622d32, 0x6b206574] ++ wds key k ++ List.replicate (12 - k) 0
theorem bgA_len (key : List UInt8) {k : Nat} (h : k ≤ 12) : (bgA key k).length = 16 := by simp [bgA, wds_len]; omega
theorem set_midC {α : Type} (A C : List α) (y x : α) : (A ++ y :: C).set A.length x = A ++ x :: C := by
  rw [List.set_append_right _ _ (Nat.le_refl _), Nat.sub_self]; rfl
theorem rep_pos {n : Nat} (h : 0 < n) : List.replicate n (0 : UInt32) = 0 :: List.replicate (n - 1) 0 := by
  obtain ⟨m, rfl⟩ : ∃ m, n = m + 1 := ⟨n - 1, by omega⟩
  rfl
theorem bgA_set (key : List UInt8) {k : Nat} (h : k < 8) : (bgA key k).set (4 + k) (wd key k) = bgA key (k + 1) := by
  have e := set_midC ([0x61707865, 0x3320646e, 0x79622d32, 0x6b206574] ++ wds key k) (List.replicate (11 - k) 0) 0 (wd key k)
  rw [List.length_append, wds_len] at e
  unfold bgA
  rw [rep_pos (by omega), show 12 - k - 1 = 11 - k by omega, show 12 - (k + 1) = 11 - k by omega, wds_succ key k]
  refine e.trans ?_
  simp
def bgB (key nonce : List UInt8) (c : UInt32) (k : Nat) : List UInt32 := [0x61707865, 0x3320646e, 0x79622d32, 0x6b206574] ++ wds key 8 ++ [c] ++ wds nonce k ++ List.replicate (3 - k) 0
theorem bgB_len (key nonce : List UInt8) (c : UInt32) {k : Nat} (h : k ≤ 3) : (bgB key nonce c k).length = 16 := by simp [bgB, wds_len]; omega
theorem bgB_zero (key nonce : List UInt8) (c : UInt32) : (bgA key 8).set 12 c = bgB key nonce c 0 := by
  have e := set_midC ([0x61707865, 0x3320646e, 0x79622d32, 0x6b206574] ++ wds key 8) (List.replicate 3 0) 0 c
  rw [List.length_append, wds_len] at e
  unfold bgA bgB
  refine e.trans ?_
  simp [wds]
theorem bgB_set (key nonce : List UInt8) (c : UInt32) {k : Nat} (h : k < 3) : (bgB key nonce c k).set (13 + k) (wd nonce k) = bgB key nonce c (k + 1) := by
  have e := set_midC ([0x61707865, 0x3320646e, 0x79622d32, 0x6b206574] ++ wds key 8 ++ [c] ++ wds nonce k) (List.replicate (2 - k) 0) 0 (wd nonce k)
  rw [List.length_append, List.length_append, List.length_append, wds_len, wds_len] at e
  unfold bgB
  rw [rep_pos (by omega), show 3 - k - 1 = 2 - k by omega, show 3 - (k + 1) = 2 - k by omega, wds_succ nonce k]
  refine e.trans ?_
  simp
theorem bgB_end (key nonce : List UInt8) (c : UInt32) : bgB key nonce c 3 = beginL key nonce c := by simp [bgB, beginL]

theorem word_any {b : List UInt8} {v : Value} {w : World} {B i : Nat} (hb : Bs w B v b) (hi : 4 * i + 4 ≤ b.length) (hs : i ≤ 100) :
    Calls Try.prog 103 #[v, .int .i64 (i : Int)] w fun e w' => e = .returned (.int .u32 ((wd b i).toNat : Int)) ∧ w = w' := by
  have C := get_little (K := 4) (a := 4 * i) (by omega) (by omega) hb hi
  rw [show ((4 * i : Nat) : Int) = 4 * (i : Int) by omega, show ((4 : Nat) : Int) = 4 from rfl, wd_val] at C
  have C := Lib.hid C
  have hw : IntKind.i64.wrap (4 * (i : Int)) = 4 * (i : Int) := IntWalk.i64_in _ (by omega)
  have hc : IntKind.u32.wrap ((wd b i).toNat : Int) = ((wd b i).toNat : Int) := IntWalk.u32_in _ (by have := (wd b i).toNat_lt; omega)
  obtain ⟨A, c, rfl⟩ := hb.shape
  clear hb
  go_enter Try.func103, Try.ntmps103
  go_wp2_with fail
  with_reducible refine (C.out).mono ?_
  rintro e w1 ⟨rfl, rfl⟩
  clear C
  go_wp2
  go_ret
  exact ⟨rfl, rfl⟩
end Go.Proofs.Ytifgigpflfdmfaa
