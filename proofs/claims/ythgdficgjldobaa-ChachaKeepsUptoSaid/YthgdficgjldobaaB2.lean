/- word and begin of chacha. -/
import Derived.Test.YthgdficgjldobaaB1
import Derived.Deep.WholeRow
import Derived.Deep.DeepCutAuto
namespace Go.Proofs.Ythgdficgjldobaa
open Go.RowKit

/-- block g holds the 16 words l -/
def Wx (w : World) (g : Nat) (l : List UInt32) : Prop := w.heap[g]? = some (.cells (l.map vw).toArray 84 (0, 0))
theorem Wx.at_ {w : World} {g : Nat} {l : List UInt32} (h : Wx w g l) {j : Nat} (hj : j < l.length) :
    w.cell? ⟨g, j, none⟩ = some (.int .u32 (l[j].toNat : Int)) ∧ w.frozen? ⟨g, j, none⟩ = false ∧ ∀ x : UInt32, Wx (w.setCell ⟨g, j, none⟩ (.int .u32 (x.toNat : Int))) g (l.set j x) := by
  refine ⟨?_, frozen_of_row w g j _ _ h, fun x => ?_⟩
  · rw [cell_of_row w g j _ _ _ h]
    simp [hj, vw]
  · unfold Wx
    rw [heap_setCell_same w g j _ _ _ h, List.map_set]
    simp [vw]
theorem Wx.lt {w : World} {g : Nat} {l : List UInt32} (h : Wx w g l) : g < w.heap.size := (Array.getElem?_eq_some_iff.1 h).1
theorem Wx.below {w w' : World} {B g : Nat} {l : List UInt32} (h : Wx w g l) (hb : Below B w w') (hg : g < B) : Wx w' g l := (hb.block g hg).trans h
theorem vw_one (l : List UInt32) : ∀ u ∈ l.map vw, u.oneCell' = true := by
  intro u hu
  obtain ⟨x, _, rfl⟩ := List.mem_map.1 hu
  rfl
theorem info16 {l : List UInt32} (h : l.length = 16) : (Try.prog.info? 84).map (·.size) = some (l.map vw).toArray.size := by
  rw [List.size_toArray, List.length_map, h]; kernel_rfl
def z16 : List UInt32 := List.replicate 16 0
/-- the state as it grows -/
def bgA (key : List UInt8) (k : Nat) : List UInt32 := [0x61707865, 0x3320646e, 0x79622d32, 0x6b206574] ++ wds key k ++ List.replicate (12 - k) 0
theorem bgA_len (key : List UInt8) {k : Nat} (h : k ≤ 12) : (bgA key k).length = 16 := by simp [bgA, wds_len]; omega
theorem set_mid {α : Type} (A C : List α) (y x : α) : (A ++ y :: C).set A.length x = A ++ x :: C := by
  rw [List.set_append_right _ _ (Nat.le_refl _), Nat.sub_self]; rfl
theorem rep_pos {n : Nat} (h : 0 < n) : List.replicate n (0 : UInt32) = 0 :: List.replicate (n - 1) 0 := by
  obtain ⟨m, rfl⟩ : ∃ m, n = m + 1 := ⟨n - 1, by omega⟩
  rfl
theorem bgA_set (key : List UInt8) {k : Nat} (h : k < 8) : (bgA key k).set (4 + k) (wd key k) = bgA key (k + 1) := by
  have e := set_mid ([0x61707865, 0x3320646e, 0x79622d32, 0x6b206574] ++ wds key k) (List.replicate (11 - k) 0) 0 (wd key k)
  rw [List.length_append, wds_len] at e
  unfold bgA
  rw [rep_pos (by omega), show 12 - k - 1 = 11 - k by omega, show 12 - (k + 1) = 11 - k by omega, wds_succ key k]
  refine e.trans ?_
  simp
def bgB (key nonce : List UInt8) (c : UInt32) (k : Nat) : List UInt32 := [0x61707865, 0x3320646e, 0x79622d32, 0x6b206574] ++ wds key 8 ++ [c] ++ wds nonce k ++ List.replicate (3 - k) 0
theorem bgB_len (key nonce : List UInt8) (c : UInt32) {k : Nat} (h : k ≤ 3) : (bgB key nonce c k).length = 16 := by simp [bgB, wds_len]; omega
theorem bgB_zero (key nonce : List UInt8) (c : UInt32) : (bgA key 8).set 12 c = bgB key nonce c 0 := by
  have e := set_mid ([0x61707865, 0x3320646e, 0x79622d32, 0x6b206574] ++ wds key 8) (List.replicate 3 0) 0 c
  rw [List.length_append, wds_len] at e
  unfold bgA bgB
  refine e.trans ?_
  simp [wds]
theorem bgB_set (key nonce : List UInt8) (c : UInt32) {k : Nat} (h : k < 3) : (bgB key nonce c k).set (13 + k) (wd nonce k) = bgB key nonce c (k + 1) := by
  have e := set_mid ([0x61707865, 0x3320646e, 0x79622d32, 0x6b206574] ++ wds key 8 ++ [c] ++ wds nonce k) (List.replicate (2 - k) 0) 0 (wd nonce k)
  rw [List.length_append, List.length_append, List.length_append, wds_len, wds_len] at e
  unfold bgB
  rw [rep_pos (by omega), show 3 - k - 1 = 2 - k by omega, show 3 - (k + 1) = 2 - k by omega, wds_succ nonce k]
  refine e.trans ?_
  simp
theorem bgB_end (key nonce : List UInt8) (c : UInt32) : bgB key nonce c 3 = beginL key nonce c := by simp [bgB, beginL]

theorem word_any {b : List UInt8} {v : Value} {w : World} {B i : Nat} (hb : Bs w B v b) (hi : 4 * i + 4 ≤ b.length) (hs : i ≤ 100) :
    Calls Try.prog 50 #[v, .int .i64 (i : Int)] w fun e w' => e = .returned (.int .u32 ((wd b i).toNat : Int)) ∧ w = w' := by
  have C := get_little (K := 4) (a := 4 * i) (by omega) (by omega) hb hi
  rw [show ((4 * i : Nat) : Int) = 4 * (i : Int) by omega, show ((4 : Nat) : Int) = 4 from rfl, wd_val] at C
  have C := Lib.hid C
  have hw : IntKind.i64.wrap (4 * (i : Int)) = 4 * (i : Int) := IntWalk.i64_in _ (by omega)
  have hc : IntKind.u32.wrap ((wd b i).toNat : Int) = ((wd b i).toNat : Int) := IntWalk.u32_in _ (by have := (wd b i).toNat_lt; omega)
  obtain ⟨A, c, rfl⟩ := hb.shape
  clear hb
  go_enter Try.func50, Try.ntmps50
  go_wp2_with fail
  with_reducible refine (C.out).mono ?_
  rintro e w1 ⟨rfl, rfl⟩
  clear C
  go_wp2
  go_ret
  exact ⟨rfl, rfl⟩
end Go.Proofs.Ythgdficgjldobaa
