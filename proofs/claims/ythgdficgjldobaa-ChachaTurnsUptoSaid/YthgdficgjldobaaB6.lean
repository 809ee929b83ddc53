/- Block of chacha. -/
import Derived.Test.YthgdficgjldobaaB5
namespace Go.Proofs.Ythgdficgjldobaa
open Go.RowKit

set_option maxRecDepth 100000 in
set_option maxHeartbeats 4000000 in
theorem blockP_ok {key nonce : List UInt8} {vk vn : Value} {w : World} {B : Nat} {c : UInt32} (hk : Bs w B vk key) (hn : Bs w B vn nonce) (hB : B ≤ w.heap.size) (hkl : key.length = 32) (hnl : nonce.length = 12) :
    Calls Try.prog 12 #[vk, vn, .int .u32 (c.toNat : Int)] w fun e w' => ∃ u, e = .returned (.tuple #[u, .int .i64 0]) ∧ Own w' w.heap.size u (blockL key nonce c) ∧ Below w.heap.size w w' := by
  have C := block_any (c := c) hk hn hB hkl hnl
  obtain ⟨AK, cK, rfl⟩ := hk.shape
  obtain ⟨AN, cN, rfl⟩ := hn.shape
  rw [hkl, hnl] at C ⊢
  have C := Lib.hid C
  clear hk hn hkl hnl
  go_enter Try.func12, Try.ntmps12
  go_wp2_with fail
  with_reducible refine (C.out).mono ?_
  rintro e w1 ⟨u, rfl, ho, hb⟩
  have HO := Lib.hid ho; have HB := Lib.hid hb
  clear ho hb C
  go_wp2
  go_ret2
  exact ⟨_, rfl, HO.out, HB.out⟩
theorem blockP_no {key nonce : List UInt8} {vk vn : Value} {w : World} {B B2 : Nat} {c : Int} (hk : Bs w B vk key) (hn : Bs w B2 vn nonce) (h : key.length ≠ 32 ∨ nonce.length ≠ 12) (hkm : key.length ≤ 281474976710656) (hnm : nonce.length ≤ 281474976710656) :
    Calls Try.prog 12 #[vk, vn, .int .u32 c] w fun e w' => e = .returned (.tuple #[.slice none 0 0, .int .i64 2]) ∧ w = w' := by
  obtain ⟨AK, cK, rfl⟩ := hk.shape
  obtain ⟨AN, cN, rfl⟩ := hn.shape
  obtain ⟨n, hnn⟩ : ∃ n, n = key.length := ⟨_, rfl⟩
  obtain ⟨m, hmm⟩ : ∃ m, m = nonce.length := ⟨_, rfl⟩
  rw [← hnn] at h hkm ⊢
  rw [← hmm] at h hnm ⊢
  clear hk hn hnn hmm
  by_cases h1 : n = 32
  · have h2 : m ≠ 12 := by omega
    have hI1 : (n : Int) = 32 := by omega
    have hI2 : ¬ (m : Int) = 12 := by omega
    clear h h1 h2
    go_enter Try.func12, Try.ntmps12
    go_wp2
    go_ret2
    exact ⟨rfl, rfl⟩
  · have hI1 : ¬ (n : Int) = 32 := by omega
    clear h h1
    go_enter Try.func12, Try.ntmps12
    go_wp2
    go_ret2
    exact ⟨rfl, rfl⟩
end Go.Proofs.Ythgdficgjldobaa
