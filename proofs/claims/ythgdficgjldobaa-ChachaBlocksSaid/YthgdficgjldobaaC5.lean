/- The law ChachaBlocks walked. -/
import Derived.Test.YthgdficgjldobaaC4
import Derived.Test.YthgdficgjldobaaB9
namespace Go.Proofs.Ythgdficgjldobaa
open Go.RowKit

set_option maxRecDepth 100000 in
set_option maxHeartbeats 4000000 in
theorem blocks_walk {key nonce : List UInt8} {vk vn : Value} {w : World} (hk : Bs w w.heap.size vk key) (hn : Bs w w.heap.size vn nonce) (hkl : key.length ≤ 140737488351232) (hnl : nonce.length ≤ 140737488351232) (c : UInt32) :
    Calls Try.prog 4 #[vk, vn, .int .u32 (c.toNat : Int)] w fun e w' => e = .returned (.bool true) ∧ Below w.heap.size w w' := by
  have CA := Lib.hid (awake_any w)
  have HK := Lib.hid hk; have HN := Lib.hid hn
  have HKL := Lib.hid hkl; have HNL := Lib.hid hnl
  obtain ⟨AK, cK, rfl⟩ := hk.shape
  obtain ⟨AN, cN, rfl⟩ := hn.shape
  obtain ⟨n, hnk⟩ : ∃ n, n = key.length := ⟨_, rfl⟩
  obtain ⟨m, hmn⟩ : ∃ m, m = nonce.length := ⟨_, rfl⟩
  have HK2 : Hid (Bs w w.heap.size (.slice AK n cK) key) := Lib.hid (by rw [hnk]; exact HK.out)
  have HN2 : Hid (Bs w w.heap.size (.slice AN m cN) nonce) := Lib.hid (by rw [hmn]; exact HN.out)
  rw [← hnk, ← hmn]
  have HNK := Lib.hid hnk; have HMN := Lib.hid hmn
  have hn48 : n ≤ 140737488351232 := by omega
  have hm48 : m ≤ 140737488351232 := by omega
  clear hk hn hkl hnl HK HN hnk hmn
  go_enter Try.func4, Try.ntmps4
  go_wp2_with fail
  with_reducible refine (CA.out).mono ?_
  rintro e0 w0 ⟨rfl, hb0⟩
  have HB0 := Lib.hid hb0
  have HK0 := Lib.hid (HK2.out.below hb0 (Nat.le_refl _))
  have HN0 := Lib.hid (HN2.out.below hb0 (Nat.le_refl _))
  have C1 := Lib.hid (copy_any HK0.out hb0.size (by have := HKL.out; omega))
  clear hb0 CA
  go_wp2_with fail
  with_reducible refine (C1.out).mono ?_
  rintro e1 w1 ⟨u1, rfl, ho1, hb1⟩
  have HO1 := Lib.hid ho1
  have HN1 := Lib.hid (HN0.out.below hb1 HB0.out.size)
  have HK1 := Lib.hid (HK0.out.below hb1 HB0.out.size)
  have HB1 := Lib.hid (HB0.out.trans (hb1.mono HB0.out.size))
  have C2 := Lib.hid (copy_any HN1.out HB1.out.size (by have := HNL.out; omega))
  clear hb1 ho1 C1
  go_wp2_with fail
  with_reducible refine (C2.out).mono ?_
  rintro e2 w2 ⟨u2, rfl, ho2, hb2⟩
  have HO2 := Lib.hid ho2.bs
  have HO1' := Lib.hid ((HO1.out.below hb2 (Nat.le_refl _)).bs)
  have HN2' := Lib.hid (HN1.out.below hb2 HB1.out.size)
  have HK2' := Lib.hid (HK1.out.below hb2 HB1.out.size)
  have HB2 := Lib.hid (HB1.out.trans (hb2.mono HB1.out.size))
  clear hb2 ho2 C2
  by_cases h : key.length = 32 ∧ nonce.length = 12
  · have C3 := Lib.hid (blockP_ok (c := c) HO1'.out HO2.out (Nat.le_refl _) h.1 h.2)
    have C4 := fun (W : World) (hb : Below w2.heap.size w2 W) => refblock_any (c := c) (HK2'.out.below hb HB2.out.size) (HN2'.out.below hb HB2.out.size) (Nat.le_trans HB2.out.size hb.size) h.1 h.2
    have C4 := Lib.hid C4
    have e32 : n = 32 := by have := HNK.out; omega
    have e12 : m = 12 := by have := HMN.out; omega
    subst e32
    subst e12
    clear h
    go_wp2_with fail
    with_reducible refine (C3.out).mono ?_
    rintro e3 w3 ⟨u3, rfl, ho3, hb3⟩
    have C5 := Lib.hid (C4.out _ hb3)
    have HO3 := Lib.hid ho3
    have HB3 := Lib.hid (HB2.out.trans (hb3.mono HB2.out.size))
    clear hb3 ho3 C3 C4
    go_wp2_with fail
    with_reducible refine (C5.out).mono ?_
    rintro e4 w4 ⟨u4, rfl, ho4, hb4⟩
    have C6 := Lib.hid (equal_same (HO3.out.below hb4 (Nat.le_refl _)).bs ho4.bs)
    have HB4 := Lib.hid (HB3.out.trans (hb4.mono HB3.out.size))
    clear hb4 ho4 C5
    go_wp2_with fail
    with_reducible refine (C6.out).mono ?_
    rintro e5 w5 ⟨rfl, hd⟩
    have HB5 := Lib.hid (HB4.out.trans ((hd.below _).mono HB4.out.size))
    clear hd C6
    go_wp2
    go_ret
    exact ⟨rfl, HB5.out⟩
  · have C3 := Lib.hid (blockP_no (c := (c.toNat : Int)) HO1'.out HO2.out (by omega) (by have := HKL.out; omega) (by have := HNL.out; omega))
    have hx : n ≠ 32 ∨ m ≠ 12 := by have := HNK.out; have := HMN.out; omega
    clear h
    go_wp2_with fail
    with_reducible refine (C3.out).mono ?_
    rintro e3 w3 ⟨rfl, rfl⟩
    clear C3
    by_cases h32 : n = 32
    · have h12 : m ≠ 12 := by omega
      subst h32
      have hI : ¬ (m : Int) = 12 := by omega
      clear hx h12
      go_wp2
      go_ret
      exact ⟨rfl, HB2.out⟩
    · have hI : ¬ (n : Int) = 32 := by omega
      clear hx h32
      go_wp2
      go_ret
      exact ⟨rfl, HB2.out⟩
theorem blocks_int {key nonce : List UInt8} {vk vn : Value} {w : World} (hk : Bs w w.heap.size vk key) (hn : Bs w w.heap.size vn nonce) (hkl : key.length ≤ 140737488351232) (hnl : nonce.length ≤ 140737488351232) {c : Int} (hc : (Lit.int .u32 c).wf = true) :
    Calls Try.prog 4 #[vk, vn, .int .u32 c] w fun e w' => e = .returned (.bool true) ∧ Below w.heap.size w w' := by
  have hb : 0 ≤ c ∧ c ≤ 4294967295 := by simpa [Lit.wf, IntKind.min, IntKind.max, IntKind.signed, IntKind.bits] using hc
  have e : c = (((UInt32.ofNat c.toNat).toNat : Nat) : Int) := by rw [UInt32.toNat_ofNat']; omega
  rw [e]
  exact blocks_walk hk hn hkl hnl _
end Go.Proofs.Ythgdficgjldobaa
