/- Stream of the reference, and the law ChachaStreams walked. -/
import Derived.Test.YthgdficgjldobaaC4
import Derived.Test.YthgdficgjldobaaC6
namespace Go.Proofs.Ythgdficgjldobaa
open Go.RowKit

set_option maxRecDepth 100000 in
set_option maxHeartbeats 4000000 in
theorem refstream_ok {key : List UInt8} {v : Value} {w : World} {B n : Nat} (hb : Bs w B v key) (hB : B ≤ w.heap.size) (hk : key.length = 32) (hn : n ≤ 65536) :
    Calls Try.prog 17 #[v, .int .i64 (n : Int)] w fun e w' => ∃ u, e = .returned (.tuple #[u, .int .i64 0]) ∧ Own w' w.heap.size u (strL key 0 n) ∧ Below w.heap.size w w' := by
  have CN := refbytes_any (a := 0) (n := n) hb hB hk (by omega)
  rw [show ((0 : Nat) : Int) = 0 from rfl] at CN
  have CN := Lib.hid CN
  obtain ⟨A, c, rfl⟩ := hb.shape
  rw [hk] at CN ⊢
  have h1 : ¬ (n : Int) < 0 := by omega
  have h2 : ¬ (65536 : Int) < (n : Int) := by omega
  clear hb hk
  go_enter Try.func17, Try.ntmps17
  go_wp2_with fail
  with_reducible refine (CN.out).mono ?_
  rintro e1 w1 ⟨u, rfl, ho, hb1⟩
  have HO := Lib.hid ho; have HB := Lib.hid hb1
  clear ho hb1 CN
  go_wp2
  go_ret2
  exact ⟨_, rfl, HO.out, HB.out⟩
theorem refstream_size {key : List UInt8} {v : Value} {w : World} {B n : Nat} (hb : Bs w B v key) (hk : key.length ≠ 32) (hm : key.length ≤ 281474976710656) (hn : n ≤ 65536) :
    Calls Try.prog 17 #[v, .int .i64 (n : Int)] w fun e w' => e = .returned (.tuple #[.slice none 0 0, .int .i64 2]) ∧ w = w' := by
  obtain ⟨A, c, rfl⟩ := hb.shape
  obtain ⟨m, hmm⟩ : ∃ m, m = key.length := ⟨_, rfl⟩
  rw [← hmm] at hk hm ⊢
  have h0 : ¬ (m : Int) = 32 := by omega
  have h1 : ¬ (n : Int) < 0 := by omega
  have h2 : ¬ (65536 : Int) < (n : Int) := by omega
  clear hb hk hmm
  go_enter Try.func17, Try.ntmps17
  go_wp2
  go_ret2
  exact ⟨rfl, rfl⟩
theorem refstream_arg {v : Value} {w : World} {n : Int} (hn : n < 0 ∨ 65536 < n) :
    Calls Try.prog 17 #[v, .int .i64 n] w fun e w' => e = .returned (.tuple #[.slice none 0 0, .int .i64 1]) ∧ w = w' := by
  by_cases h : n < 0
  · go_enter Try.func17, Try.ntmps17
    go_wp2
    go_ret2
    exact ⟨rfl, rfl⟩
  · have h2 : 65536 < n := by omega
    clear hn
    go_enter Try.func17, Try.ntmps17
    go_wp2
    go_ret2
    exact ⟨rfl, rfl⟩
/-- a call of Stream, the program's or the reference's, answers the bytes S and the error e0 -/
def PStr (f : FuncId) (key : List UInt8) (n : Int) (e0 : Int) (S : List UInt8) : Prop := ∀ (W : World) (v : Value), Bs W W.heap.size v key → Calls Try.prog f #[v, .int .i64 n] W fun e w' => ∃ u, e = .returned (.tuple #[u, .int .i64 e0]) ∧ Bs w' w'.heap.size u S ∧ Below W.heap.size W w'
theorem pstr_both (key : List UInt8) (hkl : key.length ≤ 140737488351232) (n : Int) (hn : n < 0 ∨ 65536 < n ∨ n ≤ 3000) : ∃ e0 S, PStr 16 key n e0 S ∧ PStr 17 key n e0 S := by
  by_cases h : n < 0 ∨ 65536 < n
  · exact ⟨1, [], fun W v _ => (stream_arg h).mono fun e w' hh => ⟨_, hh.1, Bs.nil _ _, by rw [← hh.2]; exact Below.refl _ _⟩, fun W v _ => (refstream_arg h).mono fun e w' hh => ⟨_, hh.1, Bs.nil _ _, by rw [← hh.2]; exact Below.refl _ _⟩⟩
  · obtain ⟨m, rfl⟩ : ∃ m : Nat, n = (m : Int) := ⟨n.toNat, by omega⟩
    by_cases hk : key.length = 32
    · exact ⟨0, strL key 0 m, fun W v hb => (stream_ok hb (Nat.le_refl _) hk (by omega)).mono fun e w' ⟨u, h1, h2, h3⟩ => ⟨u, h1, h2.bs, h3⟩, fun W v hb => (refstream_ok hb (Nat.le_refl _) hk (by omega)).mono fun e w' ⟨u, h1, h2, h3⟩ => ⟨u, h1, h2.bs, h3⟩⟩
    · exact ⟨2, [], fun W v hb => (stream_size hb hk (by omega) (by omega)).mono fun e w' hh => ⟨_, hh.1, Bs.nil _ _, by rw [← hh.2]; exact Below.refl _ _⟩, fun W v hb => (refstream_size hb hk (by omega) (by omega)).mono fun e w' hh => ⟨_, hh.1, Bs.nil _ _, by rw [← hh.2]; exact Below.refl _ _⟩⟩
set_option maxRecDepth 100000 in
set_option maxHeartbeats 4000000 in
theorem streams_walk {key : List UInt8} {vk : Value} {w : World} (hk : Bs w w.heap.size vk key) (hkl : key.length ≤ 140737488351232) (z : Int) (hz : -9223372036854775808 ≤ z ∧ z ≤ 9223372036854775807) :
    Calls Try.prog 5 #[vk, .int .i64 z] w fun e w' => e = .returned (.bool true) ∧ Below w.heap.size w w' := by
  have CA := Lib.hid (awake_any w)
  have HK := Lib.hid hk
  obtain ⟨hz1, hz2⟩ := hz
  obtain ⟨n, hn, hcase⟩ : ∃ n : Int, (n < 0 ∨ 65536 < n ∨ n ≤ 3000) ∧ ((n = z ∧ (z ≤ 3000 ∨ 65536 < z)) ∨ (3000 < z ∧ z ≤ 65536 ∧ z % 3000 = n)) := by
    by_cases h : 3000 < z ∧ z ≤ 65536
    · exact ⟨z % 3000, by omega, .inr ⟨h.1, h.2, rfl⟩⟩
    · exact ⟨z, by omega, .inl ⟨rfl, by omega⟩⟩
  obtain ⟨e0, S, hP, hR⟩ := pstr_both key hkl n hn
  have HP := Lib.hid hP; have HR := Lib.hid hR
  have HKL := Lib.hid hkl
  clear hk hkl hP hR hn
  rcases hcase with ⟨rfl, h3⟩ | ⟨h1, h2, h3⟩
  · rcases h3 with h3 | h3
    · go_enter Try.func5, Try.ntmps5
      go_wp2_with fail
      with_reducible refine (CA.out).mono ?_
      rintro e0 w0 ⟨rfl, hb0⟩
      have HB0 := Lib.hid hb0
      have HK0 := Lib.hid (HK.out.below hb0 (Nat.le_refl _))
      have C1 := Lib.hid (copy_any HK0.out hb0.size (by have := HKL.out; omega))
      clear hb0 CA
      go_wp2_with fail
      with_reducible refine (C1.out).mono ?_
      rintro e1 w1 ⟨u1, rfl, ho1, hb1⟩
      have HB1 := Lib.hid (HB0.out.trans (hb1.mono HB0.out.size))
      have HK1 := Lib.hid (HK0.out.below hb1 HB0.out.size)
      have C2 := Lib.hid (HP.out w1 u1 ho1.bs)
      clear ho1 hb1 C1
      go_wp2_with fail
      with_reducible refine (C2.out).mono ?_
      rintro e2 w2 ⟨u2, rfl, hs2, hb2⟩
      have HB2 := Lib.hid (HB1.out.trans (hb2.mono HB1.out.size))
      have HK2 := Lib.hid ((HK1.out.below hb2 HB1.out.size).more (B' := w2.heap.size) HB2.out.size)
      have C3 := Lib.hid (HR.out w2 vk HK2.out)
      have HS2 := Lib.hid hs2
      clear hs2 hb2 C2
      go_wp2_with fail
      with_reducible refine (C3.out).mono ?_
      rintro e3 w3 ⟨u3, rfl, hs3, hb3⟩
      have HB3 := Lib.hid (HB2.out.trans (hb3.mono HB2.out.size))
      have C4 := Lib.hid (equal_same (HS2.out.below hb3 (Nat.le_refl _)) hs3)
      clear hs3 hb3 C3
      go_wp2_with fail
      with_reducible refine (C4.out).mono ?_
      rintro e4 w4 ⟨rfl, hd⟩
      have HB4 := Lib.hid (HB3.out.trans ((hd.below _).mono HB3.out.size))
      clear hd C4
      go_wp2
      go_ret
      exact ⟨rfl, HB4.out⟩
    · go_enter Try.func5, Try.ntmps5
      go_wp2_with fail
      with_reducible refine (CA.out).mono ?_
      rintro e0 w0 ⟨rfl, hb0⟩
      have HB0 := Lib.hid hb0
      have HK0 := Lib.hid (HK.out.below hb0 (Nat.le_refl _))
      have C1 := Lib.hid (copy_any HK0.out hb0.size (by have := HKL.out; omega))
      clear hb0 CA
      go_wp2_with fail
      with_reducible refine (C1.out).mono ?_
      rintro e1 w1 ⟨u1, rfl, ho1, hb1⟩
      have HB1 := Lib.hid (HB0.out.trans (hb1.mono HB0.out.size))
      have HK1 := Lib.hid (HK0.out.below hb1 HB0.out.size)
      have C2 := Lib.hid (HP.out w1 u1 ho1.bs)
      clear ho1 hb1 C1
      go_wp2_with fail
      with_reducible refine (C2.out).mono ?_
      rintro e2 w2 ⟨u2, rfl, hs2, hb2⟩
      have HB2 := Lib.hid (HB1.out.trans (hb2.mono HB1.out.size))
      have HK2 := Lib.hid ((HK1.out.below hb2 HB1.out.size).more (B' := w2.heap.size) HB2.out.size)
      have C3 := Lib.hid (HR.out w2 vk HK2.out)
      have HS2 := Lib.hid hs2
      clear hs2 hb2 C2
      go_wp2_with fail
      with_reducible refine (C3.out).mono ?_
      rintro e3 w3 ⟨u3, rfl, hs3, hb3⟩
      have HB3 := Lib.hid (HB2.out.trans (hb3.mono HB2.out.size))
      have C4 := Lib.hid (equal_same (HS2.out.below hb3 (Nat.le_refl _)) hs3)
      clear hs3 hb3 C3
      go_wp2_with fail
      with_reducible refine (C4.out).mono ?_
      rintro e4 w4 ⟨rfl, hd⟩
      have HB4 := Lib.hid (HB3.out.trans ((hd.below _).mono HB3.out.size))
      clear hd C4
      go_wp2
      go_ret
      exact ⟨rfl, HB4.out⟩
  · go_enter Try.func5, Try.ntmps5
    go_wp2_with fail
    with_reducible refine (CA.out).mono ?_
    rintro e0 w0 ⟨rfl, hb0⟩
    have HB0 := Lib.hid hb0
    have HK0 := Lib.hid (HK.out.below hb0 (Nat.le_refl _))
    have C1 := Lib.hid (copy_any HK0.out hb0.size (by have := HKL.out; omega))
    clear hb0 CA
    go_wp2_with fail
    with_reducible refine (C1.out).mono ?_
    rintro e1 w1 ⟨u1, rfl, ho1, hb1⟩
    have HB1 := Lib.hid (HB0.out.trans (hb1.mono HB0.out.size))
    have HK1 := Lib.hid (HK0.out.below hb1 HB0.out.size)
    have C2 := Lib.hid (HP.out w1 u1 ho1.bs)
    clear ho1 hb1 C1
    go_wp2_with fail
    with_reducible refine (C2.out).mono ?_
    rintro e2 w2 ⟨u2, rfl, hs2, hb2⟩
    have HB2 := Lib.hid (HB1.out.trans (hb2.mono HB1.out.size))
    have HK2 := Lib.hid ((HK1.out.below hb2 HB1.out.size).more (B' := w2.heap.size) HB2.out.size)
    have C3 := Lib.hid (HR.out w2 vk HK2.out)
    have HS2 := Lib.hid hs2
    clear hs2 hb2 C2
    go_wp2_with fail
    with_reducible refine (C3.out).mono ?_
    rintro e3 w3 ⟨u3, rfl, hs3, hb3⟩
    have HB3 := Lib.hid (HB2.out.trans (hb3.mono HB2.out.size))
    have C4 := Lib.hid (equal_same (HS2.out.below hb3 (Nat.le_refl _)) hs3)
    clear hs3 hb3 C3
    go_wp2_with fail
    with_reducible refine (C4.out).mono ?_
    rintro e4 w4 ⟨rfl, hd⟩
    have HB4 := Lib.hid (HB3.out.trans ((hd.below _).mono HB3.out.size))
    clear hd C4
    go_wp2
    go_ret
    exact ⟨rfl, HB4.out⟩
end Go.Proofs.Ythgdficgjldobaa
