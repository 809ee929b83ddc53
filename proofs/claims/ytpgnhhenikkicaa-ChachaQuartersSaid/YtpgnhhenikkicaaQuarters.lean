/- The law ChachaQuarters, walked. -/
import Derived.Test.YtpgnhhenikkicaaQuarter
import Derived.Test.YtpgnhhenikkicaaArr
namespace Go.Proofs.Ytpgnhhenikkicaa
open Go.RowKit

set_option maxRecDepth 100000 in
set_option maxHeartbeats 1600000 in
theorem quarters_walk (a b c d : UInt32) (w : World) :
    Calls Try.prog 9 #[.agg #[.int .u32 (a.toNat : Int), .int .u32 (b.toNat : Int), .int .u32 (c.toNat : Int), .int .u32 (d.toNat : Int)]] w fun e w' => e = .returned (.bool true) ∧ Below w.heap.size w w' := by
  have K : Hid (∀ W, Calls Try.prog 43 #[.int .u32 286331153, .int .u32 16909060, .int .u32 2609737539, .int .u32 19088743] W fun e w' => e = .returned (.tuple #[.int .u32 3928658676, .int .u32 3407673550, .int .u32 1166100270, .int .u32 1484899515]) ∧ w' = W) := by
    have h := fun W => quarter_any 286331153 16909060 2609737539 19088743 W
    have e1 : (qa2 286331153 16909060 2609737539 19088743) = 3928658676 := by decide
    have e2 : (qb2 286331153 16909060 2609737539 19088743) = 3407673550 := by decide
    have e3 : (qc2 286331153 16909060 2609737539 19088743) = 1166100270 := by decide
    have e4 : (qd2 286331153 16909060 2609737539 19088743) = 1484899515 := by decide
    rw [e1, e2, e3, e4] at h
    exact h
  have Q := Lib.hid (fun W => quarter_any a b c d W)
  have R := Lib.hid (fun W => refQuarter_any a b c d W)
  obtain ⟨A2, hA2⟩ : ∃ x, x = qa2 a b c d := ⟨_, rfl⟩
  obtain ⟨B2, hB2⟩ : ∃ x, x = qb2 a b c d := ⟨_, rfl⟩
  obtain ⟨C2, hC2⟩ : ∃ x, x = qc2 a b c d := ⟨_, rfl⟩
  obtain ⟨D2, hD2⟩ : ∃ x, x = qd2 a b c d := ⟨_, rfl⟩
  rw [← hA2, ← hB2, ← hC2, ← hD2] at Q R
  clear hA2 hB2 hC2 hD2
  have EQ : ∀ W, (Op.equalIn 10000 68 (.agg #[.int .u32 (A2.toNat : Int), .int .u32 (B2.toNat : Int), .int .u32 (C2.toNat : Int), .int .u32 (D2.toNat : Int)]) (.agg #[.int .u32 (A2.toNat : Int), .int .u32 (B2.toNat : Int), .int .u32 (C2.toNat : Int), .int .u32 (D2.toNat : Int)])).run Try.prog W = .ok true W := by
    intro W
    obtain ⟨i, hi⟩ : ∃ i, Try.prog.info? 51 = some i := Option.isSome_iff_exists.1 (by kernel_rfl)
    have h := run_eq_arr (P := Try.prog) (k := .u32) W Try.underlying68 hi (by kernel_rfl) (by kernel_rfl) Try.underlying51 [(A2.toNat : Int), (B2.toNat : Int), (C2.toNat : Int), (D2.toNat : Int)] [(A2.toNat : Int), (B2.toNat : Int), (C2.toNat : Int), (D2.toNat : Int)] rfl rfl 9998
    simpa using h
  go_enter Try.func9, Try.ntmps9
  go_wp2_with fail
  with_reducible refine (K.out _).mono ?_
  rintro e w2 ⟨rfl, rfl⟩
  go_wp2_with fail
  with_reducible refine (Q.out _).mono ?_
  rintro e w3 ⟨rfl, rfl⟩
  go_wp2_with fail
  have hb0 : ∀ o, Below w.heap.size w (w.alloc o) := fun o => (Below.refl _ _).alloc (Nat.le_refl _) o
  have HB := Lib.hid hb0
  clear hb0
  with_reducible refine (R.out _).mono ?_
  rintro e w4 ⟨rfl, hb⟩
  have hb4 := Lib.hid ((HB.out _).trans (hb.mono (HB.out _).size))
  clear hb
  go_wp2
  go_ret
  exact ⟨rfl, hb4.out⟩
theorem quarters_of (l : List UInt32) (hl : l.length = 4) (w : World) :
    Calls Try.prog 9 #[.agg (l.map fun x => Value.int .u32 (x.toNat : Int)).toArray] w fun e w' => e = .returned (.bool true) ∧ Below w.heap.size w w' := by
  match l, hl with
  | [a, b, c, d], _ => exact quarters_walk a b c d w
end Go.Proofs.Ytpgnhhenikkicaa
