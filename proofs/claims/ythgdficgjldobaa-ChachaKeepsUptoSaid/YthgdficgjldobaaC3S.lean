/- Stream of chacha. -/
import Derived.Test.YthgdficgjldobaaC3
namespace Go.Proofs.Ythgdficgjldobaa
open Go.RowKit

set_option maxRecDepth 100000 in
set_option maxHeartbeats 4000000 in
/-- the first bytes of a key's stream -/
theorem stream_ok {key : List UInt8} {v : Value} {w : World} {B n : Nat} (hb : Bs w B v key) (hB : B ≤ w.heap.size) (hk : key.length = 32) (hn : n ≤ 65536) :
    Calls Try.prog 16 #[v, .int .i64 (n : Int)] w fun e w' => ∃ u, e = .returned (.tuple #[u, .int .i64 0]) ∧ Own w' w.heap.size u (strL key 0 n) ∧ Below w.heap.size w w' := by
  have CN := Lib.hid (new_ok hb hB hk)
  have h1 : ¬ (n : Int) < 0 := by omega
  have h2 : ¬ (65536 : Int) < (n : Int) := by omega
  clear hb hk
  go_enter Try.func16, Try.ntmps16
  go_wp2_with fail
  with_reducible refine (CN.out).mono ?_
  rintro e1 w1 ⟨rfl, hf1, hb1⟩
  have CX := Lib.hid (next_ok hf1 (n := n) (by omega))
  have HB1 := Lib.hid hb1
  clear hf1 hb1 CN
  go_wp2_with fail
  with_reducible refine (CX.out).mono ?_
  rintro e2 w2 ⟨u, rfl, ho, _, hg⟩
  have HO := Lib.hid (ho.more (B' := w.heap.size) HB1.out.size)
  have HB2 := Lib.hid (HB1.out.grown hg HB1.out.size (fun q hq => by simp only [Option.some.injEq] at hq; omega))
  clear ho hg CX
  go_wp2
  go_ret2
  exact ⟨_, rfl, HO.out, HB2.out⟩
theorem stream_size {key : List UInt8} {v : Value} {w : World} {B n : Nat} (hb : Bs w B v key) (hk : key.length ≠ 32) (hm : key.length ≤ 281474976710656) (hn : n ≤ 65536) :
    Calls Try.prog 16 #[v, .int .i64 (n : Int)] w fun e w' => e = .returned (.tuple #[.slice none 0 0, .int .i64 2]) ∧ w = w' := by
  have CN := Lib.hid (new_no hb hk hm)
  have h1 : ¬ (n : Int) < 0 := by omega
  have h2 : ¬ (65536 : Int) < (n : Int) := by omega
  clear hb hk
  go_enter Try.func16, Try.ntmps16
  go_wp2_with fail
  with_reducible refine (CN.out).mono ?_
  rintro e1 w1 ⟨rfl, rfl⟩
  clear CN
  go_wp2
  go_ret2
  exact ⟨rfl, rfl⟩
theorem stream_arg {v : Value} {w : World} {n : Int} (hn : n < 0 ∨ 65536 < n) :
    Calls Try.prog 16 #[v, .int .i64 n] w fun e w' => e = .returned (.tuple #[.slice none 0 0, .int .i64 1]) ∧ w = w' := by
  by_cases h : n < 0
  · go_enter Try.func16, Try.ntmps16
    go_wp2
    go_ret2
    exact ⟨rfl, rfl⟩
  · have h2 : 65536 < n := by omega
    clear hn
    go_enter Try.func16, Try.ntmps16
    go_wp2
    go_ret2
    exact ⟨rfl, rfl⟩
end Go.Proofs.Ythgdficgjldobaa
