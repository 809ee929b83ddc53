/- Turn of a key, the program's and the reference's. -/
import Derived.Test.YthgdficgjldobaaC8
namespace Go.Proofs.Ythgdficgjldobaa
open Go.RowKit

set_option maxRecDepth 100000 in
set_option maxHeartbeats 4000000 in
theorem turn_ok {ls : List (List UInt8)} {key : List UInt8} {vk v : Value} {w : World} {B : Nat} (hk : Bs w B vk key) (hr : Rs w B v ls) (hB : B ≤ w.heap.size) (hkl : key.length = 32) (hn : ls.flatten.length ≤ 65536) :
    Calls Try.prog 19 #[vk, v] w fun e w' => ∃ u, e = .returned (.tuple #[u, .int .i64 0]) ∧ Own w' w.heap.size u (trnL key 0 ls.flatten) ∧ Below w.heap.size w w' := by
  have CN := Lib.hid (new_ok hk hB hkl)
  have HR := Lib.hid hr
  have HN := Lib.hid hn
  clear hk hkl hr hn
  go_enter Try.func19, Try.ntmps19
  go_wp2_with fail
  with_reducible refine (CN.out).mono ?_
  rintro e1 w1 ⟨rfl, hf1, hb1⟩
  have CX := Lib.hid (fturn_ok hf1 (HR.out.below hb1 hB) (Nat.le_trans hB hb1.size) (by have := HN.out; omega))
  have HB1 := Lib.hid hb1
  clear hf1 hb1 CN
  go_wp2_with fail
  with_reducible refine (CX.out).mono ?_
  rintro e2 w2 ⟨u, rfl, ho, _, hg⟩
  have HO := Lib.hid (ho.more (B' := w.heap.size) HB1.out.size)
  have HB2 := Lib.hid (HB1.out.grown hg HB1.out.size (fun q hq => by simp only [Option.some.injEq] at hq; omega))
  clear ho hg CX
  go_wp2
  go_ret2
  exact ⟨_, rfl, HO.out, HB2.out⟩
theorem turn_bound {ls : List (List UInt8)} {key : List UInt8} {vk v : Value} {w : World} {B : Nat} (hk : Bs w B vk key) (hr : Rs w B v ls) (hB : B ≤ w.heap.size) (hkl : key.length = 32) (hn : 65536 < ls.flatten.length) :
    Calls Try.prog 19 #[vk, v] w fun e w' => e = .returned (.tuple #[.slice none 0 0, .int .i64 11]) ∧ Below w.heap.size w w' := by
  have CN := Lib.hid (new_ok hk hB hkl)
  have HR := Lib.hid hr
  have HN := Lib.hid hn
  clear hk hkl hr hn
  go_enter Try.func19, Try.ntmps19
  go_wp2_with fail
  with_reducible refine (CN.out).mono ?_
  rintro e1 w1 ⟨rfl, hf1, hb1⟩
  have CX := Lib.hid (fturn_no hf1 (HR.out.below hb1 hB) (by omega) (by have := HN.out; omega))
  have HB1 := Lib.hid hb1
  clear hf1 hb1 CN
  go_wp2_with fail
  with_reducible refine (CX.out).mono ?_
  rintro e2 w2 ⟨rfl, rfl⟩
  clear CX
  go_wp2
  go_ret2
  exact ⟨rfl, HB1.out⟩
theorem turn_size {key : List UInt8} {vk v : Value} {w : World} {B : Nat} (hk : Bs w B vk key) (hkl : key.length ≠ 32) (hm : key.length ≤ 281474976710656) :
    Calls Try.prog 19 #[vk, v] w fun e w' => e = .returned (.tuple #[.slice none 0 0, .int .i64 2]) ∧ w = w' := by
  have CN := Lib.hid (new_no hk hkl hm)
  clear hk hkl
  go_enter Try.func19, Try.ntmps19
  go_wp2_with fail
  with_reducible refine (CN.out).mono ?_
  rintro e1 w1 ⟨rfl, rfl⟩
  clear CN
  go_wp2
  go_ret2
  exact ⟨rfl, rfl⟩
end Go.Proofs.Ythgdficgjldobaa
