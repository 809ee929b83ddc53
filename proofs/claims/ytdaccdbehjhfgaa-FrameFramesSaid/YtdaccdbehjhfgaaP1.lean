/- Parts: Check of the program and of the reference. -/
import Derived.Test.YtdaccdbehjhfgaaCursorD
import Derived.Test.YtdaccdbehjhfgaaGetD
import Derived.Test.YtdaccdbehjhfgaaJoin
import Derived.Test.YtdaccdbehjhfgaaRefCopyB
namespace Go.Proofs.Ytdaccdbehjhfgaa
open Go.RowKit

/-- the cells of a part -/
def ptC (k id : Nat) (i n : Int) (s : Value) : Array Value := #[.int .u8 (k : Int), .int .u64 (id : Int), .int .i64 i, .int .i64 n, s]
/-- the error of a part with L bytes -/
def chk (k id : Nat) (i n : Int) (L : Nat) : Int :=
  if k < 1 ∨ 3 < k then 1 else if 450 < L then 2 else if n < 1 ∨ 16 < n ∨ i < 0 ∨ n ≤ i then 3 else if k ≠ 1 ∧ n ≠ 1 then 3 else if k = 2 ∧ (id ≠ 0 ∨ 0 < L) then 3 else 0
set_option maxRecDepth 100000 in
set_option maxHeartbeats 4000000 in
theorem check_any {k id L c : Nat} {i n : Int} {A : Option Addr} (hL : L ≤ 281474976710656) (w : World) :
    Calls Try.prog 11 #[.agg #[.int .u8 (k : Int), .int .u64 (id : Int), .int .i64 i, .int .i64 n, .slice A L c]] w fun e w' => e = .returned (.int .i64 (chk k id i n L)) ∧ Below w.heap.size w w' := by
  obtain ⟨r, hr⟩ : ∃ r, r = chk k id i n L := ⟨_, rfl⟩
  rw [← hr]
  have HR := Lib.hid hr
  clear hr
  go_enter Try.func11, Try.ntmps11
  go_wp2
  all_goals
    go_ret
    refine ⟨ret_int ?_, (Below.refl _ _).alloc (Nat.le_refl _) _⟩
    rw [HR.out]
    clear HR
    (try simp only [bne_iff_ne, ne_eq, bne_eq_false_iff_eq] at *)
    unfold chk
    repeat' split
    all_goals omega
set_option maxRecDepth 100000 in
set_option maxHeartbeats 4000000 in
theorem refcheck_any {k id L c : Nat} {i n : Int} {A : Option Addr} (hL : L ≤ 281474976710656) (w : World) :
    Calls Try.prog 13 #[.agg #[.int .u8 (k : Int), .int .u64 (id : Int), .int .i64 i, .int .i64 n, .slice A L c]] w fun e w' => e = .returned (.int .i64 (chk k id i n L)) ∧ Below w.heap.size w w' := by
  obtain ⟨r, hr⟩ : ∃ r, r = chk k id i n L := ⟨_, rfl⟩
  rw [← hr]
  have HR := Lib.hid hr
  clear hr
  go_enter Try.func13, Try.ntmps13
  go_wp2
  all_goals
    go_ret
    refine ⟨ret_int ?_, (Below.refl _ _).alloc (Nat.le_refl _) _⟩
    rw [HR.out]
    clear HR
    (try simp only [bne_iff_ne, ne_eq, bne_eq_false_iff_eq] at *)
    unfold chk
    repeat' split
    all_goals omega
end Go.Proofs.Ytdaccdbehjhfgaa
