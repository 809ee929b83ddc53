/- An element that comes in by value, read as data. -/
import Derived.Test.YtgkglielcbgpiaaOpenArr
import Derived.Test.YtgkglielcbgpiaaF5
namespace Go.Proofs.Ytgkglielcbgpiaa
open Go.ChangeShapes Go.WideShapes Go.RowKit

theorem nat_of {x : Int} (h : (Lit.int .u64 x).wf = true) : ∃ n : Nat, x = (n : Int) ∧ n < 18446744073709551616 := by
  have := u64_bounds h
  exact ⟨x.toNat, by omega, by omega⟩
theorem open_el {H : Type} {enc : TypeId × Value → H} {P : Program} {k e : TypeId} {W : World} {base : Nat} {sp : Nat → Bool} {held : Bool} (A : WideMaps.ArrKey P k e 4) (he : P.underlying e = some (.int .u64)) {r : Reach} {b0 : Nat} {v : Value} {d : DataW H} {ps : List MemPlace}
    (hv : Value.okWide P W r b0 k v) (hd : DataW.Trod enc P W base sp held k v d ps) :
    ∃ V : Nat, V < W4 ∧ v = .agg #[.int .u64 (l0 (V) : Int), .int .u64 (l1 (V) : Int), .int .u64 (l2 (V) : Int), .int .u64 (l3 (V) : Int)] := by
  obtain ⟨l, rfl, hn, hw⟩ := open_cells A he hv hd
  match l, hn with
  | [x0, x1, x2, x3], _ =>
    obtain ⟨a, rfl, ha⟩ := nat_of (hw x0 (by simp))
    obtain ⟨b, rfl, hb⟩ := nat_of (hw x1 (by simp))
    obtain ⟨c, rfl, hc⟩ := nat_of (hw x2 (by simp))
    obtain ⟨d, rfl, hdd⟩ := nat_of (hw x3 (by simp))
    obtain ⟨e0, e1, e2, e3⟩ := lof ⟨ha, hb, hc, hdd⟩
    refine ⟨v4 a b c d, v4_lt ⟨ha, hb, hc, hdd⟩, ?_⟩
    rw [e0, e1, e2, e3]
    rfl
end Go.Proofs.Ytgkglielcbgpiaa
