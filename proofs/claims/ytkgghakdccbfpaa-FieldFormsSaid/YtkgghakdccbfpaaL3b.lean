/- FieldForms at an integer that came in. -/
import Derived.Test.YtkgghakdccbfpaaL3
import Derived.Test.YtkgghakdccbfpaaOpenEl
namespace Go.Proofs.Ytkgghakdccbfpaa
open Go.RowKit
theorem forms_int {V U : Nat} {x : Int} (hV : V < W4) (hU : U < W4) (hx : (Lit.int .u64 x).wf = true) (w : World) : Calls Try.prog 3 #[.agg #[.int .u64 (l0 (V) : Int), .int .u64 (l1 (V) : Int), .int .u64 (l2 (V) : Int), .int .u64 (l3 (V) : Int)], .agg #[.int .u64 (l0 (U) : Int), .int .u64 (l1 (U) : Int), .int .u64 (l2 (U) : Int), .int .u64 (l3 (U) : Int)], .int .u64 x] w fun e w' => e = .returned (.bool true) ∧ Below w.heap.size w w' := by
  obtain ⟨n, rfl, hn⟩ := nat_of hx
  exact forms_walk hV hU hn w
end Go.Proofs.Ytkgghakdccbfpaa
