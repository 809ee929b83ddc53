/- What a law of one number needs of the kit. -/
import Derived.Test.YtnkbgokimafaeaaLibZ
import Derived.Deep.Slices
import Derived.Deep.Fields
import Derived.Deep.Matrix
import Derived.SizedLaws
namespace Go.Proofs.Ytnkbgokimafaeaa
open Go.RowKit
theorem nat_le_one (n : Nat) : n ≤ n + 1 := Nat.le_succ n
end Go.Proofs.Ytnkbgokimafaeaa
