/-
  No cell of these rows narrows 'for every input' (looked for: loops, veiled, ifaces, maps, wideKeys, modest, calm, conditions, laid).
  DERIVED. THE GIVEN ROWS OF THIS SEAT. 7 by the template 'for every input the law returns true; each argument reads behind the call as it read before'; 0 by the template 'total and deterministic' (their statements: YtajhpebefehciaaTotals.lean).
  GIVEN WITH THE SEED: the statements are not yours to turn. If you find one false, say at which input.
  Laid BY PROGRAM, IN A SANDBOX (cutbox-rows.mjs): the forced cells as the released guide's own fill.sh prints them over the translation fe2c6ba93289fe5c… (all of the seat's roots in one cut). By AI agents, Wed Nov 11 2026. No macro, syntax, notation, axiom, sorry.
-/
import Derived.Test.YtajhpebefehciaaChecked
import GoSem.Claim
import GoSem.ClaimJoined
import GoSem.ClaimMapViews
import Derived.JoinedTies
import Derived.KernelRfl
namespace Go.Proofs.Ytajhpebefehciaa
/- THE CELL 'sum', in the pinned program and in every row, IS THE sha256 OF THE DUMP (.gsa) THAT YtajhpebefehciaaProg.lean LOADS. Nothing in Lean hashes anything: it is a label: what it is worth is what the hold of that sum in a sandbox is worth. -/
noncomputable def Try.pinned : Pinned := { name := "ytajhpebefehciaa", sum := "fe2c6ba93289fe5c3b64f183836277f726402f0be68f38b31ea923d641fa187c", checked := Try.checked }
namespace Rows
def none {H : Type} : Left H := { results := [], args := [] }

/-- 'shallotlaw01.CodecKeeps': WHATEVER THE INPUT: true; the input reads as it did. -/
def codecKeepsSpec : ChangeSpec := { name := "codecKeeps", fn := fun _ => fun
  | [d1, d2] => { results := [.lit (.bool true)], args := [d1, d2] }
  | _ => none }
def codecKeepsRow : OpenClaim := { program := "ytajhpebefehciaa", sum := "fe2c6ba93289fe5c3b64f183836277f726402f0be68f38b31ea923d641fa187c", func := "shallot/shallotlaw01.CodecKeeps", spec := "codecKeeps", apart := false }
def CodecKeepsSaid : Prop := codecKeepsRow.holds Try.pinned (OpenSpec.ofChange codecKeepsSpec)

/-- ITS FALSE NEIGHBOUR: 'it returns false'. Refute it at one input. -/
def codecKeepsWrong : ChangeSpec := { name := "codecKeeps", fn := fun _ => fun
  | [d1, d2] => { results := [.lit (.bool false)], args := [d1, d2] }
  | _ => none }
def CodecKeepsWrongFalsely : Prop := codecKeepsRow.holds Try.pinned (OpenSpec.ofChange codecKeepsWrong)

/-- 'shallotlaw02.ShaFlows': WHATEVER THE INPUT: true; the input reads as it did. -/
def shaFlowsSpec : ChangeSpec := { name := "shaFlows", fn := fun _ => fun
  | [d1, d2] => { results := [.lit (.bool true)], args := [d1, d2] }
  | _ => none }
def shaFlowsRow : OpenClaim := { program := "ytajhpebefehciaa", sum := "fe2c6ba93289fe5c3b64f183836277f726402f0be68f38b31ea923d641fa187c", func := "shallot/shallotlaw02.ShaFlows", spec := "shaFlows", apart := false }
def ShaFlowsSaid : Prop := shaFlowsRow.holds Try.pinned (OpenSpec.ofChange shaFlowsSpec)

/-- ITS FALSE NEIGHBOUR: 'it returns false'. Refute it at one input. -/
def shaFlowsWrong : ChangeSpec := { name := "shaFlows", fn := fun _ => fun
  | [d1, d2] => { results := [.lit (.bool false)], args := [d1, d2] }
  | _ => none }
def ShaFlowsWrongFalsely : Prop := shaFlowsRow.holds Try.pinned (OpenSpec.ofChange shaFlowsWrong)

/-- 'shallotlaw02.ShaLabels': WHATEVER THE INPUT: true; the input reads as it did. -/
def shaLabelsSpec : ChangeSpec := { name := "shaLabels", fn := fun _ => fun
  | [d1, d2] => { results := [.lit (.bool true)], args := [d1, d2] }
  | _ => none }
def shaLabelsRow : OpenClaim := { program := "ytajhpebefehciaa", sum := "fe2c6ba93289fe5c3b64f183836277f726402f0be68f38b31ea923d641fa187c", func := "shallot/shallotlaw02.ShaLabels", spec := "shaLabels", apart := false }
def ShaLabelsSaid : Prop := shaLabelsRow.holds Try.pinned (OpenSpec.ofChange shaLabelsSpec)

/-- ITS FALSE NEIGHBOUR: 'it returns false'. Refute it at one input. -/
def shaLabelsWrong : ChangeSpec := { name := "shaLabels", fn := fun _ => fun
  | [d1, d2] => { results := [.lit (.bool false)], args := [d1, d2] }
  | _ => none }
def ShaLabelsWrongFalsely : Prop := shaLabelsRow.holds Try.pinned (OpenSpec.ofChange shaLabelsWrong)

/-- 'shallotlaw02.ShaKeeps': WHATEVER THE INPUT: true; the input reads as it did. -/
def shaKeepsSpec : ChangeSpec := { name := "shaKeeps", fn := fun _ => fun
  | [d1, d2] => { results := [.lit (.bool true)], args := [d1, d2] }
  | _ => none }
def shaKeepsRow : OpenClaim := { program := "ytajhpebefehciaa", sum := "fe2c6ba93289fe5c3b64f183836277f726402f0be68f38b31ea923d641fa187c", func := "shallot/shallotlaw02.ShaKeeps", spec := "shaKeeps", apart := false }
def ShaKeepsSaid : Prop := shaKeepsRow.holds Try.pinned (OpenSpec.ofChange shaKeepsSpec)

/-- ITS FALSE NEIGHBOUR: 'it returns false'. Refute it at one input. -/
def shaKeepsWrong : ChangeSpec := { name := "shaKeeps", fn := fun _ => fun
  | [d1, d2] => { results := [.lit (.bool false)], args := [d1, d2] }
  | _ => none }
def ShaKeepsWrongFalsely : Prop := shaKeepsRow.holds Try.pinned (OpenSpec.ofChange shaKeepsWrong)

/-- 'shallotlaw03.MacKeeps': WHATEVER THE INPUT: true; the input reads as it did. -/
def macKeepsSpec : ChangeSpec := { name := "macKeeps", fn := fun _ => fun
  | [d1, d2] => { results := [.lit (.bool true)], args := [d1, d2] }
  | _ => none }
def macKeepsRow : OpenClaim := { program := "ytajhpebefehciaa", sum := "fe2c6ba93289fe5c3b64f183836277f726402f0be68f38b31ea923d641fa187c", func := "shallot/shallotlaw03.MacKeeps", spec := "macKeeps", apart := false }
def MacKeepsSaid : Prop := macKeepsRow.holds Try.pinned (OpenSpec.ofChange macKeepsSpec)

/-- ITS FALSE NEIGHBOUR: 'it returns false'. Refute it at one input. -/
def macKeepsWrong : ChangeSpec := { name := "macKeeps", fn := fun _ => fun
  | [d1, d2] => { results := [.lit (.bool false)], args := [d1, d2] }
  | _ => none }
def MacKeepsWrongFalsely : Prop := macKeepsRow.holds Try.pinned (OpenSpec.ofChange macKeepsWrong)

/-- 'shallotlaw08.TapeKeeps': WHATEVER THE INPUT: true; the input reads as it did. -/
def tapeKeepsSpec : ChangeSpec := { name := "tapeKeeps", fn := fun _ => fun
  | [d] => { results := [.lit (.bool true)], args := [d] }
  | _ => none }
def tapeKeepsRow : OpenClaim := { program := "ytajhpebefehciaa", sum := "fe2c6ba93289fe5c3b64f183836277f726402f0be68f38b31ea923d641fa187c", func := "shallot/shallotlaw08.TapeKeeps", spec := "tapeKeeps", apart := false }
def TapeKeepsSaid : Prop := tapeKeepsRow.holds Try.pinned (OpenSpec.ofChange tapeKeepsSpec)

/-- ITS FALSE NEIGHBOUR: 'it returns false'. Refute it at one input. -/
def tapeKeepsWrong : ChangeSpec := { name := "tapeKeeps", fn := fun _ => fun
  | [d] => { results := [.lit (.bool false)], args := [d] }
  | _ => none }
def TapeKeepsWrongFalsely : Prop := tapeKeepsRow.holds Try.pinned (OpenSpec.ofChange tapeKeepsWrong)

/-- 'shallottop.ShallotBytes': WHATEVER THE INPUT: true; the input reads as it did. -/
def shallotBytesSpec : ChangeSpec := { name := "shallotBytes", fn := fun _ => fun
  | [d1, d2] => { results := [.lit (.bool true)], args := [d1, d2] }
  | _ => none }
def shallotBytesRow : OpenClaim := { program := "ytajhpebefehciaa", sum := "fe2c6ba93289fe5c3b64f183836277f726402f0be68f38b31ea923d641fa187c", func := "shallot/shallottop.ShallotBytes", spec := "shallotBytes", apart := false }
def ShallotBytesSaid : Prop := shallotBytesRow.holds Try.pinned (OpenSpec.ofChange shallotBytesSpec)

/-- ITS FALSE NEIGHBOUR: 'it returns false'. Refute it at one input. -/
def shallotBytesWrong : ChangeSpec := { name := "shallotBytes", fn := fun _ => fun
  | [d1, d2] => { results := [.lit (.bool false)], args := [d1, d2] }
  | _ => none }
def ShallotBytesWrongFalsely : Prop := shallotBytesRow.holds Try.pinned (OpenSpec.ofChange shallotBytesWrong)

/- THE SECOND FORM. 'bulk': how many values and letters a reading holds, each counted each time it is reached (what is shared counts as often as it is met; a slice's spare places count too). A statement '..UptoSaid' is the law's where the arguments, and the package variables that the reading takes, are together of bulk at most 1048576: NARROWER than '..Said'. Prove '..Said' where nothing that the law and all that it calls make is longer than what came in: it says more and counts as full. Else prove '..UptoSaid'. A law counts once. -/
mutual
def uptoBulk {H : Type} : DataW H → Nat
  | .lit (.string bytes) => bytes.length + 1
  | .lit _ => 1
  | .nil => 1
  | .ptr d => uptoBulk d + 1
  | .slice elems spare => uptoBulkAll elems + uptoBulkAll spare + 1
  | .agg parts => uptoBulkAll parts + 1
  | .iface _ d => uptoBulk d + 1
  | .map entries => uptoBulkEntries entries + 1
  | .held _ => 1
def uptoBulkAll {H : Type} : List (DataW H) → Nat
  | [] => 0
  | d :: r => uptoBulk d + uptoBulkAll r
def uptoBulkEntries {H : Type} : List (Lit × DataW H) → Nat
  | [] => 0
  | x :: r => uptoBulkEntry x + uptoBulkEntries r
def uptoBulkEntry {H : Type} : Lit × DataW H → Nat
  | (.string bytes, d) => bytes.length + uptoBulk d + 1
  | (_, d) => uptoBulk d + 1
 end
def uptoSmall : (H : Type) → List (DataW H) → Bool := fun _ ds => decide (uptoBulkAll ds ≤ 1048576)
def OpenSpec.upto (s : _root_.Go.ChangeSpec) : _root_.Go.OpenSpec := { _root_.Go.OpenSpec.ofChange s with cond := some uptoSmall }

/-- 'shallotlaw01.CodecKeeps', WHERE WHAT IT READS IS OF BULK AT MOST 1048576: true; the input reads as it did. -/
def codecKeepsUptoRow : OpenClaim := { program := "ytajhpebefehciaa", sum := "fe2c6ba93289fe5c3b64f183836277f726402f0be68f38b31ea923d641fa187c", func := "shallot/shallotlaw01.CodecKeeps", spec := "codecKeeps", apart := false, narrowed := true }
def CodecKeepsUptoSaid : Prop := codecKeepsUptoRow.holds Try.pinned (OpenSpec.upto codecKeepsSpec)

/-- 'shallotlaw02.ShaFlows', WHERE WHAT IT READS IS OF BULK AT MOST 1048576: true; the input reads as it did. -/
def shaFlowsUptoRow : OpenClaim := { program := "ytajhpebefehciaa", sum := "fe2c6ba93289fe5c3b64f183836277f726402f0be68f38b31ea923d641fa187c", func := "shallot/shallotlaw02.ShaFlows", spec := "shaFlows", apart := false, narrowed := true }
def ShaFlowsUptoSaid : Prop := shaFlowsUptoRow.holds Try.pinned (OpenSpec.upto shaFlowsSpec)

/-- 'shallotlaw02.ShaLabels', WHERE WHAT IT READS IS OF BULK AT MOST 1048576: true; the input reads as it did. -/
def shaLabelsUptoRow : OpenClaim := { program := "ytajhpebefehciaa", sum := "fe2c6ba93289fe5c3b64f183836277f726402f0be68f38b31ea923d641fa187c", func := "shallot/shallotlaw02.ShaLabels", spec := "shaLabels", apart := false, narrowed := true }
def ShaLabelsUptoSaid : Prop := shaLabelsUptoRow.holds Try.pinned (OpenSpec.upto shaLabelsSpec)

/-- 'shallotlaw02.ShaKeeps', WHERE WHAT IT READS IS OF BULK AT MOST 1048576: true; the input reads as it did. -/
def shaKeepsUptoRow : OpenClaim := { program := "ytajhpebefehciaa", sum := "fe2c6ba93289fe5c3b64f183836277f726402f0be68f38b31ea923d641fa187c", func := "shallot/shallotlaw02.ShaKeeps", spec := "shaKeeps", apart := false, narrowed := true }
def ShaKeepsUptoSaid : Prop := shaKeepsUptoRow.holds Try.pinned (OpenSpec.upto shaKeepsSpec)

/-- 'shallotlaw03.MacKeeps', WHERE WHAT IT READS IS OF BULK AT MOST 1048576: true; the input reads as it did. -/
def macKeepsUptoRow : OpenClaim := { program := "ytajhpebefehciaa", sum := "fe2c6ba93289fe5c3b64f183836277f726402f0be68f38b31ea923d641fa187c", func := "shallot/shallotlaw03.MacKeeps", spec := "macKeeps", apart := false, narrowed := true }
def MacKeepsUptoSaid : Prop := macKeepsUptoRow.holds Try.pinned (OpenSpec.upto macKeepsSpec)

/-- 'shallotlaw08.TapeKeeps', WHERE WHAT IT READS IS OF BULK AT MOST 1048576: true; the input reads as it did. -/
def tapeKeepsUptoRow : OpenClaim := { program := "ytajhpebefehciaa", sum := "fe2c6ba93289fe5c3b64f183836277f726402f0be68f38b31ea923d641fa187c", func := "shallot/shallotlaw08.TapeKeeps", spec := "tapeKeeps", apart := false, narrowed := true }
def TapeKeepsUptoSaid : Prop := tapeKeepsUptoRow.holds Try.pinned (OpenSpec.upto tapeKeepsSpec)

/-- 'shallottop.ShallotBytes', WHERE WHAT IT READS IS OF BULK AT MOST 1048576: true; the input reads as it did. -/
def shallotBytesUptoRow : OpenClaim := { program := "ytajhpebefehciaa", sum := "fe2c6ba93289fe5c3b64f183836277f726402f0be68f38b31ea923d641fa187c", func := "shallot/shallottop.ShallotBytes", spec := "shallotBytes", apart := false, narrowed := true }
def ShallotBytesUptoSaid : Prop := shallotBytesUptoRow.holds Try.pinned (OpenSpec.upto shallotBytesSpec)

end Rows
end Go.Proofs.Ytajhpebefehciaa
