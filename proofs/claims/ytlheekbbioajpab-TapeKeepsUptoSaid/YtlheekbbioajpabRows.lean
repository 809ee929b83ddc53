/-
  No cell of these rows narrows 'for every input' (looked for: loops, veiled, ifaces, maps, wideKeys, modest, calm, conditions, laid).
  DERIVED. THE GIVEN ROWS OF THIS SEAT. 4 by the template 'for every input the law returns true; each argument reads behind the call as it read before'; 0 by the template 'total and deterministic' (their statements: YtlheekbbioajpabTotals.lean).
  GIVEN WITH THE SEED: the statements are not yours to turn. If you find one false, say at which input.
  Laid BY PROGRAM, IN A SANDBOX (cutbox-rows.mjs): the forced cells as the released guide's own fill.sh prints them over the translation 46554cfb3586200d… (all of the seat's roots in one cut). By AI agents, Wed Nov 11 2026. No macro, syntax, notation, axiom, sorry.
-/
import Derived.Test.YtlheekbbioajpabChecked
import GoSem.Claim
import GoSem.ClaimJoined
import GoSem.ClaimMapViews
import Derived.JoinedTies
import Derived.KernelRfl
namespace Go.Proofs.Ytlheekbbioajpab
/- THE CELL 'sum', in the pinned program and in every row, IS THE sha256 OF THE DUMP (.gsa) THAT YtlheekbbioajpabProg.lean LOADS. Nothing in Lean hashes anything: it is a label: what it is worth is what the hold of that sum in a sandbox is worth. -/
noncomputable def Try.pinned : Pinned := { name := "ytlheekbbioajpab", sum := "46554cfb3586200df74fbbfa904f39e9a642b95be3a8bca2478a56ed4e647bd9", checked := Try.checked }
namespace Rows
def none {H : Type} : Left H := { results := [], args := [] }

/-- 'shallotlaw08.TapeDraws': WHATEVER THE INPUT: true; the input reads as it did. -/
def tapeDrawsSpec : ChangeSpec := { name := "tapeDraws", fn := fun _ => fun
  | [d1, d2] => { results := [.lit (.bool true)], args := [d1, d2] }
  | _ => none }
def tapeDrawsRow : OpenClaim := { program := "ytlheekbbioajpab", sum := "46554cfb3586200df74fbbfa904f39e9a642b95be3a8bca2478a56ed4e647bd9", func := "shallot/shallotlaw08.TapeDraws", spec := "tapeDraws", apart := false }
def TapeDrawsSaid : Prop := tapeDrawsRow.holds Try.pinned (OpenSpec.ofChange tapeDrawsSpec)

/-- ITS FALSE NEIGHBOUR: 'it returns false'. Refute it at one input. -/
def tapeDrawsWrong : ChangeSpec := { name := "tapeDraws", fn := fun _ => fun
  | [d1, d2] => { results := [.lit (.bool false)], args := [d1, d2] }
  | _ => none }
def TapeDrawsWrongFalsely : Prop := tapeDrawsRow.holds Try.pinned (OpenSpec.ofChange tapeDrawsWrong)

/-- 'shallotlaw08.TapeClocks': WHATEVER THE INPUT: true; the input reads as it did. -/
def tapeClocksSpec : ChangeSpec := { name := "tapeClocks", fn := fun _ => fun
  | [d] => { results := [.lit (.bool true)], args := [d] }
  | _ => none }
def tapeClocksRow : OpenClaim := { program := "ytlheekbbioajpab", sum := "46554cfb3586200df74fbbfa904f39e9a642b95be3a8bca2478a56ed4e647bd9", func := "shallot/shallotlaw08.TapeClocks", spec := "tapeClocks", apart := false }
def TapeClocksSaid : Prop := tapeClocksRow.holds Try.pinned (OpenSpec.ofChange tapeClocksSpec)

/-- ITS FALSE NEIGHBOUR: 'it returns false'. Refute it at one input. -/
def tapeClocksWrong : ChangeSpec := { name := "tapeClocks", fn := fun _ => fun
  | [d] => { results := [.lit (.bool false)], args := [d] }
  | _ => none }
def TapeClocksWrongFalsely : Prop := tapeClocksRow.holds Try.pinned (OpenSpec.ofChange tapeClocksWrong)

/-- 'shallotlaw08.TapeAcks': WHATEVER THE INPUT: true; the input reads as it did. -/
def tapeAcksSpec : ChangeSpec := { name := "tapeAcks", fn := fun _ => fun
  | [d1, d2, d3] => { results := [.lit (.bool true)], args := [d1, d2, d3] }
  | _ => none }
def tapeAcksRow : OpenClaim := { program := "ytlheekbbioajpab", sum := "46554cfb3586200df74fbbfa904f39e9a642b95be3a8bca2478a56ed4e647bd9", func := "shallot/shallotlaw08.TapeAcks", spec := "tapeAcks", apart := false }
def TapeAcksSaid : Prop := tapeAcksRow.holds Try.pinned (OpenSpec.ofChange tapeAcksSpec)

/-- ITS FALSE NEIGHBOUR: 'it returns false'. Refute it at one input. -/
def tapeAcksWrong : ChangeSpec := { name := "tapeAcks", fn := fun _ => fun
  | [d1, d2, d3] => { results := [.lit (.bool false)], args := [d1, d2, d3] }
  | _ => none }
def TapeAcksWrongFalsely : Prop := tapeAcksRow.holds Try.pinned (OpenSpec.ofChange tapeAcksWrong)

/-- 'shallotlaw08.TapeKeeps': WHATEVER THE INPUT: true; the input reads as it did. -/
def tapeKeepsSpec : ChangeSpec := { name := "tapeKeeps", fn := fun _ => fun
  | [d] => { results := [.lit (.bool true)], args := [d] }
  | _ => none }
def tapeKeepsRow : OpenClaim := { program := "ytlheekbbioajpab", sum := "46554cfb3586200df74fbbfa904f39e9a642b95be3a8bca2478a56ed4e647bd9", func := "shallot/shallotlaw08.TapeKeeps", spec := "tapeKeeps", apart := false }
def TapeKeepsSaid : Prop := tapeKeepsRow.holds Try.pinned (OpenSpec.ofChange tapeKeepsSpec)

/-- ITS FALSE NEIGHBOUR: 'it returns false'. Refute it at one input. -/
def tapeKeepsWrong : ChangeSpec := { name := "tapeKeeps", fn := fun _ => fun
  | [d] => { results := [.lit (.bool false)], args := [d] }
  | _ => none }
def TapeKeepsWrongFalsely : Prop := tapeKeepsRow.holds Try.pinned (OpenSpec.ofChange tapeKeepsWrong)

/- THE SECOND FORM. 'bulk': how many values and letters a reading holds, each counted each time it is reached (what is shared counts as often as it is met; a slice's spare places count too). A statement '..UptoSaid' is the law's where the arguments, and the package variables that the reading takes, are together of bulk at most 1048576: NARROWER than '..Said'. Prove '..Said' where nothing that the law and all that it calls make is longer than what came in: it says more and counts as full. Else prove '..UptoSaid'. A law counts once. -/
mutual
def uptoBulk {H : Type} : DataW H → Nat
  | .lit (.string bytes) => bytes.length + 1
  | .lit _ => 1
  | .nil => 1
  | .ptr d => uptoBulk d + 1
  | .slice elems spare => uptoBulkAll elems + uptoBulkAll spare + 1
  | .agg parts => uptoBulkAll parts + 1
  | .iface _ d => uptoBulk d + 1
  | .map entries => uptoBulkEntries entries + 1
  | .held _ => 1
def uptoBulkAll {H : Type} : List (DataW H) → Nat
  | [] => 0
  | d :: r => uptoBulk d + uptoBulkAll r
def uptoBulkEntries {H : Type} : List (Lit × DataW H) → Nat
  | [] => 0
  | x :: r => uptoBulkEntry x + uptoBulkEntries r
def uptoBulkEntry {H : Type} : Lit × DataW H → Nat
  | (.string bytes, d) => bytes.length + uptoBulk d + 1
  | (_, d) => uptoBulk d + 1
 end
def uptoSmall : (H : Type) → List (DataW H) → Bool := fun _ ds => decide (uptoBulkAll ds ≤ 1048576)
def OpenSpec.upto (s : _root_.Go.ChangeSpec) : _root_.Go.OpenSpec := { _root_.Go.OpenSpec.ofChange s with cond := some uptoSmall }

/-- 'shallotlaw08.TapeDraws', WHERE WHAT IT READS IS OF BULK AT MOST 1048576: true; the input reads as it did. -/
def tapeDrawsUptoRow : OpenClaim := { program := "ytlheekbbioajpab", sum := "46554cfb3586200df74fbbfa904f39e9a642b95be3a8bca2478a56ed4e647bd9", func := "shallot/shallotlaw08.TapeDraws", spec := "tapeDraws", apart := false, narrowed := true }
def TapeDrawsUptoSaid : Prop := tapeDrawsUptoRow.holds Try.pinned (OpenSpec.upto tapeDrawsSpec)

/-- 'shallotlaw08.TapeClocks', WHERE WHAT IT READS IS OF BULK AT MOST 1048576: true; the input reads as it did. -/
def tapeClocksUptoRow : OpenClaim := { program := "ytlheekbbioajpab", sum := "46554cfb3586200df74fbbfa904f39e9a642b95be3a8bca2478a56ed4e647bd9", func := "shallot/shallotlaw08.TapeClocks", spec := "tapeClocks", apart := false, narrowed := true }
def TapeClocksUptoSaid : Prop := tapeClocksUptoRow.holds Try.pinned (OpenSpec.upto tapeClocksSpec)

/-- 'shallotlaw08.TapeAcks', WHERE WHAT IT READS IS OF BULK AT MOST 1048576: true; the input reads as it did. -/
def tapeAcksUptoRow : OpenClaim := { program := "ytlheekbbioajpab", sum := "46554cfb3586200df74fbbfa904f39e9a642b95be3a8bca2478a56ed4e647bd9", func := "shallot/shallotlaw08.TapeAcks", spec := "tapeAcks", apart := false, narrowed := true }
def TapeAcksUptoSaid : Prop := tapeAcksUptoRow.holds Try.pinned (OpenSpec.upto tapeAcksSpec)

/-- 'shallotlaw08.TapeKeeps', WHERE WHAT IT READS IS OF BULK AT MOST 1048576: true; the input reads as it did. -/
def tapeKeepsUptoRow : OpenClaim := { program := "ytlheekbbioajpab", sum := "46554cfb3586200df74fbbfa904f39e9a642b95be3a8bca2478a56ed4e647bd9", func := "shallot/shallotlaw08.TapeKeeps", spec := "tapeKeeps", apart := false, narrowed := true }
def TapeKeepsUptoSaid : Prop := tapeKeepsUptoRow.holds Try.pinned (OpenSpec.upto tapeKeepsSpec)

end Rows
end Go.Proofs.Ytlheekbbioajpab
