/-
  No cell of these rows narrows 'for every input' (looked for: loops, veiled, ifaces, maps, wideKeys, modest, calm, conditions, laid).
  DERIVED. THE GIVEN ROWS OF THIS SEAT. 12 by the template 'for every input the law returns true; each argument reads behind the call as it read before'; 0 by the template 'total and deterministic' (their statements: YtjnnhgpnnjifdaaTotals.lean).
  GIVEN WITH THE SEED: the statements are not yours to turn. If you find one false, say at which input.
  Laid BY PROGRAM, IN A SANDBOX (cutbox-rows.mjs): the forced cells as the released guide's own fill.sh prints them over the translation debb0f5bcab0bdda… (all of the seat's roots in one cut). By AI agents, Wed Nov 11 2026. No macro, syntax, notation, axiom, sorry.
-/
import Derived.Test.YtjnnhgpnnjifdaaChecked
import GoSem.Claim
import GoSem.ClaimJoined
import GoSem.ClaimMapViews
import Derived.JoinedTies
import Derived.KernelRfl
namespace Go.Proofs.Ytjnnhgpnnjifdaa
/- THE CELL 'sum', in the pinned program and in every row, IS THE sha256 OF THE DUMP (.gsa) THAT YtjnnhgpnnjifdaaProg.lean LOADS. Nothing in Lean hashes anything: it is a label: what it is worth is what the hold of that sum in a sandbox is worth. -/
noncomputable def Try.pinned : Pinned := { name := "ytjnnhgpnnjifdaa", sum := "debb0f5bcab0bddae14cf614377c597ca7140f96dd89948f71962bed35295457", checked := Try.checked }
namespace Rows
def none {H : Type} : Left H := { results := [], args := [] }

/-- 'shallotlaw03.MacExpands': WHATEVER THE INPUT: true; the input reads as it did. -/
def macExpandsSpec : ChangeSpec := { name := "macExpands", fn := fun _ => fun
  | [d1, d2, d3] => { results := [.lit (.bool true)], args := [d1, d2, d3] }
  | _ => none }
def macExpandsRow : OpenClaim := { program := "ytjnnhgpnnjifdaa", sum := "debb0f5bcab0bddae14cf614377c597ca7140f96dd89948f71962bed35295457", func := "shallot/shallotlaw03.MacExpands", spec := "macExpands", apart := false }
def MacExpandsSaid : Prop := macExpandsRow.holds Try.pinned (OpenSpec.ofChange macExpandsSpec)

/-- ITS FALSE NEIGHBOUR: 'it returns false'. Refute it at one input. -/
def macExpandsWrong : ChangeSpec := { name := "macExpands", fn := fun _ => fun
  | [d1, d2, d3] => { results := [.lit (.bool false)], args := [d1, d2, d3] }
  | _ => none }
def MacExpandsWrongFalsely : Prop := macExpandsRow.holds Try.pinned (OpenSpec.ofChange macExpandsWrong)

/-- 'shallotlaw03.MacDerives': WHATEVER THE INPUT: true; the input reads as it did. -/
def macDerivesSpec : ChangeSpec := { name := "macDerives", fn := fun _ => fun
  | [d1, d2] => { results := [.lit (.bool true)], args := [d1, d2] }
  | _ => none }
def macDerivesRow : OpenClaim := { program := "ytjnnhgpnnjifdaa", sum := "debb0f5bcab0bddae14cf614377c597ca7140f96dd89948f71962bed35295457", func := "shallot/shallotlaw03.MacDerives", spec := "macDerives", apart := false }
def MacDerivesSaid : Prop := macDerivesRow.holds Try.pinned (OpenSpec.ofChange macDerivesSpec)

/-- ITS FALSE NEIGHBOUR: 'it returns false'. Refute it at one input. -/
def macDerivesWrong : ChangeSpec := { name := "macDerives", fn := fun _ => fun
  | [d1, d2] => { results := [.lit (.bool false)], args := [d1, d2] }
  | _ => none }
def MacDerivesWrongFalsely : Prop := macDerivesRow.holds Try.pinned (OpenSpec.ofChange macDerivesWrong)

/-- 'shallotlaw03.MacTaggers': WHATEVER THE INPUT: true; the input reads as it did. -/
def macTaggersSpec : ChangeSpec := { name := "macTaggers", fn := fun _ => fun
  | [d1, d2] => { results := [.lit (.bool true)], args := [d1, d2] }
  | _ => none }
def macTaggersRow : OpenClaim := { program := "ytjnnhgpnnjifdaa", sum := "debb0f5bcab0bddae14cf614377c597ca7140f96dd89948f71962bed35295457", func := "shallot/shallotlaw03.MacTaggers", spec := "macTaggers", apart := false }
def MacTaggersSaid : Prop := macTaggersRow.holds Try.pinned (OpenSpec.ofChange macTaggersSpec)

/-- ITS FALSE NEIGHBOUR: 'it returns false'. Refute it at one input. -/
def macTaggersWrong : ChangeSpec := { name := "macTaggers", fn := fun _ => fun
  | [d1, d2] => { results := [.lit (.bool false)], args := [d1, d2] }
  | _ => none }
def MacTaggersWrongFalsely : Prop := macTaggersRow.holds Try.pinned (OpenSpec.ofChange macTaggersWrong)

/-- 'shallotlaw04.ChachaBlocks': WHATEVER THE INPUT: true; the input reads as it did. -/
def chachaBlocksSpec : ChangeSpec := { name := "chachaBlocks", fn := fun _ => fun
  | [d1, d2, d3] => { results := [.lit (.bool true)], args := [d1, d2, d3] }
  | _ => none }
def chachaBlocksRow : OpenClaim := { program := "ytjnnhgpnnjifdaa", sum := "debb0f5bcab0bddae14cf614377c597ca7140f96dd89948f71962bed35295457", func := "shallot/shallotlaw04.ChachaBlocks", spec := "chachaBlocks", apart := false }
def ChachaBlocksSaid : Prop := chachaBlocksRow.holds Try.pinned (OpenSpec.ofChange chachaBlocksSpec)

/-- ITS FALSE NEIGHBOUR: 'it returns false'. Refute it at one input. -/
def chachaBlocksWrong : ChangeSpec := { name := "chachaBlocks", fn := fun _ => fun
  | [d1, d2, d3] => { results := [.lit (.bool false)], args := [d1, d2, d3] }
  | _ => none }
def ChachaBlocksWrongFalsely : Prop := chachaBlocksRow.holds Try.pinned (OpenSpec.ofChange chachaBlocksWrong)

/-- 'shallotlaw04.ChachaStreams': WHATEVER THE INPUT: true; the input reads as it did. -/
def chachaStreamsSpec : ChangeSpec := { name := "chachaStreams", fn := fun _ => fun
  | [d1, d2] => { results := [.lit (.bool true)], args := [d1, d2] }
  | _ => none }
def chachaStreamsRow : OpenClaim := { program := "ytjnnhgpnnjifdaa", sum := "debb0f5bcab0bddae14cf614377c597ca7140f96dd89948f71962bed35295457", func := "shallot/shallotlaw04.ChachaStreams", spec := "chachaStreams", apart := false }
def ChachaStreamsSaid : Prop := chachaStreamsRow.holds Try.pinned (OpenSpec.ofChange chachaStreamsSpec)

/-- ITS FALSE NEIGHBOUR: 'it returns false'. Refute it at one input. -/
def chachaStreamsWrong : ChangeSpec := { name := "chachaStreams", fn := fun _ => fun
  | [d1, d2] => { results := [.lit (.bool false)], args := [d1, d2] }
  | _ => none }
def ChachaStreamsWrongFalsely : Prop := chachaStreamsRow.holds Try.pinned (OpenSpec.ofChange chachaStreamsWrong)

/-- 'shallotlaw04.ChachaTurns': WHATEVER THE INPUT: true; the input reads as it did. -/
def chachaTurnsSpec : ChangeSpec := { name := "chachaTurns", fn := fun _ => fun
  | [d1, d2] => { results := [.lit (.bool true)], args := [d1, d2] }
  | _ => none }
def chachaTurnsRow : OpenClaim := { program := "ytjnnhgpnnjifdaa", sum := "debb0f5bcab0bddae14cf614377c597ca7140f96dd89948f71962bed35295457", func := "shallot/shallotlaw04.ChachaTurns", spec := "chachaTurns", apart := false }
def ChachaTurnsSaid : Prop := chachaTurnsRow.holds Try.pinned (OpenSpec.ofChange chachaTurnsSpec)

/-- ITS FALSE NEIGHBOUR: 'it returns false'. Refute it at one input. -/
def chachaTurnsWrong : ChangeSpec := { name := "chachaTurns", fn := fun _ => fun
  | [d1, d2] => { results := [.lit (.bool false)], args := [d1, d2] }
  | _ => none }
def ChachaTurnsWrongFalsely : Prop := chachaTurnsRow.holds Try.pinned (OpenSpec.ofChange chachaTurnsWrong)

/-- 'shallotlaw04.ChachaFlows': WHATEVER THE INPUT: true; the input reads as it did. -/
def chachaFlowsSpec : ChangeSpec := { name := "chachaFlows", fn := fun _ => fun
  | [d1, d2] => { results := [.lit (.bool true)], args := [d1, d2] }
  | _ => none }
def chachaFlowsRow : OpenClaim := { program := "ytjnnhgpnnjifdaa", sum := "debb0f5bcab0bddae14cf614377c597ca7140f96dd89948f71962bed35295457", func := "shallot/shallotlaw04.ChachaFlows", spec := "chachaFlows", apart := false }
def ChachaFlowsSaid : Prop := chachaFlowsRow.holds Try.pinned (OpenSpec.ofChange chachaFlowsSpec)

/-- ITS FALSE NEIGHBOUR: 'it returns false'. Refute it at one input. -/
def chachaFlowsWrong : ChangeSpec := { name := "chachaFlows", fn := fun _ => fun
  | [d1, d2] => { results := [.lit (.bool false)], args := [d1, d2] }
  | _ => none }
def ChachaFlowsWrongFalsely : Prop := chachaFlowsRow.holds Try.pinned (OpenSpec.ofChange chachaFlowsWrong)

/-- 'shallotlaw07.WideRounds': WHATEVER THE INPUT: true; the input reads as it did. -/
def wideRoundsSpec : ChangeSpec := { name := "wideRounds", fn := fun _ => fun
  | [d1, d2, d3] => { results := [.lit (.bool true)], args := [d1, d2, d3] }
  | _ => none }
def wideRoundsRow : OpenClaim := { program := "ytjnnhgpnnjifdaa", sum := "debb0f5bcab0bddae14cf614377c597ca7140f96dd89948f71962bed35295457", func := "shallot/shallotlaw07.WideRounds", spec := "wideRounds", apart := false }
def WideRoundsSaid : Prop := wideRoundsRow.holds Try.pinned (OpenSpec.ofChange wideRoundsSpec)

/-- ITS FALSE NEIGHBOUR: 'it returns false'. Refute it at one input. -/
def wideRoundsWrong : ChangeSpec := { name := "wideRounds", fn := fun _ => fun
  | [d1, d2, d3] => { results := [.lit (.bool false)], args := [d1, d2, d3] }
  | _ => none }
def WideRoundsWrongFalsely : Prop := wideRoundsRow.holds Try.pinned (OpenSpec.ofChange wideRoundsWrong)

/-- 'shallotlaw07.WideSeals': WHATEVER THE INPUT: true; the input reads as it did. -/
def wideSealsSpec : ChangeSpec := { name := "wideSeals", fn := fun _ => fun
  | [d1, d2] => { results := [.lit (.bool true)], args := [d1, d2] }
  | _ => none }
def wideSealsRow : OpenClaim := { program := "ytjnnhgpnnjifdaa", sum := "debb0f5bcab0bddae14cf614377c597ca7140f96dd89948f71962bed35295457", func := "shallot/shallotlaw07.WideSeals", spec := "wideSeals", apart := false }
def WideSealsSaid : Prop := wideSealsRow.holds Try.pinned (OpenSpec.ofChange wideSealsSpec)

/-- ITS FALSE NEIGHBOUR: 'it returns false'. Refute it at one input. -/
def wideSealsWrong : ChangeSpec := { name := "wideSeals", fn := fun _ => fun
  | [d1, d2] => { results := [.lit (.bool false)], args := [d1, d2] }
  | _ => none }
def WideSealsWrongFalsely : Prop := wideSealsRow.holds Try.pinned (OpenSpec.ofChange wideSealsWrong)

/-- 'shallotlaw07.WideAll': WHATEVER THE INPUT: true; the input reads as it did. -/
def wideAllSpec : ChangeSpec := { name := "wideAll", fn := fun _ => fun
  | [d1, d2] => { results := [.lit (.bool true)], args := [d1, d2] }
  | _ => none }
def wideAllRow : OpenClaim := { program := "ytjnnhgpnnjifdaa", sum := "debb0f5bcab0bddae14cf614377c597ca7140f96dd89948f71962bed35295457", func := "shallot/shallotlaw07.WideAll", spec := "wideAll", unfollowed := true, recurses := true, apart := false }
def WideAllSaid : Prop := wideAllRow.holds Try.pinned (OpenSpec.ofChange wideAllSpec)

/-- ITS FALSE NEIGHBOUR: 'it returns false'. Refute it at one input. -/
def wideAllWrong : ChangeSpec := { name := "wideAll", fn := fun _ => fun
  | [d1, d2] => { results := [.lit (.bool false)], args := [d1, d2] }
  | _ => none }
def WideAllWrongFalsely : Prop := wideAllRow.holds Try.pinned (OpenSpec.ofChange wideAllWrong)

/-- 'shallottop.ShallotTags': WHATEVER THE INPUT: true; the input reads as it did. -/
def shallotTagsSpec : ChangeSpec := { name := "shallotTags", fn := fun _ => fun
  | [d1, d2, d3] => { results := [.lit (.bool true)], args := [d1, d2, d3] }
  | _ => none }
def shallotTagsRow : OpenClaim := { program := "ytjnnhgpnnjifdaa", sum := "debb0f5bcab0bddae14cf614377c597ca7140f96dd89948f71962bed35295457", func := "shallot/shallottop.ShallotTags", spec := "shallotTags", apart := false }
def ShallotTagsSaid : Prop := shallotTagsRow.holds Try.pinned (OpenSpec.ofChange shallotTagsSpec)

/-- ITS FALSE NEIGHBOUR: 'it returns false'. Refute it at one input. -/
def shallotTagsWrong : ChangeSpec := { name := "shallotTags", fn := fun _ => fun
  | [d1, d2, d3] => { results := [.lit (.bool false)], args := [d1, d2, d3] }
  | _ => none }
def ShallotTagsWrongFalsely : Prop := shallotTagsRow.holds Try.pinned (OpenSpec.ofChange shallotTagsWrong)

/-- 'shallottop.ShallotLayers': WHATEVER THE INPUT: true; the input reads as it did. -/
def shallotLayersSpec : ChangeSpec := { name := "shallotLayers", fn := fun _ => fun
  | [d1, d2, d3] => { results := [.lit (.bool true)], args := [d1, d2, d3] }
  | _ => none }
def shallotLayersRow : OpenClaim := { program := "ytjnnhgpnnjifdaa", sum := "debb0f5bcab0bddae14cf614377c597ca7140f96dd89948f71962bed35295457", func := "shallot/shallottop.ShallotLayers", spec := "shallotLayers", unfollowed := true, recurses := true, apart := false }
def ShallotLayersSaid : Prop := shallotLayersRow.holds Try.pinned (OpenSpec.ofChange shallotLayersSpec)

/-- ITS FALSE NEIGHBOUR: 'it returns false'. Refute it at one input. -/
def shallotLayersWrong : ChangeSpec := { name := "shallotLayers", fn := fun _ => fun
  | [d1, d2, d3] => { results := [.lit (.bool false)], args := [d1, d2, d3] }
  | _ => none }
def ShallotLayersWrongFalsely : Prop := shallotLayersRow.holds Try.pinned (OpenSpec.ofChange shallotLayersWrong)

/- THE SECOND FORM. 'bulk': how many values and letters a reading holds, each counted each time it is reached (what is shared counts as often as it is met; a slice's spare places count too). A statement '..UptoSaid' is the law's where the arguments, and the package variables that the reading takes, are together of bulk at most 1048576: NARROWER than '..Said'. Prove '..Said' where nothing that the law and all that it calls make is longer than what came in: it says more and counts as full. Else prove '..UptoSaid'. A law counts once. -/
mutual
def uptoBulk {H : Type} : DataW H → Nat
  | .lit (.string bytes) => bytes.length + 1
  | .lit _ => 1
  | .nil => 1
  | .ptr d => uptoBulk d + 1
  | .slice elems spare => uptoBulkAll elems + uptoBulkAll spare + 1
  | .agg parts => uptoBulkAll parts + 1
  | .iface _ d => uptoBulk d + 1
  | .map entries => uptoBulkEntries entries + 1
  | .held _ => 1
def uptoBulkAll {H : Type} : List (DataW H) → Nat
  | [] => 0
  | d :: r => uptoBulk d + uptoBulkAll r
def uptoBulkEntries {H : Type} : List (Lit × DataW H) → Nat
  | [] => 0
  | x :: r => uptoBulkEntry x + uptoBulkEntries r
def uptoBulkEntry {H : Type} : Lit × DataW H → Nat
  | (.string bytes, d) => bytes.length + uptoBulk d + 1
  | (_, d) => uptoBulk d + 1
 end
def uptoSmall : (H : Type) → List (DataW H) → Bool := fun _ ds => decide (uptoBulkAll ds ≤ 1048576)
def OpenSpec.upto (s : _root_.Go.ChangeSpec) : _root_.Go.OpenSpec := { _root_.Go.OpenSpec.ofChange s with cond := some uptoSmall }

/-- 'shallotlaw03.MacExpands', WHERE WHAT IT READS IS OF BULK AT MOST 1048576: true; the input reads as it did. -/
def macExpandsUptoRow : OpenClaim := { program := "ytjnnhgpnnjifdaa", sum := "debb0f5bcab0bddae14cf614377c597ca7140f96dd89948f71962bed35295457", func := "shallot/shallotlaw03.MacExpands", spec := "macExpands", apart := false, narrowed := true }
def MacExpandsUptoSaid : Prop := macExpandsUptoRow.holds Try.pinned (OpenSpec.upto macExpandsSpec)

/-- 'shallotlaw03.MacDerives', WHERE WHAT IT READS IS OF BULK AT MOST 1048576: true; the input reads as it did. -/
def macDerivesUptoRow : OpenClaim := { program := "ytjnnhgpnnjifdaa", sum := "debb0f5bcab0bddae14cf614377c597ca7140f96dd89948f71962bed35295457", func := "shallot/shallotlaw03.MacDerives", spec := "macDerives", apart := false, narrowed := true }
def MacDerivesUptoSaid : Prop := macDerivesUptoRow.holds Try.pinned (OpenSpec.upto macDerivesSpec)

/-- 'shallotlaw03.MacTaggers', WHERE WHAT IT READS IS OF BULK AT MOST 1048576: true; the input reads as it did. -/
def macTaggersUptoRow : OpenClaim := { program := "ytjnnhgpnnjifdaa", sum := "debb0f5bcab0bddae14cf614377c597ca7140f96dd89948f71962bed35295457", func := "shallot/shallotlaw03.MacTaggers", spec := "macTaggers", apart := false, narrowed := true }
def MacTaggersUptoSaid : Prop := macTaggersUptoRow.holds Try.pinned (OpenSpec.upto macTaggersSpec)

/-- 'shallotlaw04.ChachaBlocks', WHERE WHAT IT READS IS OF BULK AT MOST 1048576: true; the input reads as it did. -/
def chachaBlocksUptoRow : OpenClaim := { program := "ytjnnhgpnnjifdaa", sum := "debb0f5bcab0bddae14cf614377c597ca7140f96dd89948f71962bed35295457", func := "shallot/shallotlaw04.ChachaBlocks", spec := "chachaBlocks", apart := false, narrowed := true }
def ChachaBlocksUptoSaid : Prop := chachaBlocksUptoRow.holds Try.pinned (OpenSpec.upto chachaBlocksSpec)

/-- 'shallotlaw04.ChachaStreams', WHERE WHAT IT READS IS OF BULK AT MOST 1048576: true; the input reads as it did. -/
def chachaStreamsUptoRow : OpenClaim := { program := "ytjnnhgpnnjifdaa", sum := "debb0f5bcab0bddae14cf614377c597ca7140f96dd89948f71962bed35295457", func := "shallot/shallotlaw04.ChachaStreams", spec := "chachaStreams", apart := false, narrowed := true }
def ChachaStreamsUptoSaid : Prop := chachaStreamsUptoRow.holds Try.pinned (OpenSpec.upto chachaStreamsSpec)

/-- 'shallotlaw04.ChachaTurns', WHERE WHAT IT READS IS OF BULK AT MOST 1048576: true; the input reads as it did. -/
def chachaTurnsUptoRow : OpenClaim := { program := "ytjnnhgpnnjifdaa", sum := "debb0f5bcab0bddae14cf614377c597ca7140f96dd89948f71962bed35295457", func := "shallot/shallotlaw04.ChachaTurns", spec := "chachaTurns", apart := false, narrowed := true }
def ChachaTurnsUptoSaid : Prop := chachaTurnsUptoRow.holds Try.pinned (OpenSpec.upto chachaTurnsSpec)

/-- 'shallotlaw04.ChachaFlows', WHERE WHAT IT READS IS OF BULK AT MOST 1048576: true; the input reads as it did. -/
def chachaFlowsUptoRow : OpenClaim := { program := "ytjnnhgpnnjifdaa", sum := "debb0f5bcab0bddae14cf614377c597ca7140f96dd89948f71962bed35295457", func := "shallot/shallotlaw04.ChachaFlows", spec := "chachaFlows", apart := false, narrowed := true }
def ChachaFlowsUptoSaid : Prop := chachaFlowsUptoRow.holds Try.pinned (OpenSpec.upto chachaFlowsSpec)

/-- 'shallotlaw07.WideRounds', WHERE WHAT IT READS IS OF BULK AT MOST 1048576: true; the input reads as it did. -/
def wideRoundsUptoRow : OpenClaim := { program := "ytjnnhgpnnjifdaa", sum := "debb0f5bcab0bddae14cf614377c597ca7140f96dd89948f71962bed35295457", func := "shallot/shallotlaw07.WideRounds", spec := "wideRounds", apart := false, narrowed := true }
def WideRoundsUptoSaid : Prop := wideRoundsUptoRow.holds Try.pinned (OpenSpec.upto wideRoundsSpec)

/-- 'shallotlaw07.WideSeals', WHERE WHAT IT READS IS OF BULK AT MOST 1048576: true; the input reads as it did. -/
def wideSealsUptoRow : OpenClaim := { program := "ytjnnhgpnnjifdaa", sum := "debb0f5bcab0bddae14cf614377c597ca7140f96dd89948f71962bed35295457", func := "shallot/shallotlaw07.WideSeals", spec := "wideSeals", apart := false, narrowed := true }
def WideSealsUptoSaid : Prop := wideSealsUptoRow.holds Try.pinned (OpenSpec.upto wideSealsSpec)

/-- 'shallotlaw07.WideAll', WHERE WHAT IT READS IS OF BULK AT MOST 1048576: true; the input reads as it did. -/
def wideAllUptoRow : OpenClaim := { program := "ytjnnhgpnnjifdaa", sum := "debb0f5bcab0bddae14cf614377c597ca7140f96dd89948f71962bed35295457", func := "shallot/shallotlaw07.WideAll", spec := "wideAll", unfollowed := true, recurses := true, apart := false, narrowed := true }
def WideAllUptoSaid : Prop := wideAllUptoRow.holds Try.pinned (OpenSpec.upto wideAllSpec)

/-- 'shallottop.ShallotTags', WHERE WHAT IT READS IS OF BULK AT MOST 1048576: true; the input reads as it did. -/
def shallotTagsUptoRow : OpenClaim := { program := "ytjnnhgpnnjifdaa", sum := "debb0f5bcab0bddae14cf614377c597ca7140f96dd89948f71962bed35295457", func := "shallot/shallottop.ShallotTags", spec := "shallotTags", apart := false, narrowed := true }
def ShallotTagsUptoSaid : Prop := shallotTagsUptoRow.holds Try.pinned (OpenSpec.upto shallotTagsSpec)

/-- 'shallottop.ShallotLayers', WHERE WHAT IT READS IS OF BULK AT MOST 1048576: true; the input reads as it did. -/
def shallotLayersUptoRow : OpenClaim := { program := "ytjnnhgpnnjifdaa", sum := "debb0f5bcab0bddae14cf614377c597ca7140f96dd89948f71962bed35295457", func := "shallot/shallottop.ShallotLayers", spec := "shallotLayers", unfollowed := true, recurses := true, apart := false, narrowed := true }
def ShallotLayersUptoSaid : Prop := shallotLayersUptoRow.holds Try.pinned (OpenSpec.upto shallotLayersSpec)

end Rows
end Go.Proofs.Ytjnnhgpnnjifdaa
