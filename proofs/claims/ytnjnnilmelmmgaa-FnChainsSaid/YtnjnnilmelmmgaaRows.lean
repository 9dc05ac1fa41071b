/-
  No cell of these rows narrows 'for every input' (looked for: loops, veiled, ifaces, maps, wideKeys, modest, calm, conditions, laid).
  DERIVED. THE GIVEN ROWS OF THIS SEAT. 7 by the template 'for every input the law returns true; each argument reads behind the call as it read before'; 0 by the template 'total and deterministic' (their statements: YtnjnnilmelmmgaaTotals.lean).
  GIVEN WITH THE SEED: the statements are not yours to turn. If you find one false, say at which input.
  Laid BY PROGRAM, IN A SANDBOX (cutbox-rows.mjs): the forced cells as the released guide's own fill.sh prints them over the translation 24767ac447ee2d68… (all of the seat's roots in one cut). By AI agents, Wed Nov 11 2026. No macro, syntax, notation, axiom, sorry.
-/
import Derived.Test.YtnjnnilmelmmgaaChecked
import GoSem.Claim
import GoSem.ClaimJoined
import GoSem.ClaimMapViews
import Derived.JoinedTies
import Derived.KernelRfl
namespace Go.Proofs.Ytnjnnilmelmmgaa
/- THE CELL 'sum', in the pinned program and in every row, IS THE sha256 OF THE DUMP (.gsa) THAT YtnjnnilmelmmgaaProg.lean LOADS. Nothing in Lean hashes anything: it is a label: what it is worth is what the hold of that sum in a sandbox is worth. -/
noncomputable def Try.pinned : Pinned := { name := "ytnjnnilmelmmgaa", sum := "24767ac447ee2d68c0c84f2657734b3f2ac7e3864dbb3532386fe7ae74152408", checked := Try.checked }
namespace Rows
def none {H : Type} : Left H := { results := [], args := [] }

/-- 'laws.FnExactGoodStage': WHATEVER THE INPUT: true; the input reads as it did. -/
def fnExactGoodStageSpec : ChangeSpec := { name := "fnExactGoodStage", fn := fun _ => fun
  | [d] => { results := [.lit (.bool true)], args := [d] }
  | _ => none }
def fnExactGoodStageRow : OpenClaim := { program := "ytnjnnilmelmmgaa", sum := "24767ac447ee2d68c0c84f2657734b3f2ac7e3864dbb3532386fe7ae74152408", func := "loop.example/g00145/laws.FnExactGoodStage", spec := "fnExactGoodStage", unfollowed := true, recurses := true, apart := false }
def FnExactGoodStageSaid : Prop := fnExactGoodStageRow.holds Try.pinned (OpenSpec.ofChange fnExactGoodStageSpec)

/-- ITS FALSE NEIGHBOUR: 'it returns false'. Refute it at one input. -/
def fnExactGoodStageWrong : ChangeSpec := { name := "fnExactGoodStage", fn := fun _ => fun
  | [d] => { results := [.lit (.bool false)], args := [d] }
  | _ => none }
def FnExactGoodStageWrongFalsely : Prop := fnExactGoodStageRow.holds Try.pinned (OpenSpec.ofChange fnExactGoodStageWrong)

/-- 'laws.FnExactApplyStage': WHATEVER THE INPUT: true; the input reads as it did. -/
def fnExactApplyStageSpec : ChangeSpec := { name := "fnExactApplyStage", fn := fun _ => fun
  | [d1, d2] => { results := [.lit (.bool true)], args := [d1, d2] }
  | _ => none }
def fnExactApplyStageRow : OpenClaim := { program := "ytnjnnilmelmmgaa", sum := "24767ac447ee2d68c0c84f2657734b3f2ac7e3864dbb3532386fe7ae74152408", func := "loop.example/g00145/laws.FnExactApplyStage", spec := "fnExactApplyStage", unfollowed := true, recurses := true, apart := false }
def FnExactApplyStageSaid : Prop := fnExactApplyStageRow.holds Try.pinned (OpenSpec.ofChange fnExactApplyStageSpec)

/-- ITS FALSE NEIGHBOUR: 'it returns false'. Refute it at one input. -/
def fnExactApplyStageWrong : ChangeSpec := { name := "fnExactApplyStage", fn := fun _ => fun
  | [d1, d2] => { results := [.lit (.bool false)], args := [d1, d2] }
  | _ => none }
def FnExactApplyStageWrongFalsely : Prop := fnExactApplyStageRow.holds Try.pinned (OpenSpec.ofChange fnExactApplyStageWrong)

/-- 'laws.FnExactApplyChain': WHATEVER THE INPUT: true; the input reads as it did. -/
def fnExactApplyChainSpec : ChangeSpec := { name := "fnExactApplyChain", fn := fun _ => fun
  | [d1, d2] => { results := [.lit (.bool true)], args := [d1, d2] }
  | _ => none }
def fnExactApplyChainRow : OpenClaim := { program := "ytnjnnilmelmmgaa", sum := "24767ac447ee2d68c0c84f2657734b3f2ac7e3864dbb3532386fe7ae74152408", func := "loop.example/g00145/laws.FnExactApplyChain", spec := "fnExactApplyChain", unfollowed := true, recurses := true, apart := false }
def FnExactApplyChainSaid : Prop := fnExactApplyChainRow.holds Try.pinned (OpenSpec.ofChange fnExactApplyChainSpec)

/-- ITS FALSE NEIGHBOUR: 'it returns false'. Refute it at one input. -/
def fnExactApplyChainWrong : ChangeSpec := { name := "fnExactApplyChain", fn := fun _ => fun
  | [d1, d2] => { results := [.lit (.bool false)], args := [d1, d2] }
  | _ => none }
def FnExactApplyChainWrongFalsely : Prop := fnExactApplyChainRow.holds Try.pinned (OpenSpec.ofChange fnExactApplyChainWrong)

/-- 'laws.FnExactFactorOf': WHATEVER THE INPUT: true; the input reads as it did. -/
def fnExactFactorOfSpec : ChangeSpec := { name := "fnExactFactorOf", fn := fun _ => fun
  | [d] => { results := [.lit (.bool true)], args := [d] }
  | _ => none }
def fnExactFactorOfRow : OpenClaim := { program := "ytnjnnilmelmmgaa", sum := "24767ac447ee2d68c0c84f2657734b3f2ac7e3864dbb3532386fe7ae74152408", func := "loop.example/g00145/laws.FnExactFactorOf", spec := "fnExactFactorOf", unfollowed := true, recurses := true, apart := false }
def FnExactFactorOfSaid : Prop := fnExactFactorOfRow.holds Try.pinned (OpenSpec.ofChange fnExactFactorOfSpec)

/-- ITS FALSE NEIGHBOUR: 'it returns false'. Refute it at one input. -/
def fnExactFactorOfWrong : ChangeSpec := { name := "fnExactFactorOf", fn := fun _ => fun
  | [d] => { results := [.lit (.bool false)], args := [d] }
  | _ => none }
def FnExactFactorOfWrongFalsely : Prop := fnExactFactorOfRow.holds Try.pinned (OpenSpec.ofChange fnExactFactorOfWrong)

/-- 'laws.FnExactSplitTurn': WHATEVER THE INPUT: true; the input reads as it did. -/
def fnExactSplitTurnSpec : ChangeSpec := { name := "fnExactSplitTurn", fn := fun _ => fun
  | [d1, d2, d3] => { results := [.lit (.bool true)], args := [d1, d2, d3] }
  | _ => none }
def fnExactSplitTurnRow : OpenClaim := { program := "ytnjnnilmelmmgaa", sum := "24767ac447ee2d68c0c84f2657734b3f2ac7e3864dbb3532386fe7ae74152408", func := "loop.example/g00145/laws.FnExactSplitTurn", spec := "fnExactSplitTurn", apart := false }
def FnExactSplitTurnSaid : Prop := fnExactSplitTurnRow.holds Try.pinned (OpenSpec.ofChange fnExactSplitTurnSpec)

/-- ITS FALSE NEIGHBOUR: 'it returns false'. Refute it at one input. -/
def fnExactSplitTurnWrong : ChangeSpec := { name := "fnExactSplitTurn", fn := fun _ => fun
  | [d1, d2, d3] => { results := [.lit (.bool false)], args := [d1, d2, d3] }
  | _ => none }
def FnExactSplitTurnWrongFalsely : Prop := fnExactSplitTurnRow.holds Try.pinned (OpenSpec.ofChange fnExactSplitTurnWrong)

/-- 'laws.FnExactMergeFair': WHATEVER THE INPUT: true; the input reads as it did. -/
def fnExactMergeFairSpec : ChangeSpec := { name := "fnExactMergeFair", fn := fun _ => fun
  | [d1, d2] => { results := [.lit (.bool true)], args := [d1, d2] }
  | _ => none }
def fnExactMergeFairRow : OpenClaim := { program := "ytnjnnilmelmmgaa", sum := "24767ac447ee2d68c0c84f2657734b3f2ac7e3864dbb3532386fe7ae74152408", func := "loop.example/g00145/laws.FnExactMergeFair", spec := "fnExactMergeFair", apart := false }
def FnExactMergeFairSaid : Prop := fnExactMergeFairRow.holds Try.pinned (OpenSpec.ofChange fnExactMergeFairSpec)

/-- ITS FALSE NEIGHBOUR: 'it returns false'. Refute it at one input. -/
def fnExactMergeFairWrong : ChangeSpec := { name := "fnExactMergeFair", fn := fun _ => fun
  | [d1, d2] => { results := [.lit (.bool false)], args := [d1, d2] }
  | _ => none }
def FnExactMergeFairWrongFalsely : Prop := fnExactMergeFairRow.holds Try.pinned (OpenSpec.ofChange fnExactMergeFairWrong)

/-- 'laws.FnChains': WHATEVER THE INPUT: true; the input reads as it did. -/
def fnChainsSpec : ChangeSpec := { name := "fnChains", fn := fun _ => fun
  | [d1, d2] => { results := [.lit (.bool true)], args := [d1, d2] }
  | _ => none }
def fnChainsRow : OpenClaim := { program := "ytnjnnilmelmmgaa", sum := "24767ac447ee2d68c0c84f2657734b3f2ac7e3864dbb3532386fe7ae74152408", func := "loop.example/g00145/laws.FnChains", spec := "fnChains", unfollowed := true, recurses := true, apart := false }
def FnChainsSaid : Prop := fnChainsRow.holds Try.pinned (OpenSpec.ofChange fnChainsSpec)

/-- ITS FALSE NEIGHBOUR: 'it returns false'. Refute it at one input. -/
def fnChainsWrong : ChangeSpec := { name := "fnChains", fn := fun _ => fun
  | [d1, d2] => { results := [.lit (.bool false)], args := [d1, d2] }
  | _ => none }
def FnChainsWrongFalsely : Prop := fnChainsRow.holds Try.pinned (OpenSpec.ofChange fnChainsWrong)

/- THE SECOND FORM. 'bulk': how many values and letters a reading holds, each counted each time it is reached (what is shared counts as often as it is met; a slice's spare places count too). A statement '..UptoSaid' is the law's where the arguments, and the package variables that the reading takes, are together of bulk at most 1048576: NARROWER than '..Said'. Prove '..Said' where nothing that the law and all that it calls make is longer than what came in: it says more and counts as full. Else prove '..UptoSaid'. A law counts once. -/
mutual
def uptoBulk {H : Type} : DataW H → Nat
  | .lit (.string bytes) => bytes.length + 1
  | .lit _ => 1
  | .nil => 1
  | .ptr d => uptoBulk d + 1
  | .slice elems spare => uptoBulkAll elems + uptoBulkAll spare + 1
  | .agg parts => uptoBulkAll parts + 1
  | .iface _ d => uptoBulk d + 1
  | .map entries => uptoBulkEntries entries + 1
  | .held _ => 1
def uptoBulkAll {H : Type} : List (DataW H) → Nat
  | [] => 0
  | d :: r => uptoBulk d + uptoBulkAll r
def uptoBulkEntries {H : Type} : List (Lit × DataW H) → Nat
  | [] => 0
  | x :: r => uptoBulkEntry x + uptoBulkEntries r
def uptoBulkEntry {H : Type} : Lit × DataW H → Nat
  | (.string bytes, d) => bytes.length + uptoBulk d + 1
  | (_, d) => uptoBulk d + 1
 end
def uptoSmall : (H : Type) → List (DataW H) → Bool := fun _ ds => decide (uptoBulkAll ds ≤ 1048576)
def OpenSpec.upto (s : _root_.Go.ChangeSpec) : _root_.Go.OpenSpec := { _root_.Go.OpenSpec.ofChange s with cond := some uptoSmall }

/-- 'laws.FnExactGoodStage', WHERE WHAT IT READS IS OF BULK AT MOST 1048576: true; the input reads as it did. -/
def fnExactGoodStageUptoRow : OpenClaim := { program := "ytnjnnilmelmmgaa", sum := "24767ac447ee2d68c0c84f2657734b3f2ac7e3864dbb3532386fe7ae74152408", func := "loop.example/g00145/laws.FnExactGoodStage", spec := "fnExactGoodStage", unfollowed := true, recurses := true, apart := false, narrowed := true }
def FnExactGoodStageUptoSaid : Prop := fnExactGoodStageUptoRow.holds Try.pinned (OpenSpec.upto fnExactGoodStageSpec)

/-- 'laws.FnExactApplyStage', WHERE WHAT IT READS IS OF BULK AT MOST 1048576: true; the input reads as it did. -/
def fnExactApplyStageUptoRow : OpenClaim := { program := "ytnjnnilmelmmgaa", sum := "24767ac447ee2d68c0c84f2657734b3f2ac7e3864dbb3532386fe7ae74152408", func := "loop.example/g00145/laws.FnExactApplyStage", spec := "fnExactApplyStage", unfollowed := true, recurses := true, apart := false, narrowed := true }
def FnExactApplyStageUptoSaid : Prop := fnExactApplyStageUptoRow.holds Try.pinned (OpenSpec.upto fnExactApplyStageSpec)

/-- 'laws.FnExactApplyChain', WHERE WHAT IT READS IS OF BULK AT MOST 1048576: true; the input reads as it did. -/
def fnExactApplyChainUptoRow : OpenClaim := { program := "ytnjnnilmelmmgaa", sum := "24767ac447ee2d68c0c84f2657734b3f2ac7e3864dbb3532386fe7ae74152408", func := "loop.example/g00145/laws.FnExactApplyChain", spec := "fnExactApplyChain", unfollowed := true, recurses := true, apart := false, narrowed := true }
def FnExactApplyChainUptoSaid : Prop := fnExactApplyChainUptoRow.holds Try.pinned (OpenSpec.upto fnExactApplyChainSpec)

/-- 'laws.FnExactFactorOf', WHERE WHAT IT READS IS OF BULK AT MOST 1048576: true; the input reads as it did. -/
def fnExactFactorOfUptoRow : OpenClaim := { program := "ytnjnnilmelmmgaa", sum := "24767ac447ee2d68c0c84f2657734b3f2ac7e3864dbb3532386fe7ae74152408", func := "loop.example/g00145/laws.FnExactFactorOf", spec := "fnExactFactorOf", unfollowed := true, recurses := true, apart := false, narrowed := true }
def FnExactFactorOfUptoSaid : Prop := fnExactFactorOfUptoRow.holds Try.pinned (OpenSpec.upto fnExactFactorOfSpec)

/-- 'laws.FnExactSplitTurn', WHERE WHAT IT READS IS OF BULK AT MOST 1048576: true; the input reads as it did. -/
def fnExactSplitTurnUptoRow : OpenClaim := { program := "ytnjnnilmelmmgaa", sum := "24767ac447ee2d68c0c84f2657734b3f2ac7e3864dbb3532386fe7ae74152408", func := "loop.example/g00145/laws.FnExactSplitTurn", spec := "fnExactSplitTurn", apart := false, narrowed := true }
def FnExactSplitTurnUptoSaid : Prop := fnExactSplitTurnUptoRow.holds Try.pinned (OpenSpec.upto fnExactSplitTurnSpec)

/-- 'laws.FnExactMergeFair', WHERE WHAT IT READS IS OF BULK AT MOST 1048576: true; the input reads as it did. -/
def fnExactMergeFairUptoRow : OpenClaim := { program := "ytnjnnilmelmmgaa", sum := "24767ac447ee2d68c0c84f2657734b3f2ac7e3864dbb3532386fe7ae74152408", func := "loop.example/g00145/laws.FnExactMergeFair", spec := "fnExactMergeFair", apart := false, narrowed := true }
def FnExactMergeFairUptoSaid : Prop := fnExactMergeFairUptoRow.holds Try.pinned (OpenSpec.upto fnExactMergeFairSpec)

/-- 'laws.FnChains', WHERE WHAT IT READS IS OF BULK AT MOST 1048576: true; the input reads as it did. -/
def fnChainsUptoRow : OpenClaim := { program := "ytnjnnilmelmmgaa", sum := "24767ac447ee2d68c0c84f2657734b3f2ac7e3864dbb3532386fe7ae74152408", func := "loop.example/g00145/laws.FnChains", spec := "fnChains", unfollowed := true, recurses := true, apart := false, narrowed := true }
def FnChainsUptoSaid : Prop := fnChainsUptoRow.holds Try.pinned (OpenSpec.upto fnChainsSpec)

end Rows
end Go.Proofs.Ytnjnnilmelmmgaa
