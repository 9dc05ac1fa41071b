/-
  No cell of these rows narrows 'for every input' (looked for: loops, veiled, ifaces, maps, wideKeys, modest, calm, conditions, laid).
  DERIVED. THE GIVEN ROWS OF THIS SEAT. 5 by the template 'for every input the law returns true; each argument reads behind the call as it read before'; 0 by the template 'total and deterministic' (their statements: YthhamfgclhiagaaTotals.lean).
  GIVEN WITH THE SEED: the statements are not yours to turn. If you find one false, say at which input.
  Laid BY PROGRAM, IN A SANDBOX (cutbox-rows.mjs): the forced cells as the released guide's own fill.sh prints them over the translation 320a1529f11a9487… (all of the seat's roots in one cut). By AI agents, Wed Nov 11 2026. No macro, syntax, notation, axiom, sorry.
-/
import Derived.Test.YthhamfgclhiagaaChecked
import GoSem.Claim
import GoSem.ClaimJoined
import GoSem.ClaimMapViews
import Derived.JoinedTies
import Derived.KernelRfl
namespace Go.Proofs.Ythhamfgclhiagaa
/- THE CELL 'sum', in the pinned program and in every row, IS THE sha256 OF THE DUMP (.gsa) THAT YthhamfgclhiagaaProg.lean LOADS. Nothing in Lean hashes anything: it is a label: what it is worth is what the hold of that sum in a sandbox is worth. -/
noncomputable def Try.pinned : Pinned := { name := "ythhamfgclhiagaa", sum := "320a1529f11a9487e60dae8bb3e8e8fd1a49ed18c4878b68cd4adf7ddecc8087", checked := Try.checked }
namespace Rows
def none {H : Type} : Left H := { results := [], args := [] }

/-- 'laws.FnExactGoodKeeper': WHATEVER THE INPUT: true; the input reads as it did. -/
def fnExactGoodKeeperSpec : ChangeSpec := { name := "fnExactGoodKeeper", fn := fun _ => fun
  | [d] => { results := [.lit (.bool true)], args := [d] }
  | _ => none }
def fnExactGoodKeeperRow : OpenClaim := { program := "ythhamfgclhiagaa", sum := "320a1529f11a9487e60dae8bb3e8e8fd1a49ed18c4878b68cd4adf7ddecc8087", func := "loop.example/g00145/laws.FnExactGoodKeeper", spec := "fnExactGoodKeeper", apart := false }
def FnExactGoodKeeperSaid : Prop := fnExactGoodKeeperRow.holds Try.pinned (OpenSpec.ofChange fnExactGoodKeeperSpec)

/-- ITS FALSE NEIGHBOUR: 'it returns false'. Refute it at one input. -/
def fnExactGoodKeeperWrong : ChangeSpec := { name := "fnExactGoodKeeper", fn := fun _ => fun
  | [d] => { results := [.lit (.bool false)], args := [d] }
  | _ => none }
def FnExactGoodKeeperWrongFalsely : Prop := fnExactGoodKeeperRow.holds Try.pinned (OpenSpec.ofChange fnExactGoodKeeperWrong)

/-- 'laws.FnExactGoodKeepers': WHATEVER THE INPUT: true; the input reads as it did. -/
def fnExactGoodKeepersSpec : ChangeSpec := { name := "fnExactGoodKeepers", fn := fun _ => fun
  | [d] => { results := [.lit (.bool true)], args := [d] }
  | _ => none }
def fnExactGoodKeepersRow : OpenClaim := { program := "ythhamfgclhiagaa", sum := "320a1529f11a9487e60dae8bb3e8e8fd1a49ed18c4878b68cd4adf7ddecc8087", func := "loop.example/g00145/laws.FnExactGoodKeepers", spec := "fnExactGoodKeepers", apart := false }
def FnExactGoodKeepersSaid : Prop := fnExactGoodKeepersRow.holds Try.pinned (OpenSpec.ofChange fnExactGoodKeepersSpec)

/-- ITS FALSE NEIGHBOUR: 'it returns false'. Refute it at one input. -/
def fnExactGoodKeepersWrong : ChangeSpec := { name := "fnExactGoodKeepers", fn := fun _ => fun
  | [d] => { results := [.lit (.bool false)], args := [d] }
  | _ => none }
def FnExactGoodKeepersWrongFalsely : Prop := fnExactGoodKeepersRow.holds Try.pinned (OpenSpec.ofChange fnExactGoodKeepersWrong)

/-- 'laws.FnExactStopOrder': WHATEVER THE INPUT: true; the input reads as it did. -/
def fnExactStopOrderSpec : ChangeSpec := { name := "fnExactStopOrder", fn := fun _ => fun
  | [d] => { results := [.lit (.bool true)], args := [d] }
  | _ => none }
def fnExactStopOrderRow : OpenClaim := { program := "ythhamfgclhiagaa", sum := "320a1529f11a9487e60dae8bb3e8e8fd1a49ed18c4878b68cd4adf7ddecc8087", func := "loop.example/g00145/laws.FnExactStopOrder", spec := "fnExactStopOrder", recurses := true, apart := false }
def FnExactStopOrderSaid : Prop := fnExactStopOrderRow.holds Try.pinned (OpenSpec.ofChange fnExactStopOrderSpec)

/-- ITS FALSE NEIGHBOUR: 'it returns false'. Refute it at one input. -/
def fnExactStopOrderWrong : ChangeSpec := { name := "fnExactStopOrder", fn := fun _ => fun
  | [d] => { results := [.lit (.bool false)], args := [d] }
  | _ => none }
def FnExactStopOrderWrongFalsely : Prop := fnExactStopOrderRow.holds Try.pinned (OpenSpec.ofChange fnExactStopOrderWrong)

/-- 'laws.FnExactBackoffOf': WHATEVER THE INPUT: true; the input reads as it did. -/
def fnExactBackoffOfSpec : ChangeSpec := { name := "fnExactBackoffOf", fn := fun _ => fun
  | [d1, d2, d3] => { results := [.lit (.bool true)], args := [d1, d2, d3] }
  | _ => none }
def fnExactBackoffOfRow : OpenClaim := { program := "ythhamfgclhiagaa", sum := "320a1529f11a9487e60dae8bb3e8e8fd1a49ed18c4878b68cd4adf7ddecc8087", func := "loop.example/g00145/laws.FnExactBackoffOf", spec := "fnExactBackoffOf", apart := false }
def FnExactBackoffOfSaid : Prop := fnExactBackoffOfRow.holds Try.pinned (OpenSpec.ofChange fnExactBackoffOfSpec)

/-- ITS FALSE NEIGHBOUR: 'it returns false'. Refute it at one input. -/
def fnExactBackoffOfWrong : ChangeSpec := { name := "fnExactBackoffOf", fn := fun _ => fun
  | [d1, d2, d3] => { results := [.lit (.bool false)], args := [d1, d2, d3] }
  | _ => none }
def FnExactBackoffOfWrongFalsely : Prop := fnExactBackoffOfRow.holds Try.pinned (OpenSpec.ofChange fnExactBackoffOfWrong)

/-- 'laws.FnExactGivesUp': WHATEVER THE INPUT: true; the input reads as it did. -/
def fnExactGivesUpSpec : ChangeSpec := { name := "fnExactGivesUp", fn := fun _ => fun
  | [d1, d2, d3] => { results := [.lit (.bool true)], args := [d1, d2, d3] }
  | _ => none }
def fnExactGivesUpRow : OpenClaim := { program := "ythhamfgclhiagaa", sum := "320a1529f11a9487e60dae8bb3e8e8fd1a49ed18c4878b68cd4adf7ddecc8087", func := "loop.example/g00145/laws.FnExactGivesUp", spec := "fnExactGivesUp", apart := false }
def FnExactGivesUpSaid : Prop := fnExactGivesUpRow.holds Try.pinned (OpenSpec.ofChange fnExactGivesUpSpec)

/-- ITS FALSE NEIGHBOUR: 'it returns false'. Refute it at one input. -/
def fnExactGivesUpWrong : ChangeSpec := { name := "fnExactGivesUp", fn := fun _ => fun
  | [d1, d2, d3] => { results := [.lit (.bool false)], args := [d1, d2, d3] }
  | _ => none }
def FnExactGivesUpWrongFalsely : Prop := fnExactGivesUpRow.holds Try.pinned (OpenSpec.ofChange fnExactGivesUpWrong)

/- THE SECOND FORM. 'bulk': how many values and letters a reading holds, each counted each time it is reached (what is shared counts as often as it is met; a slice's spare places count too). A statement '..UptoSaid' is the law's where the arguments, and the package variables that the reading takes, are together of bulk at most 1048576: NARROWER than '..Said'. Prove '..Said' where nothing that the law and all that it calls make is longer than what came in: it says more and counts as full. Else prove '..UptoSaid'. A law counts once. -/
mutual
def uptoBulk {H : Type} : DataW H → Nat
  | .lit (.string bytes) => bytes.length + 1
  | .lit _ => 1
  | .nil => 1
  | .ptr d => uptoBulk d + 1
  | .slice elems spare => uptoBulkAll elems + uptoBulkAll spare + 1
  | .agg parts => uptoBulkAll parts + 1
  | .iface _ d => uptoBulk d + 1
  | .map entries => uptoBulkEntries entries + 1
  | .held _ => 1
def uptoBulkAll {H : Type} : List (DataW H) → Nat
  | [] => 0
  | d :: r => uptoBulk d + uptoBulkAll r
def uptoBulkEntries {H : Type} : List (Lit × DataW H) → Nat
  | [] => 0
  | x :: r => uptoBulkEntry x + uptoBulkEntries r
def uptoBulkEntry {H : Type} : Lit × DataW H → Nat
  | (.string bytes, d) => bytes.length + uptoBulk d + 1
  | (_, d) => uptoBulk d + 1
 end
def uptoSmall : (H : Type) → List (DataW H) → Bool := fun _ ds => decide (uptoBulkAll ds ≤ 1048576)
def OpenSpec.upto (s : _root_.Go.ChangeSpec) : _root_.Go.OpenSpec := { _root_.Go.OpenSpec.ofChange s with cond := some uptoSmall }

/-- 'laws.FnExactGoodKeeper', WHERE WHAT IT READS IS OF BULK AT MOST 1048576: true; the input reads as it did. -/
def fnExactGoodKeeperUptoRow : OpenClaim := { program := "ythhamfgclhiagaa", sum := "320a1529f11a9487e60dae8bb3e8e8fd1a49ed18c4878b68cd4adf7ddecc8087", func := "loop.example/g00145/laws.FnExactGoodKeeper", spec := "fnExactGoodKeeper", apart := false, narrowed := true }
def FnExactGoodKeeperUptoSaid : Prop := fnExactGoodKeeperUptoRow.holds Try.pinned (OpenSpec.upto fnExactGoodKeeperSpec)

/-- 'laws.FnExactGoodKeepers', WHERE WHAT IT READS IS OF BULK AT MOST 1048576: true; the input reads as it did. -/
def fnExactGoodKeepersUptoRow : OpenClaim := { program := "ythhamfgclhiagaa", sum := "320a1529f11a9487e60dae8bb3e8e8fd1a49ed18c4878b68cd4adf7ddecc8087", func := "loop.example/g00145/laws.FnExactGoodKeepers", spec := "fnExactGoodKeepers", apart := false, narrowed := true }
def FnExactGoodKeepersUptoSaid : Prop := fnExactGoodKeepersUptoRow.holds Try.pinned (OpenSpec.upto fnExactGoodKeepersSpec)

/-- 'laws.FnExactStopOrder', WHERE WHAT IT READS IS OF BULK AT MOST 1048576: true; the input reads as it did. -/
def fnExactStopOrderUptoRow : OpenClaim := { program := "ythhamfgclhiagaa", sum := "320a1529f11a9487e60dae8bb3e8e8fd1a49ed18c4878b68cd4adf7ddecc8087", func := "loop.example/g00145/laws.FnExactStopOrder", spec := "fnExactStopOrder", recurses := true, apart := false, narrowed := true }
def FnExactStopOrderUptoSaid : Prop := fnExactStopOrderUptoRow.holds Try.pinned (OpenSpec.upto fnExactStopOrderSpec)

/-- 'laws.FnExactBackoffOf', WHERE WHAT IT READS IS OF BULK AT MOST 1048576: true; the input reads as it did. -/
def fnExactBackoffOfUptoRow : OpenClaim := { program := "ythhamfgclhiagaa", sum := "320a1529f11a9487e60dae8bb3e8e8fd1a49ed18c4878b68cd4adf7ddecc8087", func := "loop.example/g00145/laws.FnExactBackoffOf", spec := "fnExactBackoffOf", apart := false, narrowed := true }
def FnExactBackoffOfUptoSaid : Prop := fnExactBackoffOfUptoRow.holds Try.pinned (OpenSpec.upto fnExactBackoffOfSpec)

/-- 'laws.FnExactGivesUp', WHERE WHAT IT READS IS OF BULK AT MOST 1048576: true; the input reads as it did. -/
def fnExactGivesUpUptoRow : OpenClaim := { program := "ythhamfgclhiagaa", sum := "320a1529f11a9487e60dae8bb3e8e8fd1a49ed18c4878b68cd4adf7ddecc8087", func := "loop.example/g00145/laws.FnExactGivesUp", spec := "fnExactGivesUp", apart := false, narrowed := true }
def FnExactGivesUpUptoSaid : Prop := fnExactGivesUpUptoRow.holds Try.pinned (OpenSpec.upto fnExactGivesUpSpec)

end Rows
end Go.Proofs.Ythhamfgclhiagaa
