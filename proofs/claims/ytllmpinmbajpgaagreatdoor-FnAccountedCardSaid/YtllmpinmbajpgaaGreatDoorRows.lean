/-
  NARROWER THAN 'FOR EVERY INPUT', by the rows' own cells (each row's printed sentence says how): FnAccounted: ifaces, laid · FnRunOut: ifaces, laid.
  DERIVED. THE GIVEN ROWS OF THIS SEAT. 2 by the template 'for every input the law returns true; each argument reads behind the call as it read before'; 0 by the template 'total and deterministic' (their statements: YtllmpinmbajpgaaGreatDoorTotals.lean).
  GIVEN WITH THE SEED: the statements are not yours to turn. If you find one false, say at which input.
  Laid BY PROGRAM, IN A SANDBOX (cutbox-rows.mjs): the forced cells as the released guide's own fill.sh prints them over the translation 950d901ff3ee0adf… (all of the seat's roots in one cut). By AI agents, Wed Nov 11 2026. No macro, syntax, notation, axiom, sorry.
-/
import Derived.Test.YtllmpinmbajpgaaGreatDoorChecked
import GoSem.Claim
import GoSem.ClaimJoined
import GoSem.ClaimMapViews
import Derived.JoinedTies
import Derived.KernelRfl
namespace Go.Proofs.YtllmpinmbajpgaaGreatDoor
/- THE CELL 'sum', in the pinned program and in every row, IS THE sha256 OF THE DUMP (.gsa) THAT YtllmpinmbajpgaaGreatDoorProg.lean LOADS. Nothing in Lean hashes anything: it is a label: what it is worth is what the hold of that sum in a sandbox is worth. -/
noncomputable def Tryz.pinned : Pinned := { name := "ytllmpinmbajpgaagreatdoor", sum := "950d901ff3ee0adf53fb5c0739105d529f349d02e5a3b4c6fc84fc5cce1c327c", checked := Tryz.checked }
namespace Rows
def none {H : Type} : Left H := { results := [], args := [] }

/- WHAT THE LISTED PACKAGE-LEVEL VARIABLES READ AS WHEN THE CALL BEGINS. Each datum BY PROGRAM (the guide's laid-datum.mjs) off the statement by which the dump's own 'gosem.cut.vars' lays the variable. In a bare row this is a premise. The card (YtllmpinmbajpgaaGreatDoorCards.lean) ties it to the program's text. -/
def laid_loop_example_g00145_impl_errMany {H : Type} : DataW H := .iface "*errors.errorString" (.ptr (.agg [.lit (.string [110, 111, 32, 110, 111, 100, 101, 115, 44, 32, 111, 114, 32, 116, 111, 111, 32, 109, 97, 110, 121])]))
def laid_loop_example_g00145_impl_errName {H : Type} : DataW H := .iface "*errors.errorString" (.ptr (.agg [.lit (.string [116, 104, 101, 32, 110, 97, 109, 101, 32, 105, 115, 32, 110, 111, 110, 101])]))
def laid_loop_example_g00145_impl_errTwice {H : Type} : DataW H := .iface "*errors.errorString" (.ptr (.agg [.lit (.string [97, 110, 111, 116, 104, 101, 114, 32, 111, 110, 101, 32, 104, 97, 115, 32, 116, 104, 101, 32, 110, 97, 109, 101])]))
def laid_loop_example_g00145_impl_errStage {H : Type} : DataW H := .iface "*errors.errorString" (.ptr (.agg [.lit (.string [116, 104, 101, 32, 115, 116, 97, 103, 101, 32, 105, 115, 32, 110, 111, 116, 32, 103, 111, 111, 100])]))
def laid_loop_example_g00145_impl_errCap {H : Type} : DataW H := .iface "*errors.errorString" (.ptr (.agg [.lit (.string [116, 104, 101, 32, 99, 97, 112, 32, 105, 115, 32, 116, 111, 111, 32, 115, 109, 97, 108, 108, 32, 111, 114, 32, 116, 111, 111, 32, 103, 114, 101, 97, 116])]))
def laid_loop_example_g00145_impl_errEdge {H : Type} : DataW H := .iface "*errors.errorString" (.ptr (.agg [.lit (.string [97, 32, 110, 101, 120, 116, 32, 105, 115, 32, 110, 111, 32, 110, 111, 100, 101, 44, 32, 111, 114, 32, 116, 119, 105, 99, 101, 32, 116, 104, 101, 114, 101])]))
def laid_loop_example_g00145_impl_errCycle {H : Type} : DataW H := .iface "*errors.errorString" (.ptr (.agg [.lit (.string [97, 32, 110, 111, 100, 101, 32, 105, 115, 32, 114, 101, 97, 99, 104, 101, 100, 32, 102, 114, 111, 109, 32, 105, 116, 115, 101, 108, 102])]))

/-- 'laws.FnAccounted': WHATEVER THE INPUT: true; the input reads as it did. -/
def fnAccountedSpec : ChangeSpec := { name := "fnAccounted", vars := ["loop.example/g00145/impl.errMany", "loop.example/g00145/impl.errCycle", "loop.example/g00145/impl.errName", "loop.example/g00145/impl.errTwice", "loop.example/g00145/impl.errStage", "loop.example/g00145/impl.errCap", "loop.example/g00145/impl.errEdge"], fn := fun _ => fun
  | [d, g1, g2, g3, g4, g5, g6, g7] => { results := [.lit (.bool true)], args := [d], vars := [g1, g2, g3, g4, g5, g6, g7] }
  | _ => none }
def fnAccountedRow : OpenClaim := { program := "ytllmpinmbajpgaagreatdoor", sum := "950d901ff3ee0adf53fb5c0739105d529f349d02e5a3b4c6fc84fc5cce1c327c", func := "loop.example/g00145/laws.FnAccounted", spec := "fnAccounted", inPlace := ["sync/atomic.AddInt64", "sync/atomic.LoadInt64"], unfollowed := true, recurses := true, named := ["loop.example/g00145/impl.errMany", "loop.example/g00145/impl.errCycle", "loop.example/g00145/impl.errName", "loop.example/g00145/impl.errTwice", "loop.example/g00145/impl.errStage", "loop.example/g00145/impl.errCap", "loop.example/g00145/impl.errEdge"], ifaces := true, apart := false, laid := [("loop.example/g00145/impl.errMany", laid_loop_example_g00145_impl_errMany), ("loop.example/g00145/impl.errName", laid_loop_example_g00145_impl_errName), ("loop.example/g00145/impl.errTwice", laid_loop_example_g00145_impl_errTwice), ("loop.example/g00145/impl.errStage", laid_loop_example_g00145_impl_errStage), ("loop.example/g00145/impl.errCap", laid_loop_example_g00145_impl_errCap), ("loop.example/g00145/impl.errEdge", laid_loop_example_g00145_impl_errEdge), ("loop.example/g00145/impl.errCycle", laid_loop_example_g00145_impl_errCycle)] }
def FnAccountedSaid : Prop := fnAccountedRow.holds Tryz.pinned (OpenSpec.ofChange fnAccountedSpec)

/-- ITS FALSE NEIGHBOUR: 'it returns false'. Refute it at one input. -/
def fnAccountedWrong : ChangeSpec := { name := "fnAccounted", vars := ["loop.example/g00145/impl.errMany", "loop.example/g00145/impl.errCycle", "loop.example/g00145/impl.errName", "loop.example/g00145/impl.errTwice", "loop.example/g00145/impl.errStage", "loop.example/g00145/impl.errCap", "loop.example/g00145/impl.errEdge"], fn := fun _ => fun
  | [d, g1, g2, g3, g4, g5, g6, g7] => { results := [.lit (.bool false)], args := [d], vars := [g1, g2, g3, g4, g5, g6, g7] }
  | _ => none }
def FnAccountedWrongFalsely : Prop := fnAccountedRow.holds Tryz.pinned (OpenSpec.ofChange fnAccountedWrong)

/-- 'laws.FnRunOut': WHATEVER THE INPUT: true; the input reads as it did. -/
def fnRunOutSpec : ChangeSpec := { name := "fnRunOut", vars := ["loop.example/g00145/impl.errMany", "loop.example/g00145/impl.errCycle", "loop.example/g00145/impl.errName", "loop.example/g00145/impl.errTwice", "loop.example/g00145/impl.errStage", "loop.example/g00145/impl.errCap", "loop.example/g00145/impl.errEdge"], fn := fun _ => fun
  | [d, g1, g2, g3, g4, g5, g6, g7] => { results := [.lit (.bool true)], args := [d], vars := [g1, g2, g3, g4, g5, g6, g7] }
  | _ => none }
def fnRunOutRow : OpenClaim := { program := "ytllmpinmbajpgaagreatdoor", sum := "950d901ff3ee0adf53fb5c0739105d529f349d02e5a3b4c6fc84fc5cce1c327c", func := "loop.example/g00145/laws.FnRunOut", spec := "fnRunOut", inPlace := ["sync/atomic.AddInt64", "sync/atomic.LoadInt64"], unfollowed := true, recurses := true, named := ["loop.example/g00145/impl.errMany", "loop.example/g00145/impl.errCycle", "loop.example/g00145/impl.errName", "loop.example/g00145/impl.errTwice", "loop.example/g00145/impl.errStage", "loop.example/g00145/impl.errCap", "loop.example/g00145/impl.errEdge"], ifaces := true, apart := false, laid := [("loop.example/g00145/impl.errMany", laid_loop_example_g00145_impl_errMany), ("loop.example/g00145/impl.errName", laid_loop_example_g00145_impl_errName), ("loop.example/g00145/impl.errTwice", laid_loop_example_g00145_impl_errTwice), ("loop.example/g00145/impl.errStage", laid_loop_example_g00145_impl_errStage), ("loop.example/g00145/impl.errCap", laid_loop_example_g00145_impl_errCap), ("loop.example/g00145/impl.errEdge", laid_loop_example_g00145_impl_errEdge), ("loop.example/g00145/impl.errCycle", laid_loop_example_g00145_impl_errCycle)] }
def FnRunOutSaid : Prop := fnRunOutRow.holds Tryz.pinned (OpenSpec.ofChange fnRunOutSpec)

/-- ITS FALSE NEIGHBOUR: 'it returns false'. Refute it at one input. -/
def fnRunOutWrong : ChangeSpec := { name := "fnRunOut", vars := ["loop.example/g00145/impl.errMany", "loop.example/g00145/impl.errCycle", "loop.example/g00145/impl.errName", "loop.example/g00145/impl.errTwice", "loop.example/g00145/impl.errStage", "loop.example/g00145/impl.errCap", "loop.example/g00145/impl.errEdge"], fn := fun _ => fun
  | [d, g1, g2, g3, g4, g5, g6, g7] => { results := [.lit (.bool false)], args := [d], vars := [g1, g2, g3, g4, g5, g6, g7] }
  | _ => none }
def FnRunOutWrongFalsely : Prop := fnRunOutRow.holds Tryz.pinned (OpenSpec.ofChange fnRunOutWrong)

/- THE SECOND FORM. 'bulk': how many values and letters a reading holds, each counted each time it is reached (what is shared counts as often as it is met; a slice's spare places count too). A statement '..UptoSaid' is the law's where the arguments, and the package variables that the reading takes, are together of bulk at most 1048576: NARROWER than '..Said'. Prove '..Said' where nothing that the law and all that it calls make is longer than what came in: it says more and counts as full. Else prove '..UptoSaid'. A law counts once. -/
mutual
def uptoBulk {H : Type} : DataW H → Nat
  | .lit (.string bytes) => bytes.length + 1
  | .lit _ => 1
  | .nil => 1
  | .ptr d => uptoBulk d + 1
  | .slice elems spare => uptoBulkAll elems + uptoBulkAll spare + 1
  | .agg parts => uptoBulkAll parts + 1
  | .iface _ d => uptoBulk d + 1
  | .map entries => uptoBulkEntries entries + 1
  | .held _ => 1
def uptoBulkAll {H : Type} : List (DataW H) → Nat
  | [] => 0
  | d :: r => uptoBulk d + uptoBulkAll r
def uptoBulkEntries {H : Type} : List (Lit × DataW H) → Nat
  | [] => 0
  | x :: r => uptoBulkEntry x + uptoBulkEntries r
def uptoBulkEntry {H : Type} : Lit × DataW H → Nat
  | (.string bytes, d) => bytes.length + uptoBulk d + 1
  | (_, d) => uptoBulk d + 1
 end
def uptoSmall : (H : Type) → List (DataW H) → Bool := fun _ ds => decide (uptoBulkAll ds ≤ 1048576)
def OpenSpec.upto (s : _root_.Go.ChangeSpec) : _root_.Go.OpenSpec := { _root_.Go.OpenSpec.ofChange s with cond := some uptoSmall }

/-- 'laws.FnAccounted', WHERE WHAT IT READS IS OF BULK AT MOST 1048576: true; the input reads as it did. -/
def fnAccountedUptoRow : OpenClaim := { program := "ytllmpinmbajpgaagreatdoor", sum := "950d901ff3ee0adf53fb5c0739105d529f349d02e5a3b4c6fc84fc5cce1c327c", func := "loop.example/g00145/laws.FnAccounted", spec := "fnAccounted", inPlace := ["sync/atomic.AddInt64", "sync/atomic.LoadInt64"], unfollowed := true, recurses := true, named := ["loop.example/g00145/impl.errMany", "loop.example/g00145/impl.errCycle", "loop.example/g00145/impl.errName", "loop.example/g00145/impl.errTwice", "loop.example/g00145/impl.errStage", "loop.example/g00145/impl.errCap", "loop.example/g00145/impl.errEdge"], ifaces := true, apart := false, laid := [("loop.example/g00145/impl.errMany", laid_loop_example_g00145_impl_errMany), ("loop.example/g00145/impl.errName", laid_loop_example_g00145_impl_errName), ("loop.example/g00145/impl.errTwice", laid_loop_example_g00145_impl_errTwice), ("loop.example/g00145/impl.errStage", laid_loop_example_g00145_impl_errStage), ("loop.example/g00145/impl.errCap", laid_loop_example_g00145_impl_errCap), ("loop.example/g00145/impl.errEdge", laid_loop_example_g00145_impl_errEdge), ("loop.example/g00145/impl.errCycle", laid_loop_example_g00145_impl_errCycle)], narrowed := true }
def FnAccountedUptoSaid : Prop := fnAccountedUptoRow.holds Tryz.pinned (OpenSpec.upto fnAccountedSpec)

/-- 'laws.FnRunOut', WHERE WHAT IT READS IS OF BULK AT MOST 1048576: true; the input reads as it did. -/
def fnRunOutUptoRow : OpenClaim := { program := "ytllmpinmbajpgaagreatdoor", sum := "950d901ff3ee0adf53fb5c0739105d529f349d02e5a3b4c6fc84fc5cce1c327c", func := "loop.example/g00145/laws.FnRunOut", spec := "fnRunOut", inPlace := ["sync/atomic.AddInt64", "sync/atomic.LoadInt64"], unfollowed := true, recurses := true, named := ["loop.example/g00145/impl.errMany", "loop.example/g00145/impl.errCycle", "loop.example/g00145/impl.errName", "loop.example/g00145/impl.errTwice", "loop.example/g00145/impl.errStage", "loop.example/g00145/impl.errCap", "loop.example/g00145/impl.errEdge"], ifaces := true, apart := false, laid := [("loop.example/g00145/impl.errMany", laid_loop_example_g00145_impl_errMany), ("loop.example/g00145/impl.errName", laid_loop_example_g00145_impl_errName), ("loop.example/g00145/impl.errTwice", laid_loop_example_g00145_impl_errTwice), ("loop.example/g00145/impl.errStage", laid_loop_example_g00145_impl_errStage), ("loop.example/g00145/impl.errCap", laid_loop_example_g00145_impl_errCap), ("loop.example/g00145/impl.errEdge", laid_loop_example_g00145_impl_errEdge), ("loop.example/g00145/impl.errCycle", laid_loop_example_g00145_impl_errCycle)], narrowed := true }
def FnRunOutUptoSaid : Prop := fnRunOutUptoRow.holds Tryz.pinned (OpenSpec.upto fnRunOutSpec)

end Rows
end Go.Proofs.YtllmpinmbajpgaaGreatDoor
