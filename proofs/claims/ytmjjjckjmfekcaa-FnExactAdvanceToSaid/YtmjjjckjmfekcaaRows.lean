/-
  No cell of these rows narrows 'for every input' (looked for: loops, veiled, ifaces, maps, wideKeys, modest, calm, conditions, laid).
  DERIVED. THE GIVEN ROWS OF THIS SEAT. 7 by the template 'for every input the law returns true; each argument reads behind the call as it read before'; 0 by the template 'total and deterministic' (their statements: YtmjjjckjmfekcaaTotals.lean).
  GIVEN WITH THE SEED: the statements are not yours to turn. If you find one false, say at which input.
  Laid BY PROGRAM, IN A SANDBOX (cutbox-rows.mjs): the forced cells as the released guide's own fill.sh prints them over the translation 3e7b9e810f5d3a9d… (all of the seat's roots in one cut). By AI agents, Wed Nov 11 2026. No macro, syntax, notation, axiom, sorry.
-/
import Derived.Test.YtmjjjckjmfekcaaChecked
import GoSem.Claim
import GoSem.ClaimJoined
import GoSem.ClaimMapViews
import Derived.JoinedTies
import Derived.KernelRfl
namespace Go.Proofs.Ytmjjjckjmfekcaa
/- THE CELL 'sum', in the pinned program and in every row, IS THE sha256 OF THE DUMP (.gsa) THAT YtmjjjckjmfekcaaProg.lean LOADS. Nothing in Lean hashes anything: it is a label: what it is worth is what the hold of that sum in a sandbox is worth. -/
noncomputable def Try.pinned : Pinned := { name := "ytmjjjckjmfekcaa", sum := "3e7b9e810f5d3a9d42d63553744bf1e9fc47cfcac017bcb94677aa42d6148103", checked := Try.checked }
namespace Rows
def none {H : Type} : Left H := { results := [], args := [] }

/-- 'laws.FnExactGoodClock': WHATEVER THE INPUT: true; the input reads as it did. -/
def fnExactGoodClockSpec : ChangeSpec := { name := "fnExactGoodClock", fn := fun _ => fun
  | [d] => { results := [.lit (.bool true)], args := [d] }
  | _ => none }
def fnExactGoodClockRow : OpenClaim := { program := "ytmjjjckjmfekcaa", sum := "3e7b9e810f5d3a9d42d63553744bf1e9fc47cfcac017bcb94677aa42d6148103", func := "loop.example/g00145/laws.FnExactGoodClock", spec := "fnExactGoodClock", apart := false }
def FnExactGoodClockSaid : Prop := fnExactGoodClockRow.holds Try.pinned (OpenSpec.ofChange fnExactGoodClockSpec)

/-- ITS FALSE NEIGHBOUR: 'it returns false'. Refute it at one input. -/
def fnExactGoodClockWrong : ChangeSpec := { name := "fnExactGoodClock", fn := fun _ => fun
  | [d] => { results := [.lit (.bool false)], args := [d] }
  | _ => none }
def FnExactGoodClockWrongFalsely : Prop := fnExactGoodClockRow.holds Try.pinned (OpenSpec.ofChange fnExactGoodClockWrong)

/-- 'laws.FnExactLaterBy': WHATEVER THE INPUT: true; the input reads as it did. -/
def fnExactLaterBySpec : ChangeSpec := { name := "fnExactLaterBy", fn := fun _ => fun
  | [d1, d2] => { results := [.lit (.bool true)], args := [d1, d2] }
  | _ => none }
def fnExactLaterByRow : OpenClaim := { program := "ytmjjjckjmfekcaa", sum := "3e7b9e810f5d3a9d42d63553744bf1e9fc47cfcac017bcb94677aa42d6148103", func := "loop.example/g00145/laws.FnExactLaterBy", spec := "fnExactLaterBy", apart := false }
def FnExactLaterBySaid : Prop := fnExactLaterByRow.holds Try.pinned (OpenSpec.ofChange fnExactLaterBySpec)

/-- ITS FALSE NEIGHBOUR: 'it returns false'. Refute it at one input. -/
def fnExactLaterByWrong : ChangeSpec := { name := "fnExactLaterBy", fn := fun _ => fun
  | [d1, d2] => { results := [.lit (.bool false)], args := [d1, d2] }
  | _ => none }
def FnExactLaterByWrongFalsely : Prop := fnExactLaterByRow.holds Try.pinned (OpenSpec.ofChange fnExactLaterByWrong)

/-- 'laws.FnExactArmTimer': WHATEVER THE INPUT: true; the input reads as it did. -/
def fnExactArmTimerSpec : ChangeSpec := { name := "fnExactArmTimer", fn := fun _ => fun
  | [d1, d2, d3] => { results := [.lit (.bool true)], args := [d1, d2, d3] }
  | _ => none }
def fnExactArmTimerRow : OpenClaim := { program := "ytmjjjckjmfekcaa", sum := "3e7b9e810f5d3a9d42d63553744bf1e9fc47cfcac017bcb94677aa42d6148103", func := "loop.example/g00145/laws.FnExactArmTimer", spec := "fnExactArmTimer", unfollowed := true, recurses := true, apart := false }
def FnExactArmTimerSaid : Prop := fnExactArmTimerRow.holds Try.pinned (OpenSpec.ofChange fnExactArmTimerSpec)

/-- ITS FALSE NEIGHBOUR: 'it returns false'. Refute it at one input. -/
def fnExactArmTimerWrong : ChangeSpec := { name := "fnExactArmTimer", fn := fun _ => fun
  | [d1, d2, d3] => { results := [.lit (.bool false)], args := [d1, d2, d3] }
  | _ => none }
def FnExactArmTimerWrongFalsely : Prop := fnExactArmTimerRow.holds Try.pinned (OpenSpec.ofChange fnExactArmTimerWrong)

/-- 'laws.FnExactStopTimer': WHATEVER THE INPUT: true; the input reads as it did. -/
def fnExactStopTimerSpec : ChangeSpec := { name := "fnExactStopTimer", fn := fun _ => fun
  | [d1, d2] => { results := [.lit (.bool true)], args := [d1, d2] }
  | _ => none }
def fnExactStopTimerRow : OpenClaim := { program := "ytmjjjckjmfekcaa", sum := "3e7b9e810f5d3a9d42d63553744bf1e9fc47cfcac017bcb94677aa42d6148103", func := "loop.example/g00145/laws.FnExactStopTimer", spec := "fnExactStopTimer", unfollowed := true, recurses := true, apart := false }
def FnExactStopTimerSaid : Prop := fnExactStopTimerRow.holds Try.pinned (OpenSpec.ofChange fnExactStopTimerSpec)

/-- ITS FALSE NEIGHBOUR: 'it returns false'. Refute it at one input. -/
def fnExactStopTimerWrong : ChangeSpec := { name := "fnExactStopTimer", fn := fun _ => fun
  | [d1, d2] => { results := [.lit (.bool false)], args := [d1, d2] }
  | _ => none }
def FnExactStopTimerWrongFalsely : Prop := fnExactStopTimerRow.holds Try.pinned (OpenSpec.ofChange fnExactStopTimerWrong)

/-- 'laws.FnExactResetTimer': WHATEVER THE INPUT: true; the input reads as it did. -/
def fnExactResetTimerSpec : ChangeSpec := { name := "fnExactResetTimer", fn := fun _ => fun
  | [d1, d2, d3] => { results := [.lit (.bool true)], args := [d1, d2, d3] }
  | _ => none }
def fnExactResetTimerRow : OpenClaim := { program := "ytmjjjckjmfekcaa", sum := "3e7b9e810f5d3a9d42d63553744bf1e9fc47cfcac017bcb94677aa42d6148103", func := "loop.example/g00145/laws.FnExactResetTimer", spec := "fnExactResetTimer", unfollowed := true, recurses := true, apart := false }
def FnExactResetTimerSaid : Prop := fnExactResetTimerRow.holds Try.pinned (OpenSpec.ofChange fnExactResetTimerSpec)

/-- ITS FALSE NEIGHBOUR: 'it returns false'. Refute it at one input. -/
def fnExactResetTimerWrong : ChangeSpec := { name := "fnExactResetTimer", fn := fun _ => fun
  | [d1, d2, d3] => { results := [.lit (.bool false)], args := [d1, d2, d3] }
  | _ => none }
def FnExactResetTimerWrongFalsely : Prop := fnExactResetTimerRow.holds Try.pinned (OpenSpec.ofChange fnExactResetTimerWrong)

/-- 'laws.FnExactNextFire': WHATEVER THE INPUT: true; the input reads as it did. -/
def fnExactNextFireSpec : ChangeSpec := { name := "fnExactNextFire", fn := fun _ => fun
  | [d] => { results := [.lit (.bool true)], args := [d] }
  | _ => none }
def fnExactNextFireRow : OpenClaim := { program := "ytmjjjckjmfekcaa", sum := "3e7b9e810f5d3a9d42d63553744bf1e9fc47cfcac017bcb94677aa42d6148103", func := "loop.example/g00145/laws.FnExactNextFire", spec := "fnExactNextFire", apart := false }
def FnExactNextFireSaid : Prop := fnExactNextFireRow.holds Try.pinned (OpenSpec.ofChange fnExactNextFireSpec)

/-- ITS FALSE NEIGHBOUR: 'it returns false'. Refute it at one input. -/
def fnExactNextFireWrong : ChangeSpec := { name := "fnExactNextFire", fn := fun _ => fun
  | [d] => { results := [.lit (.bool false)], args := [d] }
  | _ => none }
def FnExactNextFireWrongFalsely : Prop := fnExactNextFireRow.holds Try.pinned (OpenSpec.ofChange fnExactNextFireWrong)

/-- 'laws.FnExactAdvanceTo': WHATEVER THE INPUT: true; the input reads as it did. -/
def fnExactAdvanceToSpec : ChangeSpec := { name := "fnExactAdvanceTo", fn := fun _ => fun
  | [d1, d2] => { results := [.lit (.bool true)], args := [d1, d2] }
  | _ => none }
def fnExactAdvanceToRow : OpenClaim := { program := "ytmjjjckjmfekcaa", sum := "3e7b9e810f5d3a9d42d63553744bf1e9fc47cfcac017bcb94677aa42d6148103", func := "loop.example/g00145/laws.FnExactAdvanceTo", spec := "fnExactAdvanceTo", unfollowed := true, recurses := true, apart := false }
def FnExactAdvanceToSaid : Prop := fnExactAdvanceToRow.holds Try.pinned (OpenSpec.ofChange fnExactAdvanceToSpec)

/-- ITS FALSE NEIGHBOUR: 'it returns false'. Refute it at one input. -/
def fnExactAdvanceToWrong : ChangeSpec := { name := "fnExactAdvanceTo", fn := fun _ => fun
  | [d1, d2] => { results := [.lit (.bool false)], args := [d1, d2] }
  | _ => none }
def FnExactAdvanceToWrongFalsely : Prop := fnExactAdvanceToRow.holds Try.pinned (OpenSpec.ofChange fnExactAdvanceToWrong)

/- THE SECOND FORM. 'bulk': how many values and letters a reading holds, each counted each time it is reached (what is shared counts as often as it is met; a slice's spare places count too). A statement '..UptoSaid' is the law's where the arguments, and the package variables that the reading takes, are together of bulk at most 1048576: NARROWER than '..Said'. Prove '..Said' where nothing that the law and all that it calls make is longer than what came in: it says more and counts as full. Else prove '..UptoSaid'. A law counts once. -/
mutual
def uptoBulk {H : Type} : DataW H → Nat
  | .lit (.string bytes) => bytes.length + 1
  | .lit _ => 1
  | .nil => 1
  | .ptr d => uptoBulk d + 1
  | .slice elems spare => uptoBulkAll elems + uptoBulkAll spare + 1
  | .agg parts => uptoBulkAll parts + 1
  | .iface _ d => uptoBulk d + 1
  | .map entries => uptoBulkEntries entries + 1
  | .held _ => 1
def uptoBulkAll {H : Type} : List (DataW H) → Nat
  | [] => 0
  | d :: r => uptoBulk d + uptoBulkAll r
def uptoBulkEntries {H : Type} : List (Lit × DataW H) → Nat
  | [] => 0
  | x :: r => uptoBulkEntry x + uptoBulkEntries r
def uptoBulkEntry {H : Type} : Lit × DataW H → Nat
  | (.string bytes, d) => bytes.length + uptoBulk d + 1
  | (_, d) => uptoBulk d + 1
 end
def uptoSmall : (H : Type) → List (DataW H) → Bool := fun _ ds => decide (uptoBulkAll ds ≤ 1048576)
def OpenSpec.upto (s : _root_.Go.ChangeSpec) : _root_.Go.OpenSpec := { _root_.Go.OpenSpec.ofChange s with cond := some uptoSmall }

/-- 'laws.FnExactGoodClock', WHERE WHAT IT READS IS OF BULK AT MOST 1048576: true; the input reads as it did. -/
def fnExactGoodClockUptoRow : OpenClaim := { program := "ytmjjjckjmfekcaa", sum := "3e7b9e810f5d3a9d42d63553744bf1e9fc47cfcac017bcb94677aa42d6148103", func := "loop.example/g00145/laws.FnExactGoodClock", spec := "fnExactGoodClock", apart := false, narrowed := true }
def FnExactGoodClockUptoSaid : Prop := fnExactGoodClockUptoRow.holds Try.pinned (OpenSpec.upto fnExactGoodClockSpec)

/-- 'laws.FnExactLaterBy', WHERE WHAT IT READS IS OF BULK AT MOST 1048576: true; the input reads as it did. -/
def fnExactLaterByUptoRow : OpenClaim := { program := "ytmjjjckjmfekcaa", sum := "3e7b9e810f5d3a9d42d63553744bf1e9fc47cfcac017bcb94677aa42d6148103", func := "loop.example/g00145/laws.FnExactLaterBy", spec := "fnExactLaterBy", apart := false, narrowed := true }
def FnExactLaterByUptoSaid : Prop := fnExactLaterByUptoRow.holds Try.pinned (OpenSpec.upto fnExactLaterBySpec)

/-- 'laws.FnExactArmTimer', WHERE WHAT IT READS IS OF BULK AT MOST 1048576: true; the input reads as it did. -/
def fnExactArmTimerUptoRow : OpenClaim := { program := "ytmjjjckjmfekcaa", sum := "3e7b9e810f5d3a9d42d63553744bf1e9fc47cfcac017bcb94677aa42d6148103", func := "loop.example/g00145/laws.FnExactArmTimer", spec := "fnExactArmTimer", unfollowed := true, recurses := true, apart := false, narrowed := true }
def FnExactArmTimerUptoSaid : Prop := fnExactArmTimerUptoRow.holds Try.pinned (OpenSpec.upto fnExactArmTimerSpec)

/-- 'laws.FnExactStopTimer', WHERE WHAT IT READS IS OF BULK AT MOST 1048576: true; the input reads as it did. -/
def fnExactStopTimerUptoRow : OpenClaim := { program := "ytmjjjckjmfekcaa", sum := "3e7b9e810f5d3a9d42d63553744bf1e9fc47cfcac017bcb94677aa42d6148103", func := "loop.example/g00145/laws.FnExactStopTimer", spec := "fnExactStopTimer", unfollowed := true, recurses := true, apart := false, narrowed := true }
def FnExactStopTimerUptoSaid : Prop := fnExactStopTimerUptoRow.holds Try.pinned (OpenSpec.upto fnExactStopTimerSpec)

/-- 'laws.FnExactResetTimer', WHERE WHAT IT READS IS OF BULK AT MOST 1048576: true; the input reads as it did. -/
def fnExactResetTimerUptoRow : OpenClaim := { program := "ytmjjjckjmfekcaa", sum := "3e7b9e810f5d3a9d42d63553744bf1e9fc47cfcac017bcb94677aa42d6148103", func := "loop.example/g00145/laws.FnExactResetTimer", spec := "fnExactResetTimer", unfollowed := true, recurses := true, apart := false, narrowed := true }
def FnExactResetTimerUptoSaid : Prop := fnExactResetTimerUptoRow.holds Try.pinned (OpenSpec.upto fnExactResetTimerSpec)

/-- 'laws.FnExactNextFire', WHERE WHAT IT READS IS OF BULK AT MOST 1048576: true; the input reads as it did. -/
def fnExactNextFireUptoRow : OpenClaim := { program := "ytmjjjckjmfekcaa", sum := "3e7b9e810f5d3a9d42d63553744bf1e9fc47cfcac017bcb94677aa42d6148103", func := "loop.example/g00145/laws.FnExactNextFire", spec := "fnExactNextFire", apart := false, narrowed := true }
def FnExactNextFireUptoSaid : Prop := fnExactNextFireUptoRow.holds Try.pinned (OpenSpec.upto fnExactNextFireSpec)

/-- 'laws.FnExactAdvanceTo', WHERE WHAT IT READS IS OF BULK AT MOST 1048576: true; the input reads as it did. -/
def fnExactAdvanceToUptoRow : OpenClaim := { program := "ytmjjjckjmfekcaa", sum := "3e7b9e810f5d3a9d42d63553744bf1e9fc47cfcac017bcb94677aa42d6148103", func := "loop.example/g00145/laws.FnExactAdvanceTo", spec := "fnExactAdvanceTo", unfollowed := true, recurses := true, apart := false, narrowed := true }
def FnExactAdvanceToUptoSaid : Prop := fnExactAdvanceToUptoRow.holds Try.pinned (OpenSpec.upto fnExactAdvanceToSpec)

end Rows
end Go.Proofs.Ytmjjjckjmfekcaa
