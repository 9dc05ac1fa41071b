/-
  No cell of these rows narrows 'for every input' (looked for: loops, veiled, ifaces, maps, wideKeys, modest, calm, conditions, laid).
  DERIVED. THE GIVEN ROWS OF THIS SEAT. 9 by the template 'for every input the law returns true; each argument reads behind the call as it read before'; 0 by the template 'total and deterministic' (their statements: YtemmjkmaiedadaaTotals.lean).
  GIVEN WITH THE SEED: the statements are not yours to turn. If you find one false, say at which input.
  Laid BY PROGRAM, IN A SANDBOX (cutbox-rows.mjs): the forced cells as the released guide's own fill.sh prints them over the translation 6154ad3b79e29a35… (all of the seat's roots in one cut). By AI agents, Wed Nov 11 2026. No macro, syntax, notation, axiom, sorry.
-/
import Derived.Test.YtemmjkmaiedadaaChecked
import GoSem.Claim
import GoSem.ClaimJoined
import GoSem.ClaimMapViews
import Derived.JoinedTies
import Derived.KernelRfl
namespace Go.Proofs.Ytemmjkmaiedadaa
/- THE CELL 'sum', in the pinned program and in every row, IS THE sha256 OF THE DUMP (.gsa) THAT YtemmjkmaiedadaaProg.lean LOADS. Nothing in Lean hashes anything: it is a label: what it is worth is what the hold of that sum in a sandbox is worth. -/
noncomputable def Try.pinned : Pinned := { name := "ytemmjkmaiedadaa", sum := "6154ad3b79e29a352487dd78605245a080ea575a6d627cca31beb25c58c8e4de", checked := Try.checked }
namespace Rows
def none {H : Type} : Left H := { results := [], args := [] }

/-- 'laws.FnExactGoodBoard': WHATEVER THE INPUT: true; the input reads as it did. -/
def fnExactGoodBoardSpec : ChangeSpec := { name := "fnExactGoodBoard", fn := fun _ => fun
  | [d] => { results := [.lit (.bool true)], args := [d] }
  | _ => none }
def fnExactGoodBoardRow : OpenClaim := { program := "ytemmjkmaiedadaa", sum := "6154ad3b79e29a352487dd78605245a080ea575a6d627cca31beb25c58c8e4de", func := "loop.example/g00145/laws.FnExactGoodBoard", spec := "fnExactGoodBoard", unfollowed := true, recurses := true, apart := false }
def FnExactGoodBoardSaid : Prop := fnExactGoodBoardRow.holds Try.pinned (OpenSpec.ofChange fnExactGoodBoardSpec)

/-- ITS FALSE NEIGHBOUR: 'it returns false'. Refute it at one input. -/
def fnExactGoodBoardWrong : ChangeSpec := { name := "fnExactGoodBoard", fn := fun _ => fun
  | [d] => { results := [.lit (.bool false)], args := [d] }
  | _ => none }
def FnExactGoodBoardWrongFalsely : Prop := fnExactGoodBoardRow.holds Try.pinned (OpenSpec.ofChange fnExactGoodBoardWrong)

/-- 'laws.FnExactSpawnTask': WHATEVER THE INPUT: true; the input reads as it did. -/
def fnExactSpawnTaskSpec : ChangeSpec := { name := "fnExactSpawnTask", fn := fun _ => fun
  | [d] => { results := [.lit (.bool true)], args := [d] }
  | _ => none }
def fnExactSpawnTaskRow : OpenClaim := { program := "ytemmjkmaiedadaa", sum := "6154ad3b79e29a352487dd78605245a080ea575a6d627cca31beb25c58c8e4de", func := "loop.example/g00145/laws.FnExactSpawnTask", spec := "fnExactSpawnTask", unfollowed := true, recurses := true, apart := false }
def FnExactSpawnTaskSaid : Prop := fnExactSpawnTaskRow.holds Try.pinned (OpenSpec.ofChange fnExactSpawnTaskSpec)

/-- ITS FALSE NEIGHBOUR: 'it returns false'. Refute it at one input. -/
def fnExactSpawnTaskWrong : ChangeSpec := { name := "fnExactSpawnTask", fn := fun _ => fun
  | [d] => { results := [.lit (.bool false)], args := [d] }
  | _ => none }
def FnExactSpawnTaskWrongFalsely : Prop := fnExactSpawnTaskRow.holds Try.pinned (OpenSpec.ofChange fnExactSpawnTaskWrong)

/-- 'laws.FnExactPickTask': WHATEVER THE INPUT: true; the input reads as it did. -/
def fnExactPickTaskSpec : ChangeSpec := { name := "fnExactPickTask", fn := fun _ => fun
  | [d1, d2] => { results := [.lit (.bool true)], args := [d1, d2] }
  | _ => none }
def fnExactPickTaskRow : OpenClaim := { program := "ytemmjkmaiedadaa", sum := "6154ad3b79e29a352487dd78605245a080ea575a6d627cca31beb25c58c8e4de", func := "loop.example/g00145/laws.FnExactPickTask", spec := "fnExactPickTask", unfollowed := true, recurses := true, apart := false }
def FnExactPickTaskSaid : Prop := fnExactPickTaskRow.holds Try.pinned (OpenSpec.ofChange fnExactPickTaskSpec)

/-- ITS FALSE NEIGHBOUR: 'it returns false'. Refute it at one input. -/
def fnExactPickTaskWrong : ChangeSpec := { name := "fnExactPickTask", fn := fun _ => fun
  | [d1, d2] => { results := [.lit (.bool false)], args := [d1, d2] }
  | _ => none }
def FnExactPickTaskWrongFalsely : Prop := fnExactPickTaskRow.holds Try.pinned (OpenSpec.ofChange fnExactPickTaskWrong)

/-- 'laws.FnExactYieldTask': WHATEVER THE INPUT: true; the input reads as it did. -/
def fnExactYieldTaskSpec : ChangeSpec := { name := "fnExactYieldTask", fn := fun _ => fun
  | [d] => { results := [.lit (.bool true)], args := [d] }
  | _ => none }
def fnExactYieldTaskRow : OpenClaim := { program := "ytemmjkmaiedadaa", sum := "6154ad3b79e29a352487dd78605245a080ea575a6d627cca31beb25c58c8e4de", func := "loop.example/g00145/laws.FnExactYieldTask", spec := "fnExactYieldTask", unfollowed := true, recurses := true, apart := false }
def FnExactYieldTaskSaid : Prop := fnExactYieldTaskRow.holds Try.pinned (OpenSpec.ofChange fnExactYieldTaskSpec)

/-- ITS FALSE NEIGHBOUR: 'it returns false'. Refute it at one input. -/
def fnExactYieldTaskWrong : ChangeSpec := { name := "fnExactYieldTask", fn := fun _ => fun
  | [d] => { results := [.lit (.bool false)], args := [d] }
  | _ => none }
def FnExactYieldTaskWrongFalsely : Prop := fnExactYieldTaskRow.holds Try.pinned (OpenSpec.ofChange fnExactYieldTaskWrong)

/-- 'laws.FnExactParkTask': WHATEVER THE INPUT: true; the input reads as it did. -/
def fnExactParkTaskSpec : ChangeSpec := { name := "fnExactParkTask", fn := fun _ => fun
  | [d] => { results := [.lit (.bool true)], args := [d] }
  | _ => none }
def fnExactParkTaskRow : OpenClaim := { program := "ytemmjkmaiedadaa", sum := "6154ad3b79e29a352487dd78605245a080ea575a6d627cca31beb25c58c8e4de", func := "loop.example/g00145/laws.FnExactParkTask", spec := "fnExactParkTask", unfollowed := true, recurses := true, apart := false }
def FnExactParkTaskSaid : Prop := fnExactParkTaskRow.holds Try.pinned (OpenSpec.ofChange fnExactParkTaskSpec)

/-- ITS FALSE NEIGHBOUR: 'it returns false'. Refute it at one input. -/
def fnExactParkTaskWrong : ChangeSpec := { name := "fnExactParkTask", fn := fun _ => fun
  | [d] => { results := [.lit (.bool false)], args := [d] }
  | _ => none }
def FnExactParkTaskWrongFalsely : Prop := fnExactParkTaskRow.holds Try.pinned (OpenSpec.ofChange fnExactParkTaskWrong)

/-- 'laws.FnExactEndTask': WHATEVER THE INPUT: true; the input reads as it did. -/
def fnExactEndTaskSpec : ChangeSpec := { name := "fnExactEndTask", fn := fun _ => fun
  | [d] => { results := [.lit (.bool true)], args := [d] }
  | _ => none }
def fnExactEndTaskRow : OpenClaim := { program := "ytemmjkmaiedadaa", sum := "6154ad3b79e29a352487dd78605245a080ea575a6d627cca31beb25c58c8e4de", func := "loop.example/g00145/laws.FnExactEndTask", spec := "fnExactEndTask", unfollowed := true, recurses := true, apart := false }
def FnExactEndTaskSaid : Prop := fnExactEndTaskRow.holds Try.pinned (OpenSpec.ofChange fnExactEndTaskSpec)

/-- ITS FALSE NEIGHBOUR: 'it returns false'. Refute it at one input. -/
def fnExactEndTaskWrong : ChangeSpec := { name := "fnExactEndTask", fn := fun _ => fun
  | [d] => { results := [.lit (.bool false)], args := [d] }
  | _ => none }
def FnExactEndTaskWrongFalsely : Prop := fnExactEndTaskRow.holds Try.pinned (OpenSpec.ofChange fnExactEndTaskWrong)

/-- 'laws.FnExactWakeTask': WHATEVER THE INPUT: true; the input reads as it did. -/
def fnExactWakeTaskSpec : ChangeSpec := { name := "fnExactWakeTask", fn := fun _ => fun
  | [d1, d2] => { results := [.lit (.bool true)], args := [d1, d2] }
  | _ => none }
def fnExactWakeTaskRow : OpenClaim := { program := "ytemmjkmaiedadaa", sum := "6154ad3b79e29a352487dd78605245a080ea575a6d627cca31beb25c58c8e4de", func := "loop.example/g00145/laws.FnExactWakeTask", spec := "fnExactWakeTask", unfollowed := true, recurses := true, apart := false }
def FnExactWakeTaskSaid : Prop := fnExactWakeTaskRow.holds Try.pinned (OpenSpec.ofChange fnExactWakeTaskSpec)

/-- ITS FALSE NEIGHBOUR: 'it returns false'. Refute it at one input. -/
def fnExactWakeTaskWrong : ChangeSpec := { name := "fnExactWakeTask", fn := fun _ => fun
  | [d1, d2] => { results := [.lit (.bool false)], args := [d1, d2] }
  | _ => none }
def FnExactWakeTaskWrongFalsely : Prop := fnExactWakeTaskRow.holds Try.pinned (OpenSpec.ofChange fnExactWakeTaskWrong)

/-- 'laws.FnExactKillTask': WHATEVER THE INPUT: true; the input reads as it did. -/
def fnExactKillTaskSpec : ChangeSpec := { name := "fnExactKillTask", fn := fun _ => fun
  | [d1, d2] => { results := [.lit (.bool true)], args := [d1, d2] }
  | _ => none }
def fnExactKillTaskRow : OpenClaim := { program := "ytemmjkmaiedadaa", sum := "6154ad3b79e29a352487dd78605245a080ea575a6d627cca31beb25c58c8e4de", func := "loop.example/g00145/laws.FnExactKillTask", spec := "fnExactKillTask", unfollowed := true, recurses := true, apart := false }
def FnExactKillTaskSaid : Prop := fnExactKillTaskRow.holds Try.pinned (OpenSpec.ofChange fnExactKillTaskSpec)

/-- ITS FALSE NEIGHBOUR: 'it returns false'. Refute it at one input. -/
def fnExactKillTaskWrong : ChangeSpec := { name := "fnExactKillTask", fn := fun _ => fun
  | [d1, d2] => { results := [.lit (.bool false)], args := [d1, d2] }
  | _ => none }
def FnExactKillTaskWrongFalsely : Prop := fnExactKillTaskRow.holds Try.pinned (OpenSpec.ofChange fnExactKillTaskWrong)

/-- 'laws.FnExactMostPassed': WHATEVER THE INPUT: true; the input reads as it did. -/
def fnExactMostPassedSpec : ChangeSpec := { name := "fnExactMostPassed", fn := fun _ => fun
  | [d] => { results := [.lit (.bool true)], args := [d] }
  | _ => none }
def fnExactMostPassedRow : OpenClaim := { program := "ytemmjkmaiedadaa", sum := "6154ad3b79e29a352487dd78605245a080ea575a6d627cca31beb25c58c8e4de", func := "loop.example/g00145/laws.FnExactMostPassed", spec := "fnExactMostPassed", unfollowed := true, recurses := true, apart := false }
def FnExactMostPassedSaid : Prop := fnExactMostPassedRow.holds Try.pinned (OpenSpec.ofChange fnExactMostPassedSpec)

/-- ITS FALSE NEIGHBOUR: 'it returns false'. Refute it at one input. -/
def fnExactMostPassedWrong : ChangeSpec := { name := "fnExactMostPassed", fn := fun _ => fun
  | [d] => { results := [.lit (.bool false)], args := [d] }
  | _ => none }
def FnExactMostPassedWrongFalsely : Prop := fnExactMostPassedRow.holds Try.pinned (OpenSpec.ofChange fnExactMostPassedWrong)

/- THE SECOND FORM. 'bulk': how many values and letters a reading holds, each counted each time it is reached (what is shared counts as often as it is met; a slice's spare places count too). A statement '..UptoSaid' is the law's where the arguments, and the package variables that the reading takes, are together of bulk at most 1048576: NARROWER than '..Said'. Prove '..Said' where nothing that the law and all that it calls make is longer than what came in: it says more and counts as full. Else prove '..UptoSaid'. A law counts once. -/
mutual
def uptoBulk {H : Type} : DataW H → Nat
  | .lit (.string bytes) => bytes.length + 1
  | .lit _ => 1
  | .nil => 1
  | .ptr d => uptoBulk d + 1
  | .slice elems spare => uptoBulkAll elems + uptoBulkAll spare + 1
  | .agg parts => uptoBulkAll parts + 1
  | .iface _ d => uptoBulk d + 1
  | .map entries => uptoBulkEntries entries + 1
  | .held _ => 1
def uptoBulkAll {H : Type} : List (DataW H) → Nat
  | [] => 0
  | d :: r => uptoBulk d + uptoBulkAll r
def uptoBulkEntries {H : Type} : List (Lit × DataW H) → Nat
  | [] => 0
  | x :: r => uptoBulkEntry x + uptoBulkEntries r
def uptoBulkEntry {H : Type} : Lit × DataW H → Nat
  | (.string bytes, d) => bytes.length + uptoBulk d + 1
  | (_, d) => uptoBulk d + 1
 end
def uptoSmall : (H : Type) → List (DataW H) → Bool := fun _ ds => decide (uptoBulkAll ds ≤ 1048576)
def OpenSpec.upto (s : _root_.Go.ChangeSpec) : _root_.Go.OpenSpec := { _root_.Go.OpenSpec.ofChange s with cond := some uptoSmall }

/-- 'laws.FnExactGoodBoard', WHERE WHAT IT READS IS OF BULK AT MOST 1048576: true; the input reads as it did. -/
def fnExactGoodBoardUptoRow : OpenClaim := { program := "ytemmjkmaiedadaa", sum := "6154ad3b79e29a352487dd78605245a080ea575a6d627cca31beb25c58c8e4de", func := "loop.example/g00145/laws.FnExactGoodBoard", spec := "fnExactGoodBoard", unfollowed := true, recurses := true, apart := false, narrowed := true }
def FnExactGoodBoardUptoSaid : Prop := fnExactGoodBoardUptoRow.holds Try.pinned (OpenSpec.upto fnExactGoodBoardSpec)

/-- 'laws.FnExactSpawnTask', WHERE WHAT IT READS IS OF BULK AT MOST 1048576: true; the input reads as it did. -/
def fnExactSpawnTaskUptoRow : OpenClaim := { program := "ytemmjkmaiedadaa", sum := "6154ad3b79e29a352487dd78605245a080ea575a6d627cca31beb25c58c8e4de", func := "loop.example/g00145/laws.FnExactSpawnTask", spec := "fnExactSpawnTask", unfollowed := true, recurses := true, apart := false, narrowed := true }
def FnExactSpawnTaskUptoSaid : Prop := fnExactSpawnTaskUptoRow.holds Try.pinned (OpenSpec.upto fnExactSpawnTaskSpec)

/-- 'laws.FnExactPickTask', WHERE WHAT IT READS IS OF BULK AT MOST 1048576: true; the input reads as it did. -/
def fnExactPickTaskUptoRow : OpenClaim := { program := "ytemmjkmaiedadaa", sum := "6154ad3b79e29a352487dd78605245a080ea575a6d627cca31beb25c58c8e4de", func := "loop.example/g00145/laws.FnExactPickTask", spec := "fnExactPickTask", unfollowed := true, recurses := true, apart := false, narrowed := true }
def FnExactPickTaskUptoSaid : Prop := fnExactPickTaskUptoRow.holds Try.pinned (OpenSpec.upto fnExactPickTaskSpec)

/-- 'laws.FnExactYieldTask', WHERE WHAT IT READS IS OF BULK AT MOST 1048576: true; the input reads as it did. -/
def fnExactYieldTaskUptoRow : OpenClaim := { program := "ytemmjkmaiedadaa", sum := "6154ad3b79e29a352487dd78605245a080ea575a6d627cca31beb25c58c8e4de", func := "loop.example/g00145/laws.FnExactYieldTask", spec := "fnExactYieldTask", unfollowed := true, recurses := true, apart := false, narrowed := true }
def FnExactYieldTaskUptoSaid : Prop := fnExactYieldTaskUptoRow.holds Try.pinned (OpenSpec.upto fnExactYieldTaskSpec)

/-- 'laws.FnExactParkTask', WHERE WHAT IT READS IS OF BULK AT MOST 1048576: true; the input reads as it did. -/
def fnExactParkTaskUptoRow : OpenClaim := { program := "ytemmjkmaiedadaa", sum := "6154ad3b79e29a352487dd78605245a080ea575a6d627cca31beb25c58c8e4de", func := "loop.example/g00145/laws.FnExactParkTask", spec := "fnExactParkTask", unfollowed := true, recurses := true, apart := false, narrowed := true }
def FnExactParkTaskUptoSaid : Prop := fnExactParkTaskUptoRow.holds Try.pinned (OpenSpec.upto fnExactParkTaskSpec)

/-- 'laws.FnExactEndTask', WHERE WHAT IT READS IS OF BULK AT MOST 1048576: true; the input reads as it did. -/
def fnExactEndTaskUptoRow : OpenClaim := { program := "ytemmjkmaiedadaa", sum := "6154ad3b79e29a352487dd78605245a080ea575a6d627cca31beb25c58c8e4de", func := "loop.example/g00145/laws.FnExactEndTask", spec := "fnExactEndTask", unfollowed := true, recurses := true, apart := false, narrowed := true }
def FnExactEndTaskUptoSaid : Prop := fnExactEndTaskUptoRow.holds Try.pinned (OpenSpec.upto fnExactEndTaskSpec)

/-- 'laws.FnExactWakeTask', WHERE WHAT IT READS IS OF BULK AT MOST 1048576: true; the input reads as it did. -/
def fnExactWakeTaskUptoRow : OpenClaim := { program := "ytemmjkmaiedadaa", sum := "6154ad3b79e29a352487dd78605245a080ea575a6d627cca31beb25c58c8e4de", func := "loop.example/g00145/laws.FnExactWakeTask", spec := "fnExactWakeTask", unfollowed := true, recurses := true, apart := false, narrowed := true }
def FnExactWakeTaskUptoSaid : Prop := fnExactWakeTaskUptoRow.holds Try.pinned (OpenSpec.upto fnExactWakeTaskSpec)

/-- 'laws.FnExactKillTask', WHERE WHAT IT READS IS OF BULK AT MOST 1048576: true; the input reads as it did. -/
def fnExactKillTaskUptoRow : OpenClaim := { program := "ytemmjkmaiedadaa", sum := "6154ad3b79e29a352487dd78605245a080ea575a6d627cca31beb25c58c8e4de", func := "loop.example/g00145/laws.FnExactKillTask", spec := "fnExactKillTask", unfollowed := true, recurses := true, apart := false, narrowed := true }
def FnExactKillTaskUptoSaid : Prop := fnExactKillTaskUptoRow.holds Try.pinned (OpenSpec.upto fnExactKillTaskSpec)

/-- 'laws.FnExactMostPassed', WHERE WHAT IT READS IS OF BULK AT MOST 1048576: true; the input reads as it did. -/
def fnExactMostPassedUptoRow : OpenClaim := { program := "ytemmjkmaiedadaa", sum := "6154ad3b79e29a352487dd78605245a080ea575a6d627cca31beb25c58c8e4de", func := "loop.example/g00145/laws.FnExactMostPassed", spec := "fnExactMostPassed", unfollowed := true, recurses := true, apart := false, narrowed := true }
def FnExactMostPassedUptoSaid : Prop := fnExactMostPassedUptoRow.holds Try.pinned (OpenSpec.upto fnExactMostPassedSpec)

end Rows
end Go.Proofs.Ytemmjkmaiedadaa
