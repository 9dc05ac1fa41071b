/-
  No cell of these rows narrows 'for every input' (looked for: loops, veiled, ifaces, maps, wideKeys, modest, calm, conditions, laid).
  DERIVED. THE GIVEN ROWS OF THIS SEAT. 9 by the template 'for every input the law returns true; each argument reads behind the call as it read before'; 0 by the template 'total and deterministic' (their statements: YtlnjhajdbofhlaaTotals.lean).
  GIVEN WITH THE SEED: the statements are not yours to turn. If you find one false, say at which input.
  Laid BY PROGRAM, IN A SANDBOX (cutbox-rows.mjs): the forced cells as the released guide's own fill.sh prints them over the translation 618f39d054f30ec9… (all of the seat's roots in one cut). By AI agents, Wed Nov 11 2026. No macro, syntax, notation, axiom, sorry.
-/
import Derived.Test.YtlnjhajdbofhlaaChecked
import GoSem.Claim
import GoSem.ClaimJoined
import GoSem.ClaimMapViews
import Derived.JoinedTies
import Derived.KernelRfl
namespace Go.Proofs.Ytlnjhajdbofhlaa
/- THE CELL 'sum', in the pinned program and in every row, IS THE sha256 OF THE DUMP (.gsa) THAT YtlnjhajdbofhlaaProg.lean LOADS. Nothing in Lean hashes anything: it is a label: what it is worth is what the hold of that sum in a sandbox is worth. -/
noncomputable def Try.pinned : Pinned := { name := "ytlnjhajdbofhlaa", sum := "618f39d054f30ec914e5e00fb1b5b91a8ccd1842918a250a4ac0fe43bf630654", checked := Try.checked }
namespace Rows
def none {H : Type} : Left H := { results := [], args := [] }

/-- 'laws.FnSent': WHATEVER THE INPUT: true; the input reads as it did. -/
def fnSentSpec : ChangeSpec := { name := "fnSent", fn := fun _ => fun
  | [d] => { results := [.lit (.bool true)], args := [d] }
  | _ => none }
def fnSentRow : OpenClaim := { program := "ytlnjhajdbofhlaa", sum := "618f39d054f30ec914e5e00fb1b5b91a8ccd1842918a250a4ac0fe43bf630654", func := "loop.example/g00145/laws.FnSent", spec := "fnSent", unfollowed := true, recurses := true, apart := false }
def FnSentSaid : Prop := fnSentRow.holds Try.pinned (OpenSpec.ofChange fnSentSpec)

/-- ITS FALSE NEIGHBOUR: 'it returns false'. Refute it at one input. -/
def fnSentWrong : ChangeSpec := { name := "fnSent", fn := fun _ => fun
  | [d] => { results := [.lit (.bool false)], args := [d] }
  | _ => none }
def FnSentWrongFalsely : Prop := fnSentRow.holds Try.pinned (OpenSpec.ofChange fnSentWrong)

/-- 'laws.FnExactSendOn': WHATEVER THE INPUT: true; the input reads as it did. -/
def fnExactSendOnSpec : ChangeSpec := { name := "fnExactSendOn", fn := fun _ => fun
  | [d1, d2] => { results := [.lit (.bool true)], args := [d1, d2] }
  | _ => none }
def fnExactSendOnRow : OpenClaim := { program := "ytlnjhajdbofhlaa", sum := "618f39d054f30ec914e5e00fb1b5b91a8ccd1842918a250a4ac0fe43bf630654", func := "loop.example/g00145/laws.FnExactSendOn", spec := "fnExactSendOn", unfollowed := true, recurses := true, apart := false }
def FnExactSendOnSaid : Prop := fnExactSendOnRow.holds Try.pinned (OpenSpec.ofChange fnExactSendOnSpec)

/-- ITS FALSE NEIGHBOUR: 'it returns false'. Refute it at one input. -/
def fnExactSendOnWrong : ChangeSpec := { name := "fnExactSendOn", fn := fun _ => fun
  | [d1, d2] => { results := [.lit (.bool false)], args := [d1, d2] }
  | _ => none }
def FnExactSendOnWrongFalsely : Prop := fnExactSendOnRow.holds Try.pinned (OpenSpec.ofChange fnExactSendOnWrong)

/-- 'laws.FnExactReceiveFrom': WHATEVER THE INPUT: true; the input reads as it did. -/
def fnExactReceiveFromSpec : ChangeSpec := { name := "fnExactReceiveFrom", fn := fun _ => fun
  | [d1, d2] => { results := [.lit (.bool true)], args := [d1, d2] }
  | _ => none }
def fnExactReceiveFromRow : OpenClaim := { program := "ytlnjhajdbofhlaa", sum := "618f39d054f30ec914e5e00fb1b5b91a8ccd1842918a250a4ac0fe43bf630654", func := "loop.example/g00145/laws.FnExactReceiveFrom", spec := "fnExactReceiveFrom", unfollowed := true, recurses := true, apart := false }
def FnExactReceiveFromSaid : Prop := fnExactReceiveFromRow.holds Try.pinned (OpenSpec.ofChange fnExactReceiveFromSpec)

/-- ITS FALSE NEIGHBOUR: 'it returns false'. Refute it at one input. -/
def fnExactReceiveFromWrong : ChangeSpec := { name := "fnExactReceiveFrom", fn := fun _ => fun
  | [d1, d2] => { results := [.lit (.bool false)], args := [d1, d2] }
  | _ => none }
def FnExactReceiveFromWrongFalsely : Prop := fnExactReceiveFromRow.holds Try.pinned (OpenSpec.ofChange fnExactReceiveFromWrong)

/-- 'laws.FnExactGoodHub': WHATEVER THE INPUT: true; the input reads as it did. -/
def fnExactGoodHubSpec : ChangeSpec := { name := "fnExactGoodHub", fn := fun _ => fun
  | [d] => { results := [.lit (.bool true)], args := [d] }
  | _ => none }
def fnExactGoodHubRow : OpenClaim := { program := "ytlnjhajdbofhlaa", sum := "618f39d054f30ec914e5e00fb1b5b91a8ccd1842918a250a4ac0fe43bf630654", func := "loop.example/g00145/laws.FnExactGoodHub", spec := "fnExactGoodHub", unfollowed := true, recurses := true, apart := false }
def FnExactGoodHubSaid : Prop := fnExactGoodHubRow.holds Try.pinned (OpenSpec.ofChange fnExactGoodHubSpec)

/-- ITS FALSE NEIGHBOUR: 'it returns false'. Refute it at one input. -/
def fnExactGoodHubWrong : ChangeSpec := { name := "fnExactGoodHub", fn := fun _ => fun
  | [d] => { results := [.lit (.bool false)], args := [d] }
  | _ => none }
def FnExactGoodHubWrongFalsely : Prop := fnExactGoodHubRow.holds Try.pinned (OpenSpec.ofChange fnExactGoodHubWrong)

/-- 'laws.FnExactGoodCases': WHATEVER THE INPUT: true; the input reads as it did. -/
def fnExactGoodCasesSpec : ChangeSpec := { name := "fnExactGoodCases", fn := fun _ => fun
  | [d1, d2] => { results := [.lit (.bool true)], args := [d1, d2] }
  | _ => none }
def fnExactGoodCasesRow : OpenClaim := { program := "ytlnjhajdbofhlaa", sum := "618f39d054f30ec914e5e00fb1b5b91a8ccd1842918a250a4ac0fe43bf630654", func := "loop.example/g00145/laws.FnExactGoodCases", spec := "fnExactGoodCases", unfollowed := true, recurses := true, apart := false }
def FnExactGoodCasesSaid : Prop := fnExactGoodCasesRow.holds Try.pinned (OpenSpec.ofChange fnExactGoodCasesSpec)

/-- ITS FALSE NEIGHBOUR: 'it returns false'. Refute it at one input. -/
def fnExactGoodCasesWrong : ChangeSpec := { name := "fnExactGoodCases", fn := fun _ => fun
  | [d1, d2] => { results := [.lit (.bool false)], args := [d1, d2] }
  | _ => none }
def FnExactGoodCasesWrongFalsely : Prop := fnExactGoodCasesRow.holds Try.pinned (OpenSpec.ofChange fnExactGoodCasesWrong)

/-- 'laws.FnExactReadyCases': WHATEVER THE INPUT: true; the input reads as it did. -/
def fnExactReadyCasesSpec : ChangeSpec := { name := "fnExactReadyCases", fn := fun _ => fun
  | [d1, d2] => { results := [.lit (.bool true)], args := [d1, d2] }
  | _ => none }
def fnExactReadyCasesRow : OpenClaim := { program := "ytlnjhajdbofhlaa", sum := "618f39d054f30ec914e5e00fb1b5b91a8ccd1842918a250a4ac0fe43bf630654", func := "loop.example/g00145/laws.FnExactReadyCases", spec := "fnExactReadyCases", unfollowed := true, recurses := true, apart := false }
def FnExactReadyCasesSaid : Prop := fnExactReadyCasesRow.holds Try.pinned (OpenSpec.ofChange fnExactReadyCasesSpec)

/-- ITS FALSE NEIGHBOUR: 'it returns false'. Refute it at one input. -/
def fnExactReadyCasesWrong : ChangeSpec := { name := "fnExactReadyCases", fn := fun _ => fun
  | [d1, d2] => { results := [.lit (.bool false)], args := [d1, d2] }
  | _ => none }
def FnExactReadyCasesWrongFalsely : Prop := fnExactReadyCasesRow.holds Try.pinned (OpenSpec.ofChange fnExactReadyCasesWrong)

/-- 'laws.FnExactWaitingCases': WHATEVER THE INPUT: true; the input reads as it did. -/
def fnExactWaitingCasesSpec : ChangeSpec := { name := "fnExactWaitingCases", fn := fun _ => fun
  | [d1, d2] => { results := [.lit (.bool true)], args := [d1, d2] }
  | _ => none }
def fnExactWaitingCasesRow : OpenClaim := { program := "ytlnjhajdbofhlaa", sum := "618f39d054f30ec914e5e00fb1b5b91a8ccd1842918a250a4ac0fe43bf630654", func := "loop.example/g00145/laws.FnExactWaitingCases", spec := "fnExactWaitingCases", unfollowed := true, recurses := true, apart := false }
def FnExactWaitingCasesSaid : Prop := fnExactWaitingCasesRow.holds Try.pinned (OpenSpec.ofChange fnExactWaitingCasesSpec)

/-- ITS FALSE NEIGHBOUR: 'it returns false'. Refute it at one input. -/
def fnExactWaitingCasesWrong : ChangeSpec := { name := "fnExactWaitingCases", fn := fun _ => fun
  | [d1, d2] => { results := [.lit (.bool false)], args := [d1, d2] }
  | _ => none }
def FnExactWaitingCasesWrongFalsely : Prop := fnExactWaitingCasesRow.holds Try.pinned (OpenSpec.ofChange fnExactWaitingCasesWrong)

/-- 'laws.FnExactCloseIn': WHATEVER THE INPUT: true; the input reads as it did. -/
def fnExactCloseInSpec : ChangeSpec := { name := "fnExactCloseIn", fn := fun _ => fun
  | [d1, d2] => { results := [.lit (.bool true)], args := [d1, d2] }
  | _ => none }
def fnExactCloseInRow : OpenClaim := { program := "ytlnjhajdbofhlaa", sum := "618f39d054f30ec914e5e00fb1b5b91a8ccd1842918a250a4ac0fe43bf630654", func := "loop.example/g00145/laws.FnExactCloseIn", spec := "fnExactCloseIn", unfollowed := true, recurses := true, apart := false }
def FnExactCloseInSaid : Prop := fnExactCloseInRow.holds Try.pinned (OpenSpec.ofChange fnExactCloseInSpec)

/-- ITS FALSE NEIGHBOUR: 'it returns false'. Refute it at one input. -/
def fnExactCloseInWrong : ChangeSpec := { name := "fnExactCloseIn", fn := fun _ => fun
  | [d1, d2] => { results := [.lit (.bool false)], args := [d1, d2] }
  | _ => none }
def FnExactCloseInWrongFalsely : Prop := fnExactCloseInRow.holds Try.pinned (OpenSpec.ofChange fnExactCloseInWrong)

/-- 'laws.FnExactKillIn': WHATEVER THE INPUT: true; the input reads as it did. -/
def fnExactKillInSpec : ChangeSpec := { name := "fnExactKillIn", fn := fun _ => fun
  | [d1, d2] => { results := [.lit (.bool true)], args := [d1, d2] }
  | _ => none }
def fnExactKillInRow : OpenClaim := { program := "ytlnjhajdbofhlaa", sum := "618f39d054f30ec914e5e00fb1b5b91a8ccd1842918a250a4ac0fe43bf630654", func := "loop.example/g00145/laws.FnExactKillIn", spec := "fnExactKillIn", unfollowed := true, recurses := true, apart := false }
def FnExactKillInSaid : Prop := fnExactKillInRow.holds Try.pinned (OpenSpec.ofChange fnExactKillInSpec)

/-- ITS FALSE NEIGHBOUR: 'it returns false'. Refute it at one input. -/
def fnExactKillInWrong : ChangeSpec := { name := "fnExactKillIn", fn := fun _ => fun
  | [d1, d2] => { results := [.lit (.bool false)], args := [d1, d2] }
  | _ => none }
def FnExactKillInWrongFalsely : Prop := fnExactKillInRow.holds Try.pinned (OpenSpec.ofChange fnExactKillInWrong)

/- THE SECOND FORM. 'bulk': how many values and letters a reading holds, each counted each time it is reached (what is shared counts as often as it is met; a slice's spare places count too). A statement '..UptoSaid' is the law's where the arguments, and the package variables that the reading takes, are together of bulk at most 1048576: NARROWER than '..Said'. Prove '..Said' where nothing that the law and all that it calls make is longer than what came in: it says more and counts as full. Else prove '..UptoSaid'. A law counts once. -/
mutual
def uptoBulk {H : Type} : DataW H → Nat
  | .lit (.string bytes) => bytes.length + 1
  | .lit _ => 1
  | .nil => 1
  | .ptr d => uptoBulk d + 1
  | .slice elems spare => uptoBulkAll elems + uptoBulkAll spare + 1
  | .agg parts => uptoBulkAll parts + 1
  | .iface _ d => uptoBulk d + 1
  | .map entries => uptoBulkEntries entries + 1
  | .held _ => 1
def uptoBulkAll {H : Type} : List (DataW H) → Nat
  | [] => 0
  | d :: r => uptoBulk d + uptoBulkAll r
def uptoBulkEntries {H : Type} : List (Lit × DataW H) → Nat
  | [] => 0
  | x :: r => uptoBulkEntry x + uptoBulkEntries r
def uptoBulkEntry {H : Type} : Lit × DataW H → Nat
  | (.string bytes, d) => bytes.length + uptoBulk d + 1
  | (_, d) => uptoBulk d + 1
 end
def uptoSmall : (H : Type) → List (DataW H) → Bool := fun _ ds => decide (uptoBulkAll ds ≤ 1048576)
def OpenSpec.upto (s : _root_.Go.ChangeSpec) : _root_.Go.OpenSpec := { _root_.Go.OpenSpec.ofChange s with cond := some uptoSmall }

/-- 'laws.FnSent', WHERE WHAT IT READS IS OF BULK AT MOST 1048576: true; the input reads as it did. -/
def fnSentUptoRow : OpenClaim := { program := "ytlnjhajdbofhlaa", sum := "618f39d054f30ec914e5e00fb1b5b91a8ccd1842918a250a4ac0fe43bf630654", func := "loop.example/g00145/laws.FnSent", spec := "fnSent", unfollowed := true, recurses := true, apart := false, narrowed := true }
def FnSentUptoSaid : Prop := fnSentUptoRow.holds Try.pinned (OpenSpec.upto fnSentSpec)

/-- 'laws.FnExactSendOn', WHERE WHAT IT READS IS OF BULK AT MOST 1048576: true; the input reads as it did. -/
def fnExactSendOnUptoRow : OpenClaim := { program := "ytlnjhajdbofhlaa", sum := "618f39d054f30ec914e5e00fb1b5b91a8ccd1842918a250a4ac0fe43bf630654", func := "loop.example/g00145/laws.FnExactSendOn", spec := "fnExactSendOn", unfollowed := true, recurses := true, apart := false, narrowed := true }
def FnExactSendOnUptoSaid : Prop := fnExactSendOnUptoRow.holds Try.pinned (OpenSpec.upto fnExactSendOnSpec)

/-- 'laws.FnExactReceiveFrom', WHERE WHAT IT READS IS OF BULK AT MOST 1048576: true; the input reads as it did. -/
def fnExactReceiveFromUptoRow : OpenClaim := { program := "ytlnjhajdbofhlaa", sum := "618f39d054f30ec914e5e00fb1b5b91a8ccd1842918a250a4ac0fe43bf630654", func := "loop.example/g00145/laws.FnExactReceiveFrom", spec := "fnExactReceiveFrom", unfollowed := true, recurses := true, apart := false, narrowed := true }
def FnExactReceiveFromUptoSaid : Prop := fnExactReceiveFromUptoRow.holds Try.pinned (OpenSpec.upto fnExactReceiveFromSpec)

/-- 'laws.FnExactGoodHub', WHERE WHAT IT READS IS OF BULK AT MOST 1048576: true; the input reads as it did. -/
def fnExactGoodHubUptoRow : OpenClaim := { program := "ytlnjhajdbofhlaa", sum := "618f39d054f30ec914e5e00fb1b5b91a8ccd1842918a250a4ac0fe43bf630654", func := "loop.example/g00145/laws.FnExactGoodHub", spec := "fnExactGoodHub", unfollowed := true, recurses := true, apart := false, narrowed := true }
def FnExactGoodHubUptoSaid : Prop := fnExactGoodHubUptoRow.holds Try.pinned (OpenSpec.upto fnExactGoodHubSpec)

/-- 'laws.FnExactGoodCases', WHERE WHAT IT READS IS OF BULK AT MOST 1048576: true; the input reads as it did. -/
def fnExactGoodCasesUptoRow : OpenClaim := { program := "ytlnjhajdbofhlaa", sum := "618f39d054f30ec914e5e00fb1b5b91a8ccd1842918a250a4ac0fe43bf630654", func := "loop.example/g00145/laws.FnExactGoodCases", spec := "fnExactGoodCases", unfollowed := true, recurses := true, apart := false, narrowed := true }
def FnExactGoodCasesUptoSaid : Prop := fnExactGoodCasesUptoRow.holds Try.pinned (OpenSpec.upto fnExactGoodCasesSpec)

/-- 'laws.FnExactReadyCases', WHERE WHAT IT READS IS OF BULK AT MOST 1048576: true; the input reads as it did. -/
def fnExactReadyCasesUptoRow : OpenClaim := { program := "ytlnjhajdbofhlaa", sum := "618f39d054f30ec914e5e00fb1b5b91a8ccd1842918a250a4ac0fe43bf630654", func := "loop.example/g00145/laws.FnExactReadyCases", spec := "fnExactReadyCases", unfollowed := true, recurses := true, apart := false, narrowed := true }
def FnExactReadyCasesUptoSaid : Prop := fnExactReadyCasesUptoRow.holds Try.pinned (OpenSpec.upto fnExactReadyCasesSpec)

/-- 'laws.FnExactWaitingCases', WHERE WHAT IT READS IS OF BULK AT MOST 1048576: true; the input reads as it did. -/
def fnExactWaitingCasesUptoRow : OpenClaim := { program := "ytlnjhajdbofhlaa", sum := "618f39d054f30ec914e5e00fb1b5b91a8ccd1842918a250a4ac0fe43bf630654", func := "loop.example/g00145/laws.FnExactWaitingCases", spec := "fnExactWaitingCases", unfollowed := true, recurses := true, apart := false, narrowed := true }
def FnExactWaitingCasesUptoSaid : Prop := fnExactWaitingCasesUptoRow.holds Try.pinned (OpenSpec.upto fnExactWaitingCasesSpec)

/-- 'laws.FnExactCloseIn', WHERE WHAT IT READS IS OF BULK AT MOST 1048576: true; the input reads as it did. -/
def fnExactCloseInUptoRow : OpenClaim := { program := "ytlnjhajdbofhlaa", sum := "618f39d054f30ec914e5e00fb1b5b91a8ccd1842918a250a4ac0fe43bf630654", func := "loop.example/g00145/laws.FnExactCloseIn", spec := "fnExactCloseIn", unfollowed := true, recurses := true, apart := false, narrowed := true }
def FnExactCloseInUptoSaid : Prop := fnExactCloseInUptoRow.holds Try.pinned (OpenSpec.upto fnExactCloseInSpec)

/-- 'laws.FnExactKillIn', WHERE WHAT IT READS IS OF BULK AT MOST 1048576: true; the input reads as it did. -/
def fnExactKillInUptoRow : OpenClaim := { program := "ytlnjhajdbofhlaa", sum := "618f39d054f30ec914e5e00fb1b5b91a8ccd1842918a250a4ac0fe43bf630654", func := "loop.example/g00145/laws.FnExactKillIn", spec := "fnExactKillIn", unfollowed := true, recurses := true, apart := false, narrowed := true }
def FnExactKillInUptoSaid : Prop := fnExactKillInUptoRow.holds Try.pinned (OpenSpec.upto fnExactKillInSpec)

end Rows
end Go.Proofs.Ytlnjhajdbofhlaa
