/-
  No cell of these rows narrows 'for every input' (looked for: loops, veiled, ifaces, maps, wideKeys, modest, calm, conditions, laid).
  DERIVED. THE GIVEN ROWS OF THIS SEAT. 9 by the template 'for every input the law returns true; each argument reads behind the call as it read before'; 0 by the template 'total and deterministic' (their statements: YtblnlhdcdeiedaaTotals.lean).
  GIVEN WITH THE SEED: the statements are not yours to turn. If you find one false, say at which input.
  Laid BY PROGRAM, IN A SANDBOX (cutbox-rows.mjs): the forced cells as the released guide's own fill.sh prints them over the translation 52719cbc1c305149… (all of the seat's roots in one cut). By AI agents, Wed Nov 11 2026. No macro, syntax, notation, axiom, sorry.
-/
import Derived.Test.YtblnlhdcdeiedaaChecked
import GoSem.Claim
import GoSem.ClaimJoined
import GoSem.ClaimMapViews
import Derived.JoinedTies
import Derived.KernelRfl
namespace Go.Proofs.Ytblnlhdcdeiedaa
/- THE CELL 'sum', in the pinned program and in every row, IS THE sha256 OF THE DUMP (.gsa) THAT YtblnlhdcdeiedaaProg.lean LOADS. Nothing in Lean hashes anything: it is a label: what it is worth is what the hold of that sum in a sandbox is worth. -/
noncomputable def Try.pinned : Pinned := { name := "ytblnlhdcdeiedaa", sum := "52719cbc1c3051496d7d48e3c941e47b8791a159fa2d4c2e6cf2e5d3935aa69a", checked := Try.checked }
namespace Rows
def none {H : Type} : Left H := { results := [], args := [] }

/-- 'laws.FnSent': WHATEVER THE INPUT: true; the input reads as it did. -/
def fnSentSpec : ChangeSpec := { name := "fnSent", fn := fun _ => fun
  | [d] => { results := [.lit (.bool true)], args := [d] }
  | _ => none }
def fnSentRow : OpenClaim := { program := "ytblnlhdcdeiedaa", sum := "52719cbc1c3051496d7d48e3c941e47b8791a159fa2d4c2e6cf2e5d3935aa69a", func := "loop.example/g00145/laws.FnSent", spec := "fnSent", unfollowed := true, recurses := true, apart := false }
def FnSentSaid : Prop := fnSentRow.holds Try.pinned (OpenSpec.ofChange fnSentSpec)

/-- ITS FALSE NEIGHBOUR: 'it returns false'. Refute it at one input. -/
def fnSentWrong : ChangeSpec := { name := "fnSent", fn := fun _ => fun
  | [d] => { results := [.lit (.bool false)], args := [d] }
  | _ => none }
def FnSentWrongFalsely : Prop := fnSentRow.holds Try.pinned (OpenSpec.ofChange fnSentWrong)

/-- 'laws.FnExactNewChan': WHATEVER THE INPUT: true; the input reads as it did. -/
def fnExactNewChanSpec : ChangeSpec := { name := "fnExactNewChan", fn := fun _ => fun
  | [d] => { results := [.lit (.bool true)], args := [d] }
  | _ => none }
def fnExactNewChanRow : OpenClaim := { program := "ytblnlhdcdeiedaa", sum := "52719cbc1c3051496d7d48e3c941e47b8791a159fa2d4c2e6cf2e5d3935aa69a", func := "loop.example/g00145/laws.FnExactNewChan", spec := "fnExactNewChan", unfollowed := true, recurses := true, apart := false }
def FnExactNewChanSaid : Prop := fnExactNewChanRow.holds Try.pinned (OpenSpec.ofChange fnExactNewChanSpec)

/-- ITS FALSE NEIGHBOUR: 'it returns false'. Refute it at one input. -/
def fnExactNewChanWrong : ChangeSpec := { name := "fnExactNewChan", fn := fun _ => fun
  | [d] => { results := [.lit (.bool false)], args := [d] }
  | _ => none }
def FnExactNewChanWrongFalsely : Prop := fnExactNewChanRow.holds Try.pinned (OpenSpec.ofChange fnExactNewChanWrong)

/-- 'laws.FnExactGoodChan': WHATEVER THE INPUT: true; the input reads as it did. -/
def fnExactGoodChanSpec : ChangeSpec := { name := "fnExactGoodChan", fn := fun _ => fun
  | [d] => { results := [.lit (.bool true)], args := [d] }
  | _ => none }
def fnExactGoodChanRow : OpenClaim := { program := "ytblnlhdcdeiedaa", sum := "52719cbc1c3051496d7d48e3c941e47b8791a159fa2d4c2e6cf2e5d3935aa69a", func := "loop.example/g00145/laws.FnExactGoodChan", spec := "fnExactGoodChan", unfollowed := true, recurses := true, apart := false }
def FnExactGoodChanSaid : Prop := fnExactGoodChanRow.holds Try.pinned (OpenSpec.ofChange fnExactGoodChanSpec)

/-- ITS FALSE NEIGHBOUR: 'it returns false'. Refute it at one input. -/
def fnExactGoodChanWrong : ChangeSpec := { name := "fnExactGoodChan", fn := fun _ => fun
  | [d] => { results := [.lit (.bool false)], args := [d] }
  | _ => none }
def FnExactGoodChanWrongFalsely : Prop := fnExactGoodChanRow.holds Try.pinned (OpenSpec.ofChange fnExactGoodChanWrong)

/-- 'laws.FnExactMaySend': WHATEVER THE INPUT: true; the input reads as it did. -/
def fnExactMaySendSpec : ChangeSpec := { name := "fnExactMaySend", fn := fun _ => fun
  | [d] => { results := [.lit (.bool true)], args := [d] }
  | _ => none }
def fnExactMaySendRow : OpenClaim := { program := "ytblnlhdcdeiedaa", sum := "52719cbc1c3051496d7d48e3c941e47b8791a159fa2d4c2e6cf2e5d3935aa69a", func := "loop.example/g00145/laws.FnExactMaySend", spec := "fnExactMaySend", unfollowed := true, recurses := true, apart := false }
def FnExactMaySendSaid : Prop := fnExactMaySendRow.holds Try.pinned (OpenSpec.ofChange fnExactMaySendSpec)

/-- ITS FALSE NEIGHBOUR: 'it returns false'. Refute it at one input. -/
def fnExactMaySendWrong : ChangeSpec := { name := "fnExactMaySend", fn := fun _ => fun
  | [d] => { results := [.lit (.bool false)], args := [d] }
  | _ => none }
def FnExactMaySendWrongFalsely : Prop := fnExactMaySendRow.holds Try.pinned (OpenSpec.ofChange fnExactMaySendWrong)

/-- 'laws.FnExactMayReceive': WHATEVER THE INPUT: true; the input reads as it did. -/
def fnExactMayReceiveSpec : ChangeSpec := { name := "fnExactMayReceive", fn := fun _ => fun
  | [d] => { results := [.lit (.bool true)], args := [d] }
  | _ => none }
def fnExactMayReceiveRow : OpenClaim := { program := "ytblnlhdcdeiedaa", sum := "52719cbc1c3051496d7d48e3c941e47b8791a159fa2d4c2e6cf2e5d3935aa69a", func := "loop.example/g00145/laws.FnExactMayReceive", spec := "fnExactMayReceive", unfollowed := true, recurses := true, apart := false }
def FnExactMayReceiveSaid : Prop := fnExactMayReceiveRow.holds Try.pinned (OpenSpec.ofChange fnExactMayReceiveSpec)

/-- ITS FALSE NEIGHBOUR: 'it returns false'. Refute it at one input. -/
def fnExactMayReceiveWrong : ChangeSpec := { name := "fnExactMayReceive", fn := fun _ => fun
  | [d] => { results := [.lit (.bool false)], args := [d] }
  | _ => none }
def FnExactMayReceiveWrongFalsely : Prop := fnExactMayReceiveRow.holds Try.pinned (OpenSpec.ofChange fnExactMayReceiveWrong)

/-- 'laws.FnExactSendOn': WHATEVER THE INPUT: true; the input reads as it did. -/
def fnExactSendOnSpec : ChangeSpec := { name := "fnExactSendOn", fn := fun _ => fun
  | [d1, d2] => { results := [.lit (.bool true)], args := [d1, d2] }
  | _ => none }
def fnExactSendOnRow : OpenClaim := { program := "ytblnlhdcdeiedaa", sum := "52719cbc1c3051496d7d48e3c941e47b8791a159fa2d4c2e6cf2e5d3935aa69a", func := "loop.example/g00145/laws.FnExactSendOn", spec := "fnExactSendOn", unfollowed := true, recurses := true, apart := false }
def FnExactSendOnSaid : Prop := fnExactSendOnRow.holds Try.pinned (OpenSpec.ofChange fnExactSendOnSpec)

/-- ITS FALSE NEIGHBOUR: 'it returns false'. Refute it at one input. -/
def fnExactSendOnWrong : ChangeSpec := { name := "fnExactSendOn", fn := fun _ => fun
  | [d1, d2] => { results := [.lit (.bool false)], args := [d1, d2] }
  | _ => none }
def FnExactSendOnWrongFalsely : Prop := fnExactSendOnRow.holds Try.pinned (OpenSpec.ofChange fnExactSendOnWrong)

/-- 'laws.FnExactReceiveFrom': WHATEVER THE INPUT: true; the input reads as it did. -/
def fnExactReceiveFromSpec : ChangeSpec := { name := "fnExactReceiveFrom", fn := fun _ => fun
  | [d1, d2] => { results := [.lit (.bool true)], args := [d1, d2] }
  | _ => none }
def fnExactReceiveFromRow : OpenClaim := { program := "ytblnlhdcdeiedaa", sum := "52719cbc1c3051496d7d48e3c941e47b8791a159fa2d4c2e6cf2e5d3935aa69a", func := "loop.example/g00145/laws.FnExactReceiveFrom", spec := "fnExactReceiveFrom", unfollowed := true, recurses := true, apart := false }
def FnExactReceiveFromSaid : Prop := fnExactReceiveFromRow.holds Try.pinned (OpenSpec.ofChange fnExactReceiveFromSpec)

/-- ITS FALSE NEIGHBOUR: 'it returns false'. Refute it at one input. -/
def fnExactReceiveFromWrong : ChangeSpec := { name := "fnExactReceiveFrom", fn := fun _ => fun
  | [d1, d2] => { results := [.lit (.bool false)], args := [d1, d2] }
  | _ => none }
def FnExactReceiveFromWrongFalsely : Prop := fnExactReceiveFromRow.holds Try.pinned (OpenSpec.ofChange fnExactReceiveFromWrong)

/-- 'laws.FnExactCloseChan': WHATEVER THE INPUT: true; the input reads as it did. -/
def fnExactCloseChanSpec : ChangeSpec := { name := "fnExactCloseChan", fn := fun _ => fun
  | [d] => { results := [.lit (.bool true)], args := [d] }
  | _ => none }
def fnExactCloseChanRow : OpenClaim := { program := "ytblnlhdcdeiedaa", sum := "52719cbc1c3051496d7d48e3c941e47b8791a159fa2d4c2e6cf2e5d3935aa69a", func := "loop.example/g00145/laws.FnExactCloseChan", spec := "fnExactCloseChan", unfollowed := true, recurses := true, apart := false }
def FnExactCloseChanSaid : Prop := fnExactCloseChanRow.holds Try.pinned (OpenSpec.ofChange fnExactCloseChanSpec)

/-- ITS FALSE NEIGHBOUR: 'it returns false'. Refute it at one input. -/
def fnExactCloseChanWrong : ChangeSpec := { name := "fnExactCloseChan", fn := fun _ => fun
  | [d] => { results := [.lit (.bool false)], args := [d] }
  | _ => none }
def FnExactCloseChanWrongFalsely : Prop := fnExactCloseChanRow.holds Try.pinned (OpenSpec.ofChange fnExactCloseChanWrong)

/-- 'laws.FnExactLeaveChan': WHATEVER THE INPUT: true; the input reads as it did. -/
def fnExactLeaveChanSpec : ChangeSpec := { name := "fnExactLeaveChan", fn := fun _ => fun
  | [d1, d2] => { results := [.lit (.bool true)], args := [d1, d2] }
  | _ => none }
def fnExactLeaveChanRow : OpenClaim := { program := "ytblnlhdcdeiedaa", sum := "52719cbc1c3051496d7d48e3c941e47b8791a159fa2d4c2e6cf2e5d3935aa69a", func := "loop.example/g00145/laws.FnExactLeaveChan", spec := "fnExactLeaveChan", unfollowed := true, recurses := true, apart := false }
def FnExactLeaveChanSaid : Prop := fnExactLeaveChanRow.holds Try.pinned (OpenSpec.ofChange fnExactLeaveChanSpec)

/-- ITS FALSE NEIGHBOUR: 'it returns false'. Refute it at one input. -/
def fnExactLeaveChanWrong : ChangeSpec := { name := "fnExactLeaveChan", fn := fun _ => fun
  | [d1, d2] => { results := [.lit (.bool false)], args := [d1, d2] }
  | _ => none }
def FnExactLeaveChanWrongFalsely : Prop := fnExactLeaveChanRow.holds Try.pinned (OpenSpec.ofChange fnExactLeaveChanWrong)

/- THE SECOND FORM. 'bulk': how many values and letters a reading holds, each counted each time it is reached (what is shared counts as often as it is met; a slice's spare places count too). A statement '..UptoSaid' is the law's where the arguments, and the package variables that the reading takes, are together of bulk at most 1048576: NARROWER than '..Said'. Prove '..Said' where nothing that the law and all that it calls make is longer than what came in: it says more and counts as full. Else prove '..UptoSaid'. A law counts once. -/
mutual
def uptoBulk {H : Type} : DataW H → Nat
  | .lit (.string bytes) => bytes.length + 1
  | .lit _ => 1
  | .nil => 1
  | .ptr d => uptoBulk d + 1
  | .slice elems spare => uptoBulkAll elems + uptoBulkAll spare + 1
  | .agg parts => uptoBulkAll parts + 1
  | .iface _ d => uptoBulk d + 1
  | .map entries => uptoBulkEntries entries + 1
  | .held _ => 1
def uptoBulkAll {H : Type} : List (DataW H) → Nat
  | [] => 0
  | d :: r => uptoBulk d + uptoBulkAll r
def uptoBulkEntries {H : Type} : List (Lit × DataW H) → Nat
  | [] => 0
  | x :: r => uptoBulkEntry x + uptoBulkEntries r
def uptoBulkEntry {H : Type} : Lit × DataW H → Nat
  | (.string bytes, d) => bytes.length + uptoBulk d + 1
  | (_, d) => uptoBulk d + 1
 end
def uptoSmall : (H : Type) → List (DataW H) → Bool := fun _ ds => decide (uptoBulkAll ds ≤ 1048576)
def OpenSpec.upto (s : _root_.Go.ChangeSpec) : _root_.Go.OpenSpec := { _root_.Go.OpenSpec.ofChange s with cond := some uptoSmall }

/-- 'laws.FnSent', WHERE WHAT IT READS IS OF BULK AT MOST 1048576: true; the input reads as it did. -/
def fnSentUptoRow : OpenClaim := { program := "ytblnlhdcdeiedaa", sum := "52719cbc1c3051496d7d48e3c941e47b8791a159fa2d4c2e6cf2e5d3935aa69a", func := "loop.example/g00145/laws.FnSent", spec := "fnSent", unfollowed := true, recurses := true, apart := false, narrowed := true }
def FnSentUptoSaid : Prop := fnSentUptoRow.holds Try.pinned (OpenSpec.upto fnSentSpec)

/-- 'laws.FnExactNewChan', WHERE WHAT IT READS IS OF BULK AT MOST 1048576: true; the input reads as it did. -/
def fnExactNewChanUptoRow : OpenClaim := { program := "ytblnlhdcdeiedaa", sum := "52719cbc1c3051496d7d48e3c941e47b8791a159fa2d4c2e6cf2e5d3935aa69a", func := "loop.example/g00145/laws.FnExactNewChan", spec := "fnExactNewChan", unfollowed := true, recurses := true, apart := false, narrowed := true }
def FnExactNewChanUptoSaid : Prop := fnExactNewChanUptoRow.holds Try.pinned (OpenSpec.upto fnExactNewChanSpec)

/-- 'laws.FnExactGoodChan', WHERE WHAT IT READS IS OF BULK AT MOST 1048576: true; the input reads as it did. -/
def fnExactGoodChanUptoRow : OpenClaim := { program := "ytblnlhdcdeiedaa", sum := "52719cbc1c3051496d7d48e3c941e47b8791a159fa2d4c2e6cf2e5d3935aa69a", func := "loop.example/g00145/laws.FnExactGoodChan", spec := "fnExactGoodChan", unfollowed := true, recurses := true, apart := false, narrowed := true }
def FnExactGoodChanUptoSaid : Prop := fnExactGoodChanUptoRow.holds Try.pinned (OpenSpec.upto fnExactGoodChanSpec)

/-- 'laws.FnExactMaySend', WHERE WHAT IT READS IS OF BULK AT MOST 1048576: true; the input reads as it did. -/
def fnExactMaySendUptoRow : OpenClaim := { program := "ytblnlhdcdeiedaa", sum := "52719cbc1c3051496d7d48e3c941e47b8791a159fa2d4c2e6cf2e5d3935aa69a", func := "loop.example/g00145/laws.FnExactMaySend", spec := "fnExactMaySend", unfollowed := true, recurses := true, apart := false, narrowed := true }
def FnExactMaySendUptoSaid : Prop := fnExactMaySendUptoRow.holds Try.pinned (OpenSpec.upto fnExactMaySendSpec)

/-- 'laws.FnExactMayReceive', WHERE WHAT IT READS IS OF BULK AT MOST 1048576: true; the input reads as it did. -/
def fnExactMayReceiveUptoRow : OpenClaim := { program := "ytblnlhdcdeiedaa", sum := "52719cbc1c3051496d7d48e3c941e47b8791a159fa2d4c2e6cf2e5d3935aa69a", func := "loop.example/g00145/laws.FnExactMayReceive", spec := "fnExactMayReceive", unfollowed := true, recurses := true, apart := false, narrowed := true }
def FnExactMayReceiveUptoSaid : Prop := fnExactMayReceiveUptoRow.holds Try.pinned (OpenSpec.upto fnExactMayReceiveSpec)

/-- 'laws.FnExactSendOn', WHERE WHAT IT READS IS OF BULK AT MOST 1048576: true; the input reads as it did. -/
def fnExactSendOnUptoRow : OpenClaim := { program := "ytblnlhdcdeiedaa", sum := "52719cbc1c3051496d7d48e3c941e47b8791a159fa2d4c2e6cf2e5d3935aa69a", func := "loop.example/g00145/laws.FnExactSendOn", spec := "fnExactSendOn", unfollowed := true, recurses := true, apart := false, narrowed := true }
def FnExactSendOnUptoSaid : Prop := fnExactSendOnUptoRow.holds Try.pinned (OpenSpec.upto fnExactSendOnSpec)

/-- 'laws.FnExactReceiveFrom', WHERE WHAT IT READS IS OF BULK AT MOST 1048576: true; the input reads as it did. -/
def fnExactReceiveFromUptoRow : OpenClaim := { program := "ytblnlhdcdeiedaa", sum := "52719cbc1c3051496d7d48e3c941e47b8791a159fa2d4c2e6cf2e5d3935aa69a", func := "loop.example/g00145/laws.FnExactReceiveFrom", spec := "fnExactReceiveFrom", unfollowed := true, recurses := true, apart := false, narrowed := true }
def FnExactReceiveFromUptoSaid : Prop := fnExactReceiveFromUptoRow.holds Try.pinned (OpenSpec.upto fnExactReceiveFromSpec)

/-- 'laws.FnExactCloseChan', WHERE WHAT IT READS IS OF BULK AT MOST 1048576: true; the input reads as it did. -/
def fnExactCloseChanUptoRow : OpenClaim := { program := "ytblnlhdcdeiedaa", sum := "52719cbc1c3051496d7d48e3c941e47b8791a159fa2d4c2e6cf2e5d3935aa69a", func := "loop.example/g00145/laws.FnExactCloseChan", spec := "fnExactCloseChan", unfollowed := true, recurses := true, apart := false, narrowed := true }
def FnExactCloseChanUptoSaid : Prop := fnExactCloseChanUptoRow.holds Try.pinned (OpenSpec.upto fnExactCloseChanSpec)

/-- 'laws.FnExactLeaveChan', WHERE WHAT IT READS IS OF BULK AT MOST 1048576: true; the input reads as it did. -/
def fnExactLeaveChanUptoRow : OpenClaim := { program := "ytblnlhdcdeiedaa", sum := "52719cbc1c3051496d7d48e3c941e47b8791a159fa2d4c2e6cf2e5d3935aa69a", func := "loop.example/g00145/laws.FnExactLeaveChan", spec := "fnExactLeaveChan", unfollowed := true, recurses := true, apart := false, narrowed := true }
def FnExactLeaveChanUptoSaid : Prop := fnExactLeaveChanUptoRow.holds Try.pinned (OpenSpec.upto fnExactLeaveChanSpec)

end Rows
end Go.Proofs.Ytblnlhdcdeiedaa
