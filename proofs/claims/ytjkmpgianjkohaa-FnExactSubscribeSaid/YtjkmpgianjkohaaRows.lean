/-
  No cell of these rows narrows 'for every input' (looked for: loops, veiled, ifaces, maps, wideKeys, modest, calm, conditions, laid).
  DERIVED. THE GIVEN ROWS OF THIS SEAT. 3 by the template 'for every input the law returns true; each argument reads behind the call as it read before'; 0 by the template 'total and deterministic' (their statements: YtjkmpgianjkohaaTotals.lean).
  GIVEN WITH THE SEED: the statements are not yours to turn. If you find one false, say at which input.
  Laid BY PROGRAM, IN A SANDBOX (cutbox-rows.mjs): the forced cells as the released guide's own fill.sh prints them over the translation 09d48990422a721c… (all of the seat's roots in one cut). By AI agents, Wed Nov 11 2026. No macro, syntax, notation, axiom, sorry.
-/
import Derived.Test.YtjkmpgianjkohaaChecked
import GoSem.Claim
import GoSem.ClaimJoined
import GoSem.ClaimMapViews
import Derived.JoinedTies
import Derived.KernelRfl
namespace Go.Proofs.Ytjkmpgianjkohaa
/- THE CELL 'sum', in the pinned program and in every row, IS THE sha256 OF THE DUMP (.gsa) THAT YtjkmpgianjkohaaProg.lean LOADS. Nothing in Lean hashes anything: it is a label: what it is worth is what the hold of that sum in a sandbox is worth. -/
noncomputable def Try.pinned : Pinned := { name := "ytjkmpgianjkohaa", sum := "09d48990422a721cc4600139900b4a2c94b6422a2aa32ef99b846e53d20c2d9b", checked := Try.checked }
namespace Rows
def none {H : Type} : Left H := { results := [], args := [] }

/-- 'laws.FnExactGoodTopic': WHATEVER THE INPUT: true; the input reads as it did. -/
def fnExactGoodTopicSpec : ChangeSpec := { name := "fnExactGoodTopic", fn := fun _ => fun
  | [d] => { results := [.lit (.bool true)], args := [d] }
  | _ => none }
def fnExactGoodTopicRow : OpenClaim := { program := "ytjkmpgianjkohaa", sum := "09d48990422a721cc4600139900b4a2c94b6422a2aa32ef99b846e53d20c2d9b", func := "loop.example/g00145/laws.FnExactGoodTopic", spec := "fnExactGoodTopic", apart := false }
def FnExactGoodTopicSaid : Prop := fnExactGoodTopicRow.holds Try.pinned (OpenSpec.ofChange fnExactGoodTopicSpec)

/-- ITS FALSE NEIGHBOUR: 'it returns false'. Refute it at one input. -/
def fnExactGoodTopicWrong : ChangeSpec := { name := "fnExactGoodTopic", fn := fun _ => fun
  | [d] => { results := [.lit (.bool false)], args := [d] }
  | _ => none }
def FnExactGoodTopicWrongFalsely : Prop := fnExactGoodTopicRow.holds Try.pinned (OpenSpec.ofChange fnExactGoodTopicWrong)

/-- 'laws.FnExactSubscribe': WHATEVER THE INPUT: true; the input reads as it did. -/
def fnExactSubscribeSpec : ChangeSpec := { name := "fnExactSubscribe", fn := fun _ => fun
  | [d1, d2, d3, d4] => { results := [.lit (.bool true)], args := [d1, d2, d3, d4] }
  | _ => none }
def fnExactSubscribeRow : OpenClaim := { program := "ytjkmpgianjkohaa", sum := "09d48990422a721cc4600139900b4a2c94b6422a2aa32ef99b846e53d20c2d9b", func := "loop.example/g00145/laws.FnExactSubscribe", spec := "fnExactSubscribe", inPlace := ["slices.overlaps[loop.example/g00145/impl.Sub]"], apart := false }
def FnExactSubscribeSaid : Prop := fnExactSubscribeRow.holds Try.pinned (OpenSpec.ofChange fnExactSubscribeSpec)

/-- ITS FALSE NEIGHBOUR: 'it returns false'. Refute it at one input. -/
def fnExactSubscribeWrong : ChangeSpec := { name := "fnExactSubscribe", fn := fun _ => fun
  | [d1, d2, d3, d4] => { results := [.lit (.bool false)], args := [d1, d2, d3, d4] }
  | _ => none }
def FnExactSubscribeWrongFalsely : Prop := fnExactSubscribeRow.holds Try.pinned (OpenSpec.ofChange fnExactSubscribeWrong)

/-- 'laws.FnExactWaitingOn': WHATEVER THE INPUT: true; the input reads as it did. -/
def fnExactWaitingOnSpec : ChangeSpec := { name := "fnExactWaitingOn", fn := fun _ => fun
  | [d] => { results := [.lit (.bool true)], args := [d] }
  | _ => none }
def fnExactWaitingOnRow : OpenClaim := { program := "ytjkmpgianjkohaa", sum := "09d48990422a721cc4600139900b4a2c94b6422a2aa32ef99b846e53d20c2d9b", func := "loop.example/g00145/laws.FnExactWaitingOn", spec := "fnExactWaitingOn", apart := false }
def FnExactWaitingOnSaid : Prop := fnExactWaitingOnRow.holds Try.pinned (OpenSpec.ofChange fnExactWaitingOnSpec)

/-- ITS FALSE NEIGHBOUR: 'it returns false'. Refute it at one input. -/
def fnExactWaitingOnWrong : ChangeSpec := { name := "fnExactWaitingOn", fn := fun _ => fun
  | [d] => { results := [.lit (.bool false)], args := [d] }
  | _ => none }
def FnExactWaitingOnWrongFalsely : Prop := fnExactWaitingOnRow.holds Try.pinned (OpenSpec.ofChange fnExactWaitingOnWrong)

/- THE SECOND FORM. 'bulk': how many values and letters a reading holds, each counted each time it is reached (what is shared counts as often as it is met; a slice's spare places count too). A statement '..UptoSaid' is the law's where the arguments, and the package variables that the reading takes, are together of bulk at most 1048576: NARROWER than '..Said'. Prove '..Said' where nothing that the law and all that it calls make is longer than what came in: it says more and counts as full. Else prove '..UptoSaid'. A law counts once. -/
mutual
def uptoBulk {H : Type} : DataW H → Nat
  | .lit (.string bytes) => bytes.length + 1
  | .lit _ => 1
  | .nil => 1
  | .ptr d => uptoBulk d + 1
  | .slice elems spare => uptoBulkAll elems + uptoBulkAll spare + 1
  | .agg parts => uptoBulkAll parts + 1
  | .iface _ d => uptoBulk d + 1
  | .map entries => uptoBulkEntries entries + 1
  | .held _ => 1
def uptoBulkAll {H : Type} : List (DataW H) → Nat
  | [] => 0
  | d :: r => uptoBulk d + uptoBulkAll r
def uptoBulkEntries {H : Type} : List (Lit × DataW H) → Nat
  | [] => 0
  | x :: r => uptoBulkEntry x + uptoBulkEntries r
def uptoBulkEntry {H : Type} : Lit × DataW H → Nat
  | (.string bytes, d) => bytes.length + uptoBulk d + 1
  | (_, d) => uptoBulk d + 1
 end
def uptoSmall : (H : Type) → List (DataW H) → Bool := fun _ ds => decide (uptoBulkAll ds ≤ 1048576)
def OpenSpec.upto (s : _root_.Go.ChangeSpec) : _root_.Go.OpenSpec := { _root_.Go.OpenSpec.ofChange s with cond := some uptoSmall }

/-- 'laws.FnExactGoodTopic', WHERE WHAT IT READS IS OF BULK AT MOST 1048576: true; the input reads as it did. -/
def fnExactGoodTopicUptoRow : OpenClaim := { program := "ytjkmpgianjkohaa", sum := "09d48990422a721cc4600139900b4a2c94b6422a2aa32ef99b846e53d20c2d9b", func := "loop.example/g00145/laws.FnExactGoodTopic", spec := "fnExactGoodTopic", apart := false, narrowed := true }
def FnExactGoodTopicUptoSaid : Prop := fnExactGoodTopicUptoRow.holds Try.pinned (OpenSpec.upto fnExactGoodTopicSpec)

/-- 'laws.FnExactSubscribe', WHERE WHAT IT READS IS OF BULK AT MOST 1048576: true; the input reads as it did. -/
def fnExactSubscribeUptoRow : OpenClaim := { program := "ytjkmpgianjkohaa", sum := "09d48990422a721cc4600139900b4a2c94b6422a2aa32ef99b846e53d20c2d9b", func := "loop.example/g00145/laws.FnExactSubscribe", spec := "fnExactSubscribe", inPlace := ["slices.overlaps[loop.example/g00145/impl.Sub]"], apart := false, narrowed := true }
def FnExactSubscribeUptoSaid : Prop := fnExactSubscribeUptoRow.holds Try.pinned (OpenSpec.upto fnExactSubscribeSpec)

/-- 'laws.FnExactWaitingOn', WHERE WHAT IT READS IS OF BULK AT MOST 1048576: true; the input reads as it did. -/
def fnExactWaitingOnUptoRow : OpenClaim := { program := "ytjkmpgianjkohaa", sum := "09d48990422a721cc4600139900b4a2c94b6422a2aa32ef99b846e53d20c2d9b", func := "loop.example/g00145/laws.FnExactWaitingOn", spec := "fnExactWaitingOn", apart := false, narrowed := true }
def FnExactWaitingOnUptoSaid : Prop := fnExactWaitingOnUptoRow.holds Try.pinned (OpenSpec.upto fnExactWaitingOnSpec)

end Rows
end Go.Proofs.Ytjkmpgianjkohaa
