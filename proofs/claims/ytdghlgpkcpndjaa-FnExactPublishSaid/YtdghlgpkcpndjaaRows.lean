/-
  No cell of these rows narrows 'for every input' (looked for: loops, veiled, ifaces, maps, wideKeys, modest, calm, conditions, laid).
  DERIVED. THE GIVEN ROWS OF THIS SEAT. 4 by the template 'for every input the law returns true; each argument reads behind the call as it read before'; 0 by the template 'total and deterministic' (their statements: YtdghlgpkcpndjaaTotals.lean).
  GIVEN WITH THE SEED: the statements are not yours to turn. If you find one false, say at which input.
  Laid BY PROGRAM, IN A SANDBOX (cutbox-rows.mjs): the forced cells as the released guide's own fill.sh prints them over the translation 6a999c29b1f11619… (all of the seat's roots in one cut). By AI agents, Wed Nov 11 2026. No macro, syntax, notation, axiom, sorry.
-/
import Derived.Test.YtdghlgpkcpndjaaChecked
import GoSem.Claim
import GoSem.ClaimJoined
import GoSem.ClaimMapViews
import Derived.JoinedTies
import Derived.KernelRfl
namespace Go.Proofs.Ytdghlgpkcpndjaa
/- THE CELL 'sum', in the pinned program and in every row, IS THE sha256 OF THE DUMP (.gsa) THAT YtdghlgpkcpndjaaProg.lean LOADS. Nothing in Lean hashes anything: it is a label: what it is worth is what the hold of that sum in a sandbox is worth. -/
noncomputable def Try.pinned : Pinned := { name := "ytdghlgpkcpndjaa", sum := "6a999c29b1f11619dfc0ef52343399ed74b478c4f34f18c196a54e20e29827b2", checked := Try.checked }
namespace Rows
def none {H : Type} : Left H := { results := [], args := [] }

/-- 'laws.FnHeard': WHATEVER THE INPUT: true; the input reads as it did. -/
def fnHeardSpec : ChangeSpec := { name := "fnHeard", fn := fun _ => fun
  | [d] => { results := [.lit (.bool true)], args := [d] }
  | _ => none }
def fnHeardRow : OpenClaim := { program := "ytdghlgpkcpndjaa", sum := "6a999c29b1f11619dfc0ef52343399ed74b478c4f34f18c196a54e20e29827b2", func := "loop.example/g00145/laws.FnHeard", spec := "fnHeard", apart := false }
def FnHeardSaid : Prop := fnHeardRow.holds Try.pinned (OpenSpec.ofChange fnHeardSpec)

/-- ITS FALSE NEIGHBOUR: 'it returns false'. Refute it at one input. -/
def fnHeardWrong : ChangeSpec := { name := "fnHeard", fn := fun _ => fun
  | [d] => { results := [.lit (.bool false)], args := [d] }
  | _ => none }
def FnHeardWrongFalsely : Prop := fnHeardRow.holds Try.pinned (OpenSpec.ofChange fnHeardWrong)

/-- 'laws.FnExactUnsubscribe': WHATEVER THE INPUT: true; the input reads as it did. -/
def fnExactUnsubscribeSpec : ChangeSpec := { name := "fnExactUnsubscribe", fn := fun _ => fun
  | [d1, d2] => { results := [.lit (.bool true)], args := [d1, d2] }
  | _ => none }
def fnExactUnsubscribeRow : OpenClaim := { program := "ytdghlgpkcpndjaa", sum := "6a999c29b1f11619dfc0ef52343399ed74b478c4f34f18c196a54e20e29827b2", func := "loop.example/g00145/laws.FnExactUnsubscribe", spec := "fnExactUnsubscribe", unfollowed := true, recurses := true, apart := false }
def FnExactUnsubscribeSaid : Prop := fnExactUnsubscribeRow.holds Try.pinned (OpenSpec.ofChange fnExactUnsubscribeSpec)

/-- ITS FALSE NEIGHBOUR: 'it returns false'. Refute it at one input. -/
def fnExactUnsubscribeWrong : ChangeSpec := { name := "fnExactUnsubscribe", fn := fun _ => fun
  | [d1, d2] => { results := [.lit (.bool false)], args := [d1, d2] }
  | _ => none }
def FnExactUnsubscribeWrongFalsely : Prop := fnExactUnsubscribeRow.holds Try.pinned (OpenSpec.ofChange fnExactUnsubscribeWrong)

/-- 'laws.FnExactPublish': WHATEVER THE INPUT: true; the input reads as it did. -/
def fnExactPublishSpec : ChangeSpec := { name := "fnExactPublish", fn := fun _ => fun
  | [d1, d2] => { results := [.lit (.bool true)], args := [d1, d2] }
  | _ => none }
def fnExactPublishRow : OpenClaim := { program := "ytdghlgpkcpndjaa", sum := "6a999c29b1f11619dfc0ef52343399ed74b478c4f34f18c196a54e20e29827b2", func := "loop.example/g00145/laws.FnExactPublish", spec := "fnExactPublish", apart := false }
def FnExactPublishSaid : Prop := fnExactPublishRow.holds Try.pinned (OpenSpec.ofChange fnExactPublishSpec)

/-- ITS FALSE NEIGHBOUR: 'it returns false'. Refute it at one input. -/
def fnExactPublishWrong : ChangeSpec := { name := "fnExactPublish", fn := fun _ => fun
  | [d1, d2] => { results := [.lit (.bool false)], args := [d1, d2] }
  | _ => none }
def FnExactPublishWrongFalsely : Prop := fnExactPublishRow.holds Try.pinned (OpenSpec.ofChange fnExactPublishWrong)

/-- 'laws.FnExactHearNext': WHATEVER THE INPUT: true; the input reads as it did. -/
def fnExactHearNextSpec : ChangeSpec := { name := "fnExactHearNext", fn := fun _ => fun
  | [d1, d2] => { results := [.lit (.bool true)], args := [d1, d2] }
  | _ => none }
def fnExactHearNextRow : OpenClaim := { program := "ytdghlgpkcpndjaa", sum := "6a999c29b1f11619dfc0ef52343399ed74b478c4f34f18c196a54e20e29827b2", func := "loop.example/g00145/laws.FnExactHearNext", spec := "fnExactHearNext", apart := false }
def FnExactHearNextSaid : Prop := fnExactHearNextRow.holds Try.pinned (OpenSpec.ofChange fnExactHearNextSpec)

/-- ITS FALSE NEIGHBOUR: 'it returns false'. Refute it at one input. -/
def fnExactHearNextWrong : ChangeSpec := { name := "fnExactHearNext", fn := fun _ => fun
  | [d1, d2] => { results := [.lit (.bool false)], args := [d1, d2] }
  | _ => none }
def FnExactHearNextWrongFalsely : Prop := fnExactHearNextRow.holds Try.pinned (OpenSpec.ofChange fnExactHearNextWrong)

/- THE SECOND FORM. 'bulk': how many values and letters a reading holds, each counted each time it is reached (what is shared counts as often as it is met; a slice's spare places count too). A statement '..UptoSaid' is the law's where the arguments, and the package variables that the reading takes, are together of bulk at most 1048576: NARROWER than '..Said'. Prove '..Said' where nothing that the law and all that it calls make is longer than what came in: it says more and counts as full. Else prove '..UptoSaid'. A law counts once. -/
mutual
def uptoBulk {H : Type} : DataW H → Nat
  | .lit (.string bytes) => bytes.length + 1
  | .lit _ => 1
  | .nil => 1
  | .ptr d => uptoBulk d + 1
  | .slice elems spare => uptoBulkAll elems + uptoBulkAll spare + 1
  | .agg parts => uptoBulkAll parts + 1
  | .iface _ d => uptoBulk d + 1
  | .map entries => uptoBulkEntries entries + 1
  | .held _ => 1
def uptoBulkAll {H : Type} : List (DataW H) → Nat
  | [] => 0
  | d :: r => uptoBulk d + uptoBulkAll r
def uptoBulkEntries {H : Type} : List (Lit × DataW H) → Nat
  | [] => 0
  | x :: r => uptoBulkEntry x + uptoBulkEntries r
def uptoBulkEntry {H : Type} : Lit × DataW H → Nat
  | (.string bytes, d) => bytes.length + uptoBulk d + 1
  | (_, d) => uptoBulk d + 1
 end
def uptoSmall : (H : Type) → List (DataW H) → Bool := fun _ ds => decide (uptoBulkAll ds ≤ 1048576)
def OpenSpec.upto (s : _root_.Go.ChangeSpec) : _root_.Go.OpenSpec := { _root_.Go.OpenSpec.ofChange s with cond := some uptoSmall }

/-- 'laws.FnHeard', WHERE WHAT IT READS IS OF BULK AT MOST 1048576: true; the input reads as it did. -/
def fnHeardUptoRow : OpenClaim := { program := "ytdghlgpkcpndjaa", sum := "6a999c29b1f11619dfc0ef52343399ed74b478c4f34f18c196a54e20e29827b2", func := "loop.example/g00145/laws.FnHeard", spec := "fnHeard", apart := false, narrowed := true }
def FnHeardUptoSaid : Prop := fnHeardUptoRow.holds Try.pinned (OpenSpec.upto fnHeardSpec)

/-- 'laws.FnExactUnsubscribe', WHERE WHAT IT READS IS OF BULK AT MOST 1048576: true; the input reads as it did. -/
def fnExactUnsubscribeUptoRow : OpenClaim := { program := "ytdghlgpkcpndjaa", sum := "6a999c29b1f11619dfc0ef52343399ed74b478c4f34f18c196a54e20e29827b2", func := "loop.example/g00145/laws.FnExactUnsubscribe", spec := "fnExactUnsubscribe", unfollowed := true, recurses := true, apart := false, narrowed := true }
def FnExactUnsubscribeUptoSaid : Prop := fnExactUnsubscribeUptoRow.holds Try.pinned (OpenSpec.upto fnExactUnsubscribeSpec)

/-- 'laws.FnExactPublish', WHERE WHAT IT READS IS OF BULK AT MOST 1048576: true; the input reads as it did. -/
def fnExactPublishUptoRow : OpenClaim := { program := "ytdghlgpkcpndjaa", sum := "6a999c29b1f11619dfc0ef52343399ed74b478c4f34f18c196a54e20e29827b2", func := "loop.example/g00145/laws.FnExactPublish", spec := "fnExactPublish", apart := false, narrowed := true }
def FnExactPublishUptoSaid : Prop := fnExactPublishUptoRow.holds Try.pinned (OpenSpec.upto fnExactPublishSpec)

/-- 'laws.FnExactHearNext', WHERE WHAT IT READS IS OF BULK AT MOST 1048576: true; the input reads as it did. -/
def fnExactHearNextUptoRow : OpenClaim := { program := "ytdghlgpkcpndjaa", sum := "6a999c29b1f11619dfc0ef52343399ed74b478c4f34f18c196a54e20e29827b2", func := "loop.example/g00145/laws.FnExactHearNext", spec := "fnExactHearNext", apart := false, narrowed := true }
def FnExactHearNextUptoSaid : Prop := fnExactHearNextUptoRow.holds Try.pinned (OpenSpec.upto fnExactHearNextSpec)

end Rows
end Go.Proofs.Ytdghlgpkcpndjaa
