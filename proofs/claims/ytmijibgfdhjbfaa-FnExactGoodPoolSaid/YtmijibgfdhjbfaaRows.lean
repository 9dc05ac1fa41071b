/-
  No cell of these rows narrows 'for every input' (looked for: loops, veiled, ifaces, maps, wideKeys, modest, calm, conditions, laid).
  DERIVED. THE GIVEN ROWS OF THIS SEAT. 4 by the template 'for every input the law returns true; each argument reads behind the call as it read before'; 0 by the template 'total and deterministic' (their statements: YtmijibgfdhjbfaaTotals.lean).
  GIVEN WITH THE SEED: the statements are not yours to turn. If you find one false, say at which input.
  Laid BY PROGRAM, IN A SANDBOX (cutbox-rows.mjs): the forced cells as the released guide's own fill.sh prints them over the translation 3ba109711e9dce62… (all of the seat's roots in one cut). By AI agents, Wed Nov 11 2026. No macro, syntax, notation, axiom, sorry.
-/
import Derived.Test.YtmijibgfdhjbfaaChecked
import GoSem.Claim
import GoSem.ClaimJoined
import GoSem.ClaimMapViews
import Derived.JoinedTies
import Derived.KernelRfl
namespace Go.Proofs.Ytmijibgfdhjbfaa
/- THE CELL 'sum', in the pinned program and in every row, IS THE sha256 OF THE DUMP (.gsa) THAT YtmijibgfdhjbfaaProg.lean LOADS. Nothing in Lean hashes anything: it is a label: what it is worth is what the hold of that sum in a sandbox is worth. -/
noncomputable def Try.pinned : Pinned := { name := "ytmijibgfdhjbfaa", sum := "3ba109711e9dce6248d01a0a371ca6a4bae13dd2076bce58255d11c57f660c93", checked := Try.checked }
namespace Rows
def none {H : Type} : Left H := { results := [], args := [] }

/-- 'laws.FnExactGoodPool': WHATEVER THE INPUT: true; the input reads as it did. -/
def fnExactGoodPoolSpec : ChangeSpec := { name := "fnExactGoodPool", fn := fun _ => fun
  | [d] => { results := [.lit (.bool true)], args := [d] }
  | _ => none }
def fnExactGoodPoolRow : OpenClaim := { program := "ytmijibgfdhjbfaa", sum := "3ba109711e9dce6248d01a0a371ca6a4bae13dd2076bce58255d11c57f660c93", func := "loop.example/g00145/laws.FnExactGoodPool", spec := "fnExactGoodPool", unfollowed := true, recurses := true, apart := false }
def FnExactGoodPoolSaid : Prop := fnExactGoodPoolRow.holds Try.pinned (OpenSpec.ofChange fnExactGoodPoolSpec)

/-- ITS FALSE NEIGHBOUR: 'it returns false'. Refute it at one input. -/
def fnExactGoodPoolWrong : ChangeSpec := { name := "fnExactGoodPool", fn := fun _ => fun
  | [d] => { results := [.lit (.bool false)], args := [d] }
  | _ => none }
def FnExactGoodPoolWrongFalsely : Prop := fnExactGoodPoolRow.holds Try.pinned (OpenSpec.ofChange fnExactGoodPoolWrong)

/-- 'laws.FnExactAddWork': WHATEVER THE INPUT: true; the input reads as it did. -/
def fnExactAddWorkSpec : ChangeSpec := { name := "fnExactAddWork", fn := fun _ => fun
  | [d1, d2] => { results := [.lit (.bool true)], args := [d1, d2] }
  | _ => none }
def fnExactAddWorkRow : OpenClaim := { program := "ytmijibgfdhjbfaa", sum := "3ba109711e9dce6248d01a0a371ca6a4bae13dd2076bce58255d11c57f660c93", func := "loop.example/g00145/laws.FnExactAddWork", spec := "fnExactAddWork", unfollowed := true, recurses := true, apart := false }
def FnExactAddWorkSaid : Prop := fnExactAddWorkRow.holds Try.pinned (OpenSpec.ofChange fnExactAddWorkSpec)

/-- ITS FALSE NEIGHBOUR: 'it returns false'. Refute it at one input. -/
def fnExactAddWorkWrong : ChangeSpec := { name := "fnExactAddWork", fn := fun _ => fun
  | [d1, d2] => { results := [.lit (.bool false)], args := [d1, d2] }
  | _ => none }
def FnExactAddWorkWrongFalsely : Prop := fnExactAddWorkRow.holds Try.pinned (OpenSpec.ofChange fnExactAddWorkWrong)

/-- 'laws.FnExactRunningIn': WHATEVER THE INPUT: true; the input reads as it did. -/
def fnExactRunningInSpec : ChangeSpec := { name := "fnExactRunningIn", fn := fun _ => fun
  | [d] => { results := [.lit (.bool true)], args := [d] }
  | _ => none }
def fnExactRunningInRow : OpenClaim := { program := "ytmijibgfdhjbfaa", sum := "3ba109711e9dce6248d01a0a371ca6a4bae13dd2076bce58255d11c57f660c93", func := "loop.example/g00145/laws.FnExactRunningIn", spec := "fnExactRunningIn", unfollowed := true, recurses := true, apart := false }
def FnExactRunningInSaid : Prop := fnExactRunningInRow.holds Try.pinned (OpenSpec.ofChange fnExactRunningInSpec)

/-- ITS FALSE NEIGHBOUR: 'it returns false'. Refute it at one input. -/
def fnExactRunningInWrong : ChangeSpec := { name := "fnExactRunningIn", fn := fun _ => fun
  | [d] => { results := [.lit (.bool false)], args := [d] }
  | _ => none }
def FnExactRunningInWrongFalsely : Prop := fnExactRunningInRow.holds Try.pinned (OpenSpec.ofChange fnExactRunningInWrong)

/-- 'laws.FnExactSettledIn': WHATEVER THE INPUT: true; the input reads as it did. -/
def fnExactSettledInSpec : ChangeSpec := { name := "fnExactSettledIn", fn := fun _ => fun
  | [d] => { results := [.lit (.bool true)], args := [d] }
  | _ => none }
def fnExactSettledInRow : OpenClaim := { program := "ytmijibgfdhjbfaa", sum := "3ba109711e9dce6248d01a0a371ca6a4bae13dd2076bce58255d11c57f660c93", func := "loop.example/g00145/laws.FnExactSettledIn", spec := "fnExactSettledIn", unfollowed := true, recurses := true, apart := false }
def FnExactSettledInSaid : Prop := fnExactSettledInRow.holds Try.pinned (OpenSpec.ofChange fnExactSettledInSpec)

/-- ITS FALSE NEIGHBOUR: 'it returns false'. Refute it at one input. -/
def fnExactSettledInWrong : ChangeSpec := { name := "fnExactSettledIn", fn := fun _ => fun
  | [d] => { results := [.lit (.bool false)], args := [d] }
  | _ => none }
def FnExactSettledInWrongFalsely : Prop := fnExactSettledInRow.holds Try.pinned (OpenSpec.ofChange fnExactSettledInWrong)

/- THE SECOND FORM. 'bulk': how many values and letters a reading holds, each counted each time it is reached (what is shared counts as often as it is met; a slice's spare places count too). A statement '..UptoSaid' is the law's where the arguments, and the package variables that the reading takes, are together of bulk at most 1048576: NARROWER than '..Said'. Prove '..Said' where nothing that the law and all that it calls make is longer than what came in: it says more and counts as full. Else prove '..UptoSaid'. A law counts once. -/
mutual
def uptoBulk {H : Type} : DataW H → Nat
  | .lit (.string bytes) => bytes.length + 1
  | .lit _ => 1
  | .nil => 1
  | .ptr d => uptoBulk d + 1
  | .slice elems spare => uptoBulkAll elems + uptoBulkAll spare + 1
  | .agg parts => uptoBulkAll parts + 1
  | .iface _ d => uptoBulk d + 1
  | .map entries => uptoBulkEntries entries + 1
  | .held _ => 1
def uptoBulkAll {H : Type} : List (DataW H) → Nat
  | [] => 0
  | d :: r => uptoBulk d + uptoBulkAll r
def uptoBulkEntries {H : Type} : List (Lit × DataW H) → Nat
  | [] => 0
  | x :: r => uptoBulkEntry x + uptoBulkEntries r
def uptoBulkEntry {H : Type} : Lit × DataW H → Nat
  | (.string bytes, d) => bytes.length + uptoBulk d + 1
  | (_, d) => uptoBulk d + 1
 end
def uptoSmall : (H : Type) → List (DataW H) → Bool := fun _ ds => decide (uptoBulkAll ds ≤ 1048576)
def OpenSpec.upto (s : _root_.Go.ChangeSpec) : _root_.Go.OpenSpec := { _root_.Go.OpenSpec.ofChange s with cond := some uptoSmall }

/-- 'laws.FnExactGoodPool', WHERE WHAT IT READS IS OF BULK AT MOST 1048576: true; the input reads as it did. -/
def fnExactGoodPoolUptoRow : OpenClaim := { program := "ytmijibgfdhjbfaa", sum := "3ba109711e9dce6248d01a0a371ca6a4bae13dd2076bce58255d11c57f660c93", func := "loop.example/g00145/laws.FnExactGoodPool", spec := "fnExactGoodPool", unfollowed := true, recurses := true, apart := false, narrowed := true }
def FnExactGoodPoolUptoSaid : Prop := fnExactGoodPoolUptoRow.holds Try.pinned (OpenSpec.upto fnExactGoodPoolSpec)

/-- 'laws.FnExactAddWork', WHERE WHAT IT READS IS OF BULK AT MOST 1048576: true; the input reads as it did. -/
def fnExactAddWorkUptoRow : OpenClaim := { program := "ytmijibgfdhjbfaa", sum := "3ba109711e9dce6248d01a0a371ca6a4bae13dd2076bce58255d11c57f660c93", func := "loop.example/g00145/laws.FnExactAddWork", spec := "fnExactAddWork", unfollowed := true, recurses := true, apart := false, narrowed := true }
def FnExactAddWorkUptoSaid : Prop := fnExactAddWorkUptoRow.holds Try.pinned (OpenSpec.upto fnExactAddWorkSpec)

/-- 'laws.FnExactRunningIn', WHERE WHAT IT READS IS OF BULK AT MOST 1048576: true; the input reads as it did. -/
def fnExactRunningInUptoRow : OpenClaim := { program := "ytmijibgfdhjbfaa", sum := "3ba109711e9dce6248d01a0a371ca6a4bae13dd2076bce58255d11c57f660c93", func := "loop.example/g00145/laws.FnExactRunningIn", spec := "fnExactRunningIn", unfollowed := true, recurses := true, apart := false, narrowed := true }
def FnExactRunningInUptoSaid : Prop := fnExactRunningInUptoRow.holds Try.pinned (OpenSpec.upto fnExactRunningInSpec)

/-- 'laws.FnExactSettledIn', WHERE WHAT IT READS IS OF BULK AT MOST 1048576: true; the input reads as it did. -/
def fnExactSettledInUptoRow : OpenClaim := { program := "ytmijibgfdhjbfaa", sum := "3ba109711e9dce6248d01a0a371ca6a4bae13dd2076bce58255d11c57f660c93", func := "loop.example/g00145/laws.FnExactSettledIn", spec := "fnExactSettledIn", unfollowed := true, recurses := true, apart := false, narrowed := true }
def FnExactSettledInUptoSaid : Prop := fnExactSettledInUptoRow.holds Try.pinned (OpenSpec.upto fnExactSettledInSpec)

end Rows
end Go.Proofs.Ytmijibgfdhjbfaa
