/-
  No cell of these rows narrows 'for every input' (looked for: loops, veiled, ifaces, maps, wideKeys, modest, calm, conditions, laid).
  DERIVED. THE GIVEN ROWS OF THIS SEAT. 11 by the template 'for every input the law returns true; each argument reads behind the call as it read before'; 0 by the template 'total and deterministic' (their statements: YtcdkdigafcfgmaaTotals.lean).
  GIVEN WITH THE SEED: the statements are not yours to turn. If you find one false, say at which input.
  Laid BY PROGRAM, IN A SANDBOX (cutbox-rows.mjs): the forced cells as the released guide's own fill.sh prints them over the translation 975108c665d1777e… (all of the seat's roots in one cut). By AI agents, Wed Nov 11 2026. No macro, syntax, notation, axiom, sorry.
-/
import Derived.Test.YtcdkdigafcfgmaaChecked
import GoSem.Claim
import GoSem.ClaimJoined
import GoSem.ClaimMapViews
import Derived.JoinedTies
import Derived.KernelRfl
namespace Go.Proofs.Ytcdkdigafcfgmaa
/- THE CELL 'sum', in the pinned program and in every row, IS THE sha256 OF THE DUMP (.gsa) THAT YtcdkdigafcfgmaaProg.lean LOADS. Nothing in Lean hashes anything: it is a label: what it is worth is what the hold of that sum in a sandbox is worth. -/
noncomputable def Try.pinned : Pinned := { name := "ytcdkdigafcfgmaa", sum := "975108c665d1777efcce579b31df528acfc75575cc8f9029e732e8d2aa80e846", checked := Try.checked }
namespace Rows
def none {H : Type} : Left H := { results := [], args := [] }

/-- 'laws.FnExactGoodGroup': WHATEVER THE INPUT: true; the input reads as it did. -/
def fnExactGoodGroupSpec : ChangeSpec := { name := "fnExactGoodGroup", fn := fun _ => fun
  | [d] => { results := [.lit (.bool true)], args := [d] }
  | _ => none }
def fnExactGoodGroupRow : OpenClaim := { program := "ytcdkdigafcfgmaa", sum := "975108c665d1777efcce579b31df528acfc75575cc8f9029e732e8d2aa80e846", func := "loop.example/g00145/laws.FnExactGoodGroup", spec := "fnExactGoodGroup", apart := false }
def FnExactGoodGroupSaid : Prop := fnExactGoodGroupRow.holds Try.pinned (OpenSpec.ofChange fnExactGoodGroupSpec)

/-- ITS FALSE NEIGHBOUR: 'it returns false'. Refute it at one input. -/
def fnExactGoodGroupWrong : ChangeSpec := { name := "fnExactGoodGroup", fn := fun _ => fun
  | [d] => { results := [.lit (.bool false)], args := [d] }
  | _ => none }
def FnExactGoodGroupWrongFalsely : Prop := fnExactGoodGroupRow.holds Try.pinned (OpenSpec.ofChange fnExactGoodGroupWrong)

/-- 'laws.FnExactAddTo': WHATEVER THE INPUT: true; the input reads as it did. -/
def fnExactAddToSpec : ChangeSpec := { name := "fnExactAddTo", fn := fun _ => fun
  | [d1, d2] => { results := [.lit (.bool true)], args := [d1, d2] }
  | _ => none }
def fnExactAddToRow : OpenClaim := { program := "ytcdkdigafcfgmaa", sum := "975108c665d1777efcce579b31df528acfc75575cc8f9029e732e8d2aa80e846", func := "loop.example/g00145/laws.FnExactAddTo", spec := "fnExactAddTo", apart := false }
def FnExactAddToSaid : Prop := fnExactAddToRow.holds Try.pinned (OpenSpec.ofChange fnExactAddToSpec)

/-- ITS FALSE NEIGHBOUR: 'it returns false'. Refute it at one input. -/
def fnExactAddToWrong : ChangeSpec := { name := "fnExactAddTo", fn := fun _ => fun
  | [d1, d2] => { results := [.lit (.bool false)], args := [d1, d2] }
  | _ => none }
def FnExactAddToWrongFalsely : Prop := fnExactAddToRow.holds Try.pinned (OpenSpec.ofChange fnExactAddToWrong)

/-- 'laws.FnExactWaitFor': WHATEVER THE INPUT: true; the input reads as it did. -/
def fnExactWaitForSpec : ChangeSpec := { name := "fnExactWaitFor", fn := fun _ => fun
  | [d1, d2] => { results := [.lit (.bool true)], args := [d1, d2] }
  | _ => none }
def fnExactWaitForRow : OpenClaim := { program := "ytcdkdigafcfgmaa", sum := "975108c665d1777efcce579b31df528acfc75575cc8f9029e732e8d2aa80e846", func := "loop.example/g00145/laws.FnExactWaitFor", spec := "fnExactWaitFor", apart := false }
def FnExactWaitForSaid : Prop := fnExactWaitForRow.holds Try.pinned (OpenSpec.ofChange fnExactWaitForSpec)

/-- ITS FALSE NEIGHBOUR: 'it returns false'. Refute it at one input. -/
def fnExactWaitForWrong : ChangeSpec := { name := "fnExactWaitFor", fn := fun _ => fun
  | [d1, d2] => { results := [.lit (.bool false)], args := [d1, d2] }
  | _ => none }
def FnExactWaitForWrongFalsely : Prop := fnExactWaitForRow.holds Try.pinned (OpenSpec.ofChange fnExactWaitForWrong)

/-- 'laws.FnExactGoodRoom': WHATEVER THE INPUT: true; the input reads as it did. -/
def fnExactGoodRoomSpec : ChangeSpec := { name := "fnExactGoodRoom", fn := fun _ => fun
  | [d] => { results := [.lit (.bool true)], args := [d] }
  | _ => none }
def fnExactGoodRoomRow : OpenClaim := { program := "ytcdkdigafcfgmaa", sum := "975108c665d1777efcce579b31df528acfc75575cc8f9029e732e8d2aa80e846", func := "loop.example/g00145/laws.FnExactGoodRoom", spec := "fnExactGoodRoom", apart := false }
def FnExactGoodRoomSaid : Prop := fnExactGoodRoomRow.holds Try.pinned (OpenSpec.ofChange fnExactGoodRoomSpec)

/-- ITS FALSE NEIGHBOUR: 'it returns false'. Refute it at one input. -/
def fnExactGoodRoomWrong : ChangeSpec := { name := "fnExactGoodRoom", fn := fun _ => fun
  | [d] => { results := [.lit (.bool false)], args := [d] }
  | _ => none }
def FnExactGoodRoomWrongFalsely : Prop := fnExactGoodRoomRow.holds Try.pinned (OpenSpec.ofChange fnExactGoodRoomWrong)

/-- 'laws.FnExactTakeRoom': WHATEVER THE INPUT: true; the input reads as it did. -/
def fnExactTakeRoomSpec : ChangeSpec := { name := "fnExactTakeRoom", fn := fun _ => fun
  | [d1, d2] => { results := [.lit (.bool true)], args := [d1, d2] }
  | _ => none }
def fnExactTakeRoomRow : OpenClaim := { program := "ytcdkdigafcfgmaa", sum := "975108c665d1777efcce579b31df528acfc75575cc8f9029e732e8d2aa80e846", func := "loop.example/g00145/laws.FnExactTakeRoom", spec := "fnExactTakeRoom", apart := false }
def FnExactTakeRoomSaid : Prop := fnExactTakeRoomRow.holds Try.pinned (OpenSpec.ofChange fnExactTakeRoomSpec)

/-- ITS FALSE NEIGHBOUR: 'it returns false'. Refute it at one input. -/
def fnExactTakeRoomWrong : ChangeSpec := { name := "fnExactTakeRoom", fn := fun _ => fun
  | [d1, d2] => { results := [.lit (.bool false)], args := [d1, d2] }
  | _ => none }
def FnExactTakeRoomWrongFalsely : Prop := fnExactTakeRoomRow.holds Try.pinned (OpenSpec.ofChange fnExactTakeRoomWrong)

/-- 'laws.FnExactGiveRoom': WHATEVER THE INPUT: true; the input reads as it did. -/
def fnExactGiveRoomSpec : ChangeSpec := { name := "fnExactGiveRoom", fn := fun _ => fun
  | [d1, d2] => { results := [.lit (.bool true)], args := [d1, d2] }
  | _ => none }
def fnExactGiveRoomRow : OpenClaim := { program := "ytcdkdigafcfgmaa", sum := "975108c665d1777efcce579b31df528acfc75575cc8f9029e732e8d2aa80e846", func := "loop.example/g00145/laws.FnExactGiveRoom", spec := "fnExactGiveRoom", unfollowed := true, recurses := true, apart := false }
def FnExactGiveRoomSaid : Prop := fnExactGiveRoomRow.holds Try.pinned (OpenSpec.ofChange fnExactGiveRoomSpec)

/-- ITS FALSE NEIGHBOUR: 'it returns false'. Refute it at one input. -/
def fnExactGiveRoomWrong : ChangeSpec := { name := "fnExactGiveRoom", fn := fun _ => fun
  | [d1, d2] => { results := [.lit (.bool false)], args := [d1, d2] }
  | _ => none }
def FnExactGiveRoomWrongFalsely : Prop := fnExactGiveRoomRow.holds Try.pinned (OpenSpec.ofChange fnExactGiveRoomWrong)

/-- 'laws.FnExactLeaveRoom': WHATEVER THE INPUT: true; the input reads as it did. -/
def fnExactLeaveRoomSpec : ChangeSpec := { name := "fnExactLeaveRoom", fn := fun _ => fun
  | [d1, d2] => { results := [.lit (.bool true)], args := [d1, d2] }
  | _ => none }
def fnExactLeaveRoomRow : OpenClaim := { program := "ytcdkdigafcfgmaa", sum := "975108c665d1777efcce579b31df528acfc75575cc8f9029e732e8d2aa80e846", func := "loop.example/g00145/laws.FnExactLeaveRoom", spec := "fnExactLeaveRoom", unfollowed := true, recurses := true, apart := false }
def FnExactLeaveRoomSaid : Prop := fnExactLeaveRoomRow.holds Try.pinned (OpenSpec.ofChange fnExactLeaveRoomSpec)

/-- ITS FALSE NEIGHBOUR: 'it returns false'. Refute it at one input. -/
def fnExactLeaveRoomWrong : ChangeSpec := { name := "fnExactLeaveRoom", fn := fun _ => fun
  | [d1, d2] => { results := [.lit (.bool false)], args := [d1, d2] }
  | _ => none }
def FnExactLeaveRoomWrongFalsely : Prop := fnExactLeaveRoomRow.holds Try.pinned (OpenSpec.ofChange fnExactLeaveRoomWrong)

/-- 'laws.FnExactGoodScopes': WHATEVER THE INPUT: true; the input reads as it did. -/
def fnExactGoodScopesSpec : ChangeSpec := { name := "fnExactGoodScopes", fn := fun _ => fun
  | [d] => { results := [.lit (.bool true)], args := [d] }
  | _ => none }
def fnExactGoodScopesRow : OpenClaim := { program := "ytcdkdigafcfgmaa", sum := "975108c665d1777efcce579b31df528acfc75575cc8f9029e732e8d2aa80e846", func := "loop.example/g00145/laws.FnExactGoodScopes", spec := "fnExactGoodScopes", apart := false }
def FnExactGoodScopesSaid : Prop := fnExactGoodScopesRow.holds Try.pinned (OpenSpec.ofChange fnExactGoodScopesSpec)

/-- ITS FALSE NEIGHBOUR: 'it returns false'. Refute it at one input. -/
def fnExactGoodScopesWrong : ChangeSpec := { name := "fnExactGoodScopes", fn := fun _ => fun
  | [d] => { results := [.lit (.bool false)], args := [d] }
  | _ => none }
def FnExactGoodScopesWrongFalsely : Prop := fnExactGoodScopesRow.holds Try.pinned (OpenSpec.ofChange fnExactGoodScopesWrong)

/-- 'laws.FnExactNewScope': WHATEVER THE INPUT: true; the input reads as it did. -/
def fnExactNewScopeSpec : ChangeSpec := { name := "fnExactNewScope", fn := fun _ => fun
  | [d1, d2, d3] => { results := [.lit (.bool true)], args := [d1, d2, d3] }
  | _ => none }
def fnExactNewScopeRow : OpenClaim := { program := "ytcdkdigafcfgmaa", sum := "975108c665d1777efcce579b31df528acfc75575cc8f9029e732e8d2aa80e846", func := "loop.example/g00145/laws.FnExactNewScope", spec := "fnExactNewScope", apart := false }
def FnExactNewScopeSaid : Prop := fnExactNewScopeRow.holds Try.pinned (OpenSpec.ofChange fnExactNewScopeSpec)

/-- ITS FALSE NEIGHBOUR: 'it returns false'. Refute it at one input. -/
def fnExactNewScopeWrong : ChangeSpec := { name := "fnExactNewScope", fn := fun _ => fun
  | [d1, d2, d3] => { results := [.lit (.bool false)], args := [d1, d2, d3] }
  | _ => none }
def FnExactNewScopeWrongFalsely : Prop := fnExactNewScopeRow.holds Try.pinned (OpenSpec.ofChange fnExactNewScopeWrong)

/-- 'laws.FnExactCancelScope': WHATEVER THE INPUT: true; the input reads as it did. -/
def fnExactCancelScopeSpec : ChangeSpec := { name := "fnExactCancelScope", fn := fun _ => fun
  | [d1, d2] => { results := [.lit (.bool true)], args := [d1, d2] }
  | _ => none }
def fnExactCancelScopeRow : OpenClaim := { program := "ytcdkdigafcfgmaa", sum := "975108c665d1777efcce579b31df528acfc75575cc8f9029e732e8d2aa80e846", func := "loop.example/g00145/laws.FnExactCancelScope", spec := "fnExactCancelScope", unfollowed := true, recurses := true, apart := false }
def FnExactCancelScopeSaid : Prop := fnExactCancelScopeRow.holds Try.pinned (OpenSpec.ofChange fnExactCancelScopeSpec)

/-- ITS FALSE NEIGHBOUR: 'it returns false'. Refute it at one input. -/
def fnExactCancelScopeWrong : ChangeSpec := { name := "fnExactCancelScope", fn := fun _ => fun
  | [d1, d2] => { results := [.lit (.bool false)], args := [d1, d2] }
  | _ => none }
def FnExactCancelScopeWrongFalsely : Prop := fnExactCancelScopeRow.holds Try.pinned (OpenSpec.ofChange fnExactCancelScopeWrong)

/-- 'laws.FnExactExpireScopes': WHATEVER THE INPUT: true; the input reads as it did. -/
def fnExactExpireScopesSpec : ChangeSpec := { name := "fnExactExpireScopes", fn := fun _ => fun
  | [d1, d2] => { results := [.lit (.bool true)], args := [d1, d2] }
  | _ => none }
def fnExactExpireScopesRow : OpenClaim := { program := "ytcdkdigafcfgmaa", sum := "975108c665d1777efcce579b31df528acfc75575cc8f9029e732e8d2aa80e846", func := "loop.example/g00145/laws.FnExactExpireScopes", spec := "fnExactExpireScopes", unfollowed := true, recurses := true, apart := false }
def FnExactExpireScopesSaid : Prop := fnExactExpireScopesRow.holds Try.pinned (OpenSpec.ofChange fnExactExpireScopesSpec)

/-- ITS FALSE NEIGHBOUR: 'it returns false'. Refute it at one input. -/
def fnExactExpireScopesWrong : ChangeSpec := { name := "fnExactExpireScopes", fn := fun _ => fun
  | [d1, d2] => { results := [.lit (.bool false)], args := [d1, d2] }
  | _ => none }
def FnExactExpireScopesWrongFalsely : Prop := fnExactExpireScopesRow.holds Try.pinned (OpenSpec.ofChange fnExactExpireScopesWrong)

/- THE SECOND FORM. 'bulk': how many values and letters a reading holds, each counted each time it is reached (what is shared counts as often as it is met; a slice's spare places count too). A statement '..UptoSaid' is the law's where the arguments, and the package variables that the reading takes, are together of bulk at most 1048576: NARROWER than '..Said'. Prove '..Said' where nothing that the law and all that it calls make is longer than what came in: it says more and counts as full. Else prove '..UptoSaid'. A law counts once. -/
mutual
def uptoBulk {H : Type} : DataW H → Nat
  | .lit (.string bytes) => bytes.length + 1
  | .lit _ => 1
  | .nil => 1
  | .ptr d => uptoBulk d + 1
  | .slice elems spare => uptoBulkAll elems + uptoBulkAll spare + 1
  | .agg parts => uptoBulkAll parts + 1
  | .iface _ d => uptoBulk d + 1
  | .map entries => uptoBulkEntries entries + 1
  | .held _ => 1
def uptoBulkAll {H : Type} : List (DataW H) → Nat
  | [] => 0
  | d :: r => uptoBulk d + uptoBulkAll r
def uptoBulkEntries {H : Type} : List (Lit × DataW H) → Nat
  | [] => 0
  | x :: r => uptoBulkEntry x + uptoBulkEntries r
def uptoBulkEntry {H : Type} : Lit × DataW H → Nat
  | (.string bytes, d) => bytes.length + uptoBulk d + 1
  | (_, d) => uptoBulk d + 1
 end
def uptoSmall : (H : Type) → List (DataW H) → Bool := fun _ ds => decide (uptoBulkAll ds ≤ 1048576)
def OpenSpec.upto (s : _root_.Go.ChangeSpec) : _root_.Go.OpenSpec := { _root_.Go.OpenSpec.ofChange s with cond := some uptoSmall }

/-- 'laws.FnExactGoodGroup', WHERE WHAT IT READS IS OF BULK AT MOST 1048576: true; the input reads as it did. -/
def fnExactGoodGroupUptoRow : OpenClaim := { program := "ytcdkdigafcfgmaa", sum := "975108c665d1777efcce579b31df528acfc75575cc8f9029e732e8d2aa80e846", func := "loop.example/g00145/laws.FnExactGoodGroup", spec := "fnExactGoodGroup", apart := false, narrowed := true }
def FnExactGoodGroupUptoSaid : Prop := fnExactGoodGroupUptoRow.holds Try.pinned (OpenSpec.upto fnExactGoodGroupSpec)

/-- 'laws.FnExactAddTo', WHERE WHAT IT READS IS OF BULK AT MOST 1048576: true; the input reads as it did. -/
def fnExactAddToUptoRow : OpenClaim := { program := "ytcdkdigafcfgmaa", sum := "975108c665d1777efcce579b31df528acfc75575cc8f9029e732e8d2aa80e846", func := "loop.example/g00145/laws.FnExactAddTo", spec := "fnExactAddTo", apart := false, narrowed := true }
def FnExactAddToUptoSaid : Prop := fnExactAddToUptoRow.holds Try.pinned (OpenSpec.upto fnExactAddToSpec)

/-- 'laws.FnExactWaitFor', WHERE WHAT IT READS IS OF BULK AT MOST 1048576: true; the input reads as it did. -/
def fnExactWaitForUptoRow : OpenClaim := { program := "ytcdkdigafcfgmaa", sum := "975108c665d1777efcce579b31df528acfc75575cc8f9029e732e8d2aa80e846", func := "loop.example/g00145/laws.FnExactWaitFor", spec := "fnExactWaitFor", apart := false, narrowed := true }
def FnExactWaitForUptoSaid : Prop := fnExactWaitForUptoRow.holds Try.pinned (OpenSpec.upto fnExactWaitForSpec)

/-- 'laws.FnExactGoodRoom', WHERE WHAT IT READS IS OF BULK AT MOST 1048576: true; the input reads as it did. -/
def fnExactGoodRoomUptoRow : OpenClaim := { program := "ytcdkdigafcfgmaa", sum := "975108c665d1777efcce579b31df528acfc75575cc8f9029e732e8d2aa80e846", func := "loop.example/g00145/laws.FnExactGoodRoom", spec := "fnExactGoodRoom", apart := false, narrowed := true }
def FnExactGoodRoomUptoSaid : Prop := fnExactGoodRoomUptoRow.holds Try.pinned (OpenSpec.upto fnExactGoodRoomSpec)

/-- 'laws.FnExactTakeRoom', WHERE WHAT IT READS IS OF BULK AT MOST 1048576: true; the input reads as it did. -/
def fnExactTakeRoomUptoRow : OpenClaim := { program := "ytcdkdigafcfgmaa", sum := "975108c665d1777efcce579b31df528acfc75575cc8f9029e732e8d2aa80e846", func := "loop.example/g00145/laws.FnExactTakeRoom", spec := "fnExactTakeRoom", apart := false, narrowed := true }
def FnExactTakeRoomUptoSaid : Prop := fnExactTakeRoomUptoRow.holds Try.pinned (OpenSpec.upto fnExactTakeRoomSpec)

/-- 'laws.FnExactGiveRoom', WHERE WHAT IT READS IS OF BULK AT MOST 1048576: true; the input reads as it did. -/
def fnExactGiveRoomUptoRow : OpenClaim := { program := "ytcdkdigafcfgmaa", sum := "975108c665d1777efcce579b31df528acfc75575cc8f9029e732e8d2aa80e846", func := "loop.example/g00145/laws.FnExactGiveRoom", spec := "fnExactGiveRoom", unfollowed := true, recurses := true, apart := false, narrowed := true }
def FnExactGiveRoomUptoSaid : Prop := fnExactGiveRoomUptoRow.holds Try.pinned (OpenSpec.upto fnExactGiveRoomSpec)

/-- 'laws.FnExactLeaveRoom', WHERE WHAT IT READS IS OF BULK AT MOST 1048576: true; the input reads as it did. -/
def fnExactLeaveRoomUptoRow : OpenClaim := { program := "ytcdkdigafcfgmaa", sum := "975108c665d1777efcce579b31df528acfc75575cc8f9029e732e8d2aa80e846", func := "loop.example/g00145/laws.FnExactLeaveRoom", spec := "fnExactLeaveRoom", unfollowed := true, recurses := true, apart := false, narrowed := true }
def FnExactLeaveRoomUptoSaid : Prop := fnExactLeaveRoomUptoRow.holds Try.pinned (OpenSpec.upto fnExactLeaveRoomSpec)

/-- 'laws.FnExactGoodScopes', WHERE WHAT IT READS IS OF BULK AT MOST 1048576: true; the input reads as it did. -/
def fnExactGoodScopesUptoRow : OpenClaim := { program := "ytcdkdigafcfgmaa", sum := "975108c665d1777efcce579b31df528acfc75575cc8f9029e732e8d2aa80e846", func := "loop.example/g00145/laws.FnExactGoodScopes", spec := "fnExactGoodScopes", apart := false, narrowed := true }
def FnExactGoodScopesUptoSaid : Prop := fnExactGoodScopesUptoRow.holds Try.pinned (OpenSpec.upto fnExactGoodScopesSpec)

/-- 'laws.FnExactNewScope', WHERE WHAT IT READS IS OF BULK AT MOST 1048576: true; the input reads as it did. -/
def fnExactNewScopeUptoRow : OpenClaim := { program := "ytcdkdigafcfgmaa", sum := "975108c665d1777efcce579b31df528acfc75575cc8f9029e732e8d2aa80e846", func := "loop.example/g00145/laws.FnExactNewScope", spec := "fnExactNewScope", apart := false, narrowed := true }
def FnExactNewScopeUptoSaid : Prop := fnExactNewScopeUptoRow.holds Try.pinned (OpenSpec.upto fnExactNewScopeSpec)

/-- 'laws.FnExactCancelScope', WHERE WHAT IT READS IS OF BULK AT MOST 1048576: true; the input reads as it did. -/
def fnExactCancelScopeUptoRow : OpenClaim := { program := "ytcdkdigafcfgmaa", sum := "975108c665d1777efcce579b31df528acfc75575cc8f9029e732e8d2aa80e846", func := "loop.example/g00145/laws.FnExactCancelScope", spec := "fnExactCancelScope", unfollowed := true, recurses := true, apart := false, narrowed := true }
def FnExactCancelScopeUptoSaid : Prop := fnExactCancelScopeUptoRow.holds Try.pinned (OpenSpec.upto fnExactCancelScopeSpec)

/-- 'laws.FnExactExpireScopes', WHERE WHAT IT READS IS OF BULK AT MOST 1048576: true; the input reads as it did. -/
def fnExactExpireScopesUptoRow : OpenClaim := { program := "ytcdkdigafcfgmaa", sum := "975108c665d1777efcce579b31df528acfc75575cc8f9029e732e8d2aa80e846", func := "loop.example/g00145/laws.FnExactExpireScopes", spec := "fnExactExpireScopes", unfollowed := true, recurses := true, apart := false, narrowed := true }
def FnExactExpireScopesUptoSaid : Prop := fnExactExpireScopesUptoRow.holds Try.pinned (OpenSpec.upto fnExactExpireScopesSpec)

end Rows
end Go.Proofs.Ytcdkdigafcfgmaa
