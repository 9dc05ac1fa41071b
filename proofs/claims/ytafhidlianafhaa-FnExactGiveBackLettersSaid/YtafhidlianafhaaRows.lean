/-
  No cell of these rows narrows 'for every input' (looked for: loops, veiled, ifaces, maps, wideKeys, modest, calm, conditions, laid).
  DERIVED. THE GIVEN ROWS OF THIS SEAT. 8 by the template 'for every input the law returns true; each argument reads behind the call as it read before'; 0 by the template 'total and deterministic' (their statements: YtafhidlianafhaaTotals.lean).
  GIVEN WITH THE SEED: the statements are not yours to turn. If you find one false, say at which input.
  Laid BY PROGRAM, IN A SANDBOX (cutbox-rows.mjs): the forced cells as the released guide's own fill.sh prints them over the translation 127bc56050a332de… (all of the seat's roots in one cut). By AI agents, Wed Nov 11 2026. No macro, syntax, notation, axiom, sorry.
-/
import Derived.Test.YtafhidlianafhaaChecked
import GoSem.Claim
import GoSem.ClaimJoined
import GoSem.ClaimMapViews
import Derived.JoinedTies
import Derived.KernelRfl
namespace Go.Proofs.Ytafhidlianafhaa
/- THE CELL 'sum', in the pinned program and in every row, IS THE sha256 OF THE DUMP (.gsa) THAT YtafhidlianafhaaProg.lean LOADS. Nothing in Lean hashes anything: it is a label: what it is worth is what the hold of that sum in a sandbox is worth. -/
noncomputable def Try.pinned : Pinned := { name := "ytafhidlianafhaa", sum := "127bc56050a332dec534d07ccb9e49177a20a685f1595376354f83cb08e8f6bf", checked := Try.checked }
namespace Rows
def none {H : Type} : Left H := { results := [], args := [] }

/-- 'laws.FnExactGoodBox': WHATEVER THE INPUT: true; the input reads as it did. -/
def fnExactGoodBoxSpec : ChangeSpec := { name := "fnExactGoodBox", fn := fun _ => fun
  | [d] => { results := [.lit (.bool true)], args := [d] }
  | _ => none }
def fnExactGoodBoxRow : OpenClaim := { program := "ytafhidlianafhaa", sum := "127bc56050a332dec534d07ccb9e49177a20a685f1595376354f83cb08e8f6bf", func := "loop.example/g00145/laws.FnExactGoodBox", spec := "fnExactGoodBox", apart := false }
def FnExactGoodBoxSaid : Prop := fnExactGoodBoxRow.holds Try.pinned (OpenSpec.ofChange fnExactGoodBoxSpec)

/-- ITS FALSE NEIGHBOUR: 'it returns false'. Refute it at one input. -/
def fnExactGoodBoxWrong : ChangeSpec := { name := "fnExactGoodBox", fn := fun _ => fun
  | [d] => { results := [.lit (.bool false)], args := [d] }
  | _ => none }
def FnExactGoodBoxWrongFalsely : Prop := fnExactGoodBoxRow.holds Try.pinned (OpenSpec.ofChange fnExactGoodBoxWrong)

/-- 'laws.FnExactPutLetter': WHATEVER THE INPUT: true; the input reads as it did. -/
def fnExactPutLetterSpec : ChangeSpec := { name := "fnExactPutLetter", fn := fun _ => fun
  | [d1, d2, d3] => { results := [.lit (.bool true)], args := [d1, d2, d3] }
  | _ => none }
def fnExactPutLetterRow : OpenClaim := { program := "ytafhidlianafhaa", sum := "127bc56050a332dec534d07ccb9e49177a20a685f1595376354f83cb08e8f6bf", func := "loop.example/g00145/laws.FnExactPutLetter", spec := "fnExactPutLetter", unfollowed := true, recurses := true, apart := false }
def FnExactPutLetterSaid : Prop := fnExactPutLetterRow.holds Try.pinned (OpenSpec.ofChange fnExactPutLetterSpec)

/-- ITS FALSE NEIGHBOUR: 'it returns false'. Refute it at one input. -/
def fnExactPutLetterWrong : ChangeSpec := { name := "fnExactPutLetter", fn := fun _ => fun
  | [d1, d2, d3] => { results := [.lit (.bool false)], args := [d1, d2, d3] }
  | _ => none }
def FnExactPutLetterWrongFalsely : Prop := fnExactPutLetterRow.holds Try.pinned (OpenSpec.ofChange fnExactPutLetterWrong)

/-- 'laws.FnExactPutSystem': WHATEVER THE INPUT: true; the input reads as it did. -/
def fnExactPutSystemSpec : ChangeSpec := { name := "fnExactPutSystem", fn := fun _ => fun
  | [d1, d2] => { results := [.lit (.bool true)], args := [d1, d2] }
  | _ => none }
def fnExactPutSystemRow : OpenClaim := { program := "ytafhidlianafhaa", sum := "127bc56050a332dec534d07ccb9e49177a20a685f1595376354f83cb08e8f6bf", func := "loop.example/g00145/laws.FnExactPutSystem", spec := "fnExactPutSystem", unfollowed := true, recurses := true, apart := false }
def FnExactPutSystemSaid : Prop := fnExactPutSystemRow.holds Try.pinned (OpenSpec.ofChange fnExactPutSystemSpec)

/-- ITS FALSE NEIGHBOUR: 'it returns false'. Refute it at one input. -/
def fnExactPutSystemWrong : ChangeSpec := { name := "fnExactPutSystem", fn := fun _ => fun
  | [d1, d2] => { results := [.lit (.bool false)], args := [d1, d2] }
  | _ => none }
def FnExactPutSystemWrongFalsely : Prop := fnExactPutSystemRow.holds Try.pinned (OpenSpec.ofChange fnExactPutSystemWrong)

/-- 'laws.FnExactTakeNext': WHATEVER THE INPUT: true; the input reads as it did. -/
def fnExactTakeNextSpec : ChangeSpec := { name := "fnExactTakeNext", fn := fun _ => fun
  | [d] => { results := [.lit (.bool true)], args := [d] }
  | _ => none }
def fnExactTakeNextRow : OpenClaim := { program := "ytafhidlianafhaa", sum := "127bc56050a332dec534d07ccb9e49177a20a685f1595376354f83cb08e8f6bf", func := "loop.example/g00145/laws.FnExactTakeNext", spec := "fnExactTakeNext", unfollowed := true, recurses := true, apart := false }
def FnExactTakeNextSaid : Prop := fnExactTakeNextRow.holds Try.pinned (OpenSpec.ofChange fnExactTakeNextSpec)

/-- ITS FALSE NEIGHBOUR: 'it returns false'. Refute it at one input. -/
def fnExactTakeNextWrong : ChangeSpec := { name := "fnExactTakeNext", fn := fun _ => fun
  | [d] => { results := [.lit (.bool false)], args := [d] }
  | _ => none }
def FnExactTakeNextWrongFalsely : Prop := fnExactTakeNextRow.holds Try.pinned (OpenSpec.ofChange fnExactTakeNextWrong)

/-- 'laws.FnExactDoneWith': WHATEVER THE INPUT: true; the input reads as it did. -/
def fnExactDoneWithSpec : ChangeSpec := { name := "fnExactDoneWith", fn := fun _ => fun
  | [d1, d2] => { results := [.lit (.bool true)], args := [d1, d2] }
  | _ => none }
def fnExactDoneWithRow : OpenClaim := { program := "ytafhidlianafhaa", sum := "127bc56050a332dec534d07ccb9e49177a20a685f1595376354f83cb08e8f6bf", func := "loop.example/g00145/laws.FnExactDoneWith", spec := "fnExactDoneWith", unfollowed := true, recurses := true, apart := false }
def FnExactDoneWithSaid : Prop := fnExactDoneWithRow.holds Try.pinned (OpenSpec.ofChange fnExactDoneWithSpec)

/-- ITS FALSE NEIGHBOUR: 'it returns false'. Refute it at one input. -/
def fnExactDoneWithWrong : ChangeSpec := { name := "fnExactDoneWith", fn := fun _ => fun
  | [d1, d2] => { results := [.lit (.bool false)], args := [d1, d2] }
  | _ => none }
def FnExactDoneWithWrongFalsely : Prop := fnExactDoneWithRow.holds Try.pinned (OpenSpec.ofChange fnExactDoneWithWrong)

/-- 'laws.FnExactGiveBackLetters': WHATEVER THE INPUT: true; the input reads as it did. -/
def fnExactGiveBackLettersSpec : ChangeSpec := { name := "fnExactGiveBackLetters", fn := fun _ => fun
  | [d] => { results := [.lit (.bool true)], args := [d] }
  | _ => none }
def fnExactGiveBackLettersRow : OpenClaim := { program := "ytafhidlianafhaa", sum := "127bc56050a332dec534d07ccb9e49177a20a685f1595376354f83cb08e8f6bf", func := "loop.example/g00145/laws.FnExactGiveBackLetters", spec := "fnExactGiveBackLetters", apart := false }
def FnExactGiveBackLettersSaid : Prop := fnExactGiveBackLettersRow.holds Try.pinned (OpenSpec.ofChange fnExactGiveBackLettersSpec)

/-- ITS FALSE NEIGHBOUR: 'it returns false'. Refute it at one input. -/
def fnExactGiveBackLettersWrong : ChangeSpec := { name := "fnExactGiveBackLetters", fn := fun _ => fun
  | [d] => { results := [.lit (.bool false)], args := [d] }
  | _ => none }
def FnExactGiveBackLettersWrongFalsely : Prop := fnExactGiveBackLettersRow.holds Try.pinned (OpenSpec.ofChange fnExactGiveBackLettersWrong)

/-- 'laws.FnExactCloseBox': WHATEVER THE INPUT: true; the input reads as it did. -/
def fnExactCloseBoxSpec : ChangeSpec := { name := "fnExactCloseBox", fn := fun _ => fun
  | [d] => { results := [.lit (.bool true)], args := [d] }
  | _ => none }
def fnExactCloseBoxRow : OpenClaim := { program := "ytafhidlianafhaa", sum := "127bc56050a332dec534d07ccb9e49177a20a685f1595376354f83cb08e8f6bf", func := "loop.example/g00145/laws.FnExactCloseBox", spec := "fnExactCloseBox", apart := false }
def FnExactCloseBoxSaid : Prop := fnExactCloseBoxRow.holds Try.pinned (OpenSpec.ofChange fnExactCloseBoxSpec)

/-- ITS FALSE NEIGHBOUR: 'it returns false'. Refute it at one input. -/
def fnExactCloseBoxWrong : ChangeSpec := { name := "fnExactCloseBox", fn := fun _ => fun
  | [d] => { results := [.lit (.bool false)], args := [d] }
  | _ => none }
def FnExactCloseBoxWrongFalsely : Prop := fnExactCloseBoxRow.holds Try.pinned (OpenSpec.ofChange fnExactCloseBoxWrong)

/-- 'laws.FnExactLettersIn': WHATEVER THE INPUT: true; the input reads as it did. -/
def fnExactLettersInSpec : ChangeSpec := { name := "fnExactLettersIn", fn := fun _ => fun
  | [d] => { results := [.lit (.bool true)], args := [d] }
  | _ => none }
def fnExactLettersInRow : OpenClaim := { program := "ytafhidlianafhaa", sum := "127bc56050a332dec534d07ccb9e49177a20a685f1595376354f83cb08e8f6bf", func := "loop.example/g00145/laws.FnExactLettersIn", spec := "fnExactLettersIn", apart := false }
def FnExactLettersInSaid : Prop := fnExactLettersInRow.holds Try.pinned (OpenSpec.ofChange fnExactLettersInSpec)

/-- ITS FALSE NEIGHBOUR: 'it returns false'. Refute it at one input. -/
def fnExactLettersInWrong : ChangeSpec := { name := "fnExactLettersIn", fn := fun _ => fun
  | [d] => { results := [.lit (.bool false)], args := [d] }
  | _ => none }
def FnExactLettersInWrongFalsely : Prop := fnExactLettersInRow.holds Try.pinned (OpenSpec.ofChange fnExactLettersInWrong)

/- THE SECOND FORM. 'bulk': how many values and letters a reading holds, each counted each time it is reached (what is shared counts as often as it is met; a slice's spare places count too). A statement '..UptoSaid' is the law's where the arguments, and the package variables that the reading takes, are together of bulk at most 1048576: NARROWER than '..Said'. Prove '..Said' where nothing that the law and all that it calls make is longer than what came in: it says more and counts as full. Else prove '..UptoSaid'. A law counts once. -/
mutual
def uptoBulk {H : Type} : DataW H → Nat
  | .lit (.string bytes) => bytes.length + 1
  | .lit _ => 1
  | .nil => 1
  | .ptr d => uptoBulk d + 1
  | .slice elems spare => uptoBulkAll elems + uptoBulkAll spare + 1
  | .agg parts => uptoBulkAll parts + 1
  | .iface _ d => uptoBulk d + 1
  | .map entries => uptoBulkEntries entries + 1
  | .held _ => 1
def uptoBulkAll {H : Type} : List (DataW H) → Nat
  | [] => 0
  | d :: r => uptoBulk d + uptoBulkAll r
def uptoBulkEntries {H : Type} : List (Lit × DataW H) → Nat
  | [] => 0
  | x :: r => uptoBulkEntry x + uptoBulkEntries r
def uptoBulkEntry {H : Type} : Lit × DataW H → Nat
  | (.string bytes, d) => bytes.length + uptoBulk d + 1
  | (_, d) => uptoBulk d + 1
 end
def uptoSmall : (H : Type) → List (DataW H) → Bool := fun _ ds => decide (uptoBulkAll ds ≤ 1048576)
def OpenSpec.upto (s : _root_.Go.ChangeSpec) : _root_.Go.OpenSpec := { _root_.Go.OpenSpec.ofChange s with cond := some uptoSmall }

/-- 'laws.FnExactGoodBox', WHERE WHAT IT READS IS OF BULK AT MOST 1048576: true; the input reads as it did. -/
def fnExactGoodBoxUptoRow : OpenClaim := { program := "ytafhidlianafhaa", sum := "127bc56050a332dec534d07ccb9e49177a20a685f1595376354f83cb08e8f6bf", func := "loop.example/g00145/laws.FnExactGoodBox", spec := "fnExactGoodBox", apart := false, narrowed := true }
def FnExactGoodBoxUptoSaid : Prop := fnExactGoodBoxUptoRow.holds Try.pinned (OpenSpec.upto fnExactGoodBoxSpec)

/-- 'laws.FnExactPutLetter', WHERE WHAT IT READS IS OF BULK AT MOST 1048576: true; the input reads as it did. -/
def fnExactPutLetterUptoRow : OpenClaim := { program := "ytafhidlianafhaa", sum := "127bc56050a332dec534d07ccb9e49177a20a685f1595376354f83cb08e8f6bf", func := "loop.example/g00145/laws.FnExactPutLetter", spec := "fnExactPutLetter", unfollowed := true, recurses := true, apart := false, narrowed := true }
def FnExactPutLetterUptoSaid : Prop := fnExactPutLetterUptoRow.holds Try.pinned (OpenSpec.upto fnExactPutLetterSpec)

/-- 'laws.FnExactPutSystem', WHERE WHAT IT READS IS OF BULK AT MOST 1048576: true; the input reads as it did. -/
def fnExactPutSystemUptoRow : OpenClaim := { program := "ytafhidlianafhaa", sum := "127bc56050a332dec534d07ccb9e49177a20a685f1595376354f83cb08e8f6bf", func := "loop.example/g00145/laws.FnExactPutSystem", spec := "fnExactPutSystem", unfollowed := true, recurses := true, apart := false, narrowed := true }
def FnExactPutSystemUptoSaid : Prop := fnExactPutSystemUptoRow.holds Try.pinned (OpenSpec.upto fnExactPutSystemSpec)

/-- 'laws.FnExactTakeNext', WHERE WHAT IT READS IS OF BULK AT MOST 1048576: true; the input reads as it did. -/
def fnExactTakeNextUptoRow : OpenClaim := { program := "ytafhidlianafhaa", sum := "127bc56050a332dec534d07ccb9e49177a20a685f1595376354f83cb08e8f6bf", func := "loop.example/g00145/laws.FnExactTakeNext", spec := "fnExactTakeNext", unfollowed := true, recurses := true, apart := false, narrowed := true }
def FnExactTakeNextUptoSaid : Prop := fnExactTakeNextUptoRow.holds Try.pinned (OpenSpec.upto fnExactTakeNextSpec)

/-- 'laws.FnExactDoneWith', WHERE WHAT IT READS IS OF BULK AT MOST 1048576: true; the input reads as it did. -/
def fnExactDoneWithUptoRow : OpenClaim := { program := "ytafhidlianafhaa", sum := "127bc56050a332dec534d07ccb9e49177a20a685f1595376354f83cb08e8f6bf", func := "loop.example/g00145/laws.FnExactDoneWith", spec := "fnExactDoneWith", unfollowed := true, recurses := true, apart := false, narrowed := true }
def FnExactDoneWithUptoSaid : Prop := fnExactDoneWithUptoRow.holds Try.pinned (OpenSpec.upto fnExactDoneWithSpec)

/-- 'laws.FnExactGiveBackLetters', WHERE WHAT IT READS IS OF BULK AT MOST 1048576: true; the input reads as it did. -/
def fnExactGiveBackLettersUptoRow : OpenClaim := { program := "ytafhidlianafhaa", sum := "127bc56050a332dec534d07ccb9e49177a20a685f1595376354f83cb08e8f6bf", func := "loop.example/g00145/laws.FnExactGiveBackLetters", spec := "fnExactGiveBackLetters", apart := false, narrowed := true }
def FnExactGiveBackLettersUptoSaid : Prop := fnExactGiveBackLettersUptoRow.holds Try.pinned (OpenSpec.upto fnExactGiveBackLettersSpec)

/-- 'laws.FnExactCloseBox', WHERE WHAT IT READS IS OF BULK AT MOST 1048576: true; the input reads as it did. -/
def fnExactCloseBoxUptoRow : OpenClaim := { program := "ytafhidlianafhaa", sum := "127bc56050a332dec534d07ccb9e49177a20a685f1595376354f83cb08e8f6bf", func := "loop.example/g00145/laws.FnExactCloseBox", spec := "fnExactCloseBox", apart := false, narrowed := true }
def FnExactCloseBoxUptoSaid : Prop := fnExactCloseBoxUptoRow.holds Try.pinned (OpenSpec.upto fnExactCloseBoxSpec)

/-- 'laws.FnExactLettersIn', WHERE WHAT IT READS IS OF BULK AT MOST 1048576: true; the input reads as it did. -/
def fnExactLettersInUptoRow : OpenClaim := { program := "ytafhidlianafhaa", sum := "127bc56050a332dec534d07ccb9e49177a20a685f1595376354f83cb08e8f6bf", func := "loop.example/g00145/laws.FnExactLettersIn", spec := "fnExactLettersIn", apart := false, narrowed := true }
def FnExactLettersInUptoSaid : Prop := fnExactLettersInUptoRow.holds Try.pinned (OpenSpec.upto fnExactLettersInSpec)

end Rows
end Go.Proofs.Ytafhidlianafhaa
