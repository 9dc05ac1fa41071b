
/- Rows of tokens, of outs, of losts: sizes, copies, comparisons. No conditions but those written. Rows of rows of tokens: sizes, copies, comparisons. No conditions but those written. Putting behind a row: where the row lies then. No conditions but those written. Hands: rows of tokens of their own behind one row of heads. No conditions but those written. -/
import Derived.Test.YtoeonbdoopboiaaGreatDoorPGenBx
namespace Go.Proofs.YtoeonbdoopboiaaGreatDoor
section
open Go.RowKit

end
section
open Go.RowKit

section
variable {lo hi : Nat} {W W' : World} {ao : Option Addr} {c : Nat} {hs : List (Option Addr × Nat × Nat)} {ls : List (List (Int × Int × Int))}
end
end
section
open Go.RowKit

section
variable {α : Type} {K : Kind α}
end
end
section
open Go.RowKit

end
end Go.Proofs.YtoeonbdoopboiaaGreatDoor
