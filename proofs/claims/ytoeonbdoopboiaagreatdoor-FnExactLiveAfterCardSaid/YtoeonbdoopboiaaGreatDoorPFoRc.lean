
/- What is wrong with a graph: the program. No conditions but those written. What is wrong with a graph: the program's telling. No conditions but those written. Reaching in a graph, plainly. No conditions but those written. Orders and rounds, plainly. No conditions but those written. A queue of ints in memory of its own: its head taken, others put behind. No conditions but those written. Whether a node is reached: the specification. No conditions but those written. -/
import Derived.Test.YtoeonbdoopboiaaGreatDoorPRwOs
import Derived.Test.YtoeonbdoopboiaaGreatDoorPZaZe
import Derived.Test.YtoeonbdoopboiaaGreatDoorPGenBx
import Derived.Deep.AppendSrc
import Derived.Lib.EndianMore
import Derived.Deep.Upon
import Derived.Deep.LoopGhost
namespace Go.Proofs.YtoeonbdoopboiaaGreatDoor
section
open Go.RowKit

end
section
open Go.RowKit

end
section
open Go.RowKit

/-- One is reached from another by one step at least. -/
inductive Rch (gs : List PNode) : Nat → Nat → Prop
  | one {a b : Nat} : ((b : Nat) : Int) ∈ nxP gs a → Rch gs a b
  | more {a b c : Nat} : Rch gs a b → ((c : Nat) : Int) ∈ nxP gs b → Rch gs a c
end
section
open Go.RowKit

end
section
open Go.RowKit

end
section
open Go.RowKit

end
end Go.Proofs.YtoeonbdoopboiaaGreatDoor
