
/- The five tests over a graph; the numbers of its nodes. No conditions but those written. Queues without one place: what serves every kind. No conditions but those written. A queue of ints: its iterator, without one place. No conditions but those written. The order of a graph: the program. No conditions but those written. The order of a graph: the program's loop. No conditions but those written. -/
import Derived.Test.YtoeonbdoopboiaaGreatDoorPSiRu
import Derived.RangeFuncNested
import Derived.RangeFuncBound
import Derived.RangeFuncCalls
import Derived.RangeFuncLeaves
import Derived.RangeFuncBox
import Derived.Shelf.Abstract
import Derived.Shelf.RegionOpen
import Derived.OwnWalkIn
import Derived.TacticsInMore
import Derived.LoopNIn
import Derived.LoopIn
import Derived.Test.YtoeonbdoopboiaaGreatDoorPOnSh
import Derived.Test.YtoeonbdoopboiaaGreatDoorPZaZe
namespace Go.Proofs.YtoeonbdoopboiaaGreatDoor
section
open Go.RowKit

end
section
open Go.RowKit Go.Shelf

section
variable {α : Type} [Inhabited α]
end
end
section
open Go.RowKit Go.Shelf

attribute [local go_sem] Oper.semAt_some

end
section
open Go.RowKit

end
section
open Go.RowKit

end
end Go.Proofs.YtoeonbdoopboiaaGreatDoor
