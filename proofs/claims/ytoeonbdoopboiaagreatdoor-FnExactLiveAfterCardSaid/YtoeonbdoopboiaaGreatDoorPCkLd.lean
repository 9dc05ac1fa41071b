
/- What is wrong with a graph: the specification. No conditions but those written. RoomOf, the program's and the specification's. No conditions but those written. How many nodes lead to each; the sources: the specification. No conditions but those written. -/
import Derived.Test.YtoeonbdoopboiaaGreatDoorPFoRc
namespace Go.Proofs.YtoeonbdoopboiaaGreatDoor
section
open Go.RowKit

end
section
open Go.RowKit

end
section
open Go.RowKit

end
end Go.Proofs.YtoeonbdoopboiaaGreatDoor
