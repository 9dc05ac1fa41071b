
/- An offer. No conditions but those written. A step of a node. No conditions but those written. A move: the program. No conditions but those written. Moves one after another, plainly; a flow where its blocks are as they were. No conditions but those written. Moves one after another: the program (under way). No conditions but those written. Moves played on a new pipe: the program. No conditions but those written. -/
import Derived.Test.YtoeonbdoopboiaaGreatDoorPSmRd
import Derived.Test.YtoeonbdoopboiaaGreatDoorPWyYs
namespace Go.Proofs.YtoeonbdoopboiaaGreatDoor
section
open Go.RowKit

end
section
open Go.RowKit

end
section
open Go.RowKit

end
section
open Go.RowKit

end
section
open Go.RowKit

end
section
open Go.RowKit

end
end Go.Proofs.YtoeonbdoopboiaaGreatDoor
