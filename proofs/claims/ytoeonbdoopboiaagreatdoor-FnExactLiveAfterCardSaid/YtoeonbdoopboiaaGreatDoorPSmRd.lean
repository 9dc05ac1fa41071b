
/- ApplyStage on both sides. No conditions but those written. A value is led on. No conditions but those written. Bounds of what a pipe holds behind n moves, plainly. No conditions but those written. A region that draws its order in a round of a range over a function: walked as one outside. No conditions but those written. -/
import Derived.Test.YtoeonbdoopboiaaGreatDoorPWxSl
import Derived.Test.YtoeonbdoopboiaaGreatDoorPGenBx
import Derived.OrdersHeld
import Derived.OrdersIn
import Derived.Deep.RegionHeld3
import Derived.RangeFuncCalls
namespace Go.Proofs.YtoeonbdoopboiaaGreatDoor
section
open Go.RowKit

end
section
open Go.RowKit

end
section
open Go.RowKit

end
section
open Go Go.RowKit

end
end Go.Proofs.YtoeonbdoopboiaaGreatDoor
