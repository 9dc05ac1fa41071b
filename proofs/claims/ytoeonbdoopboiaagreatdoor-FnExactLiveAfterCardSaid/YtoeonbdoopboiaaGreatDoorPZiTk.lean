
/- A token is taken out of a box. No conditions but those written. Steps of a flow, one behind the other; its rows grow. No conditions but those written. A token is lost. No conditions but those written. Scalars of a flow; what an abort loses, plainly. No conditions but those written. All tokens are lost. No conditions but those written. Draining and aborting. No conditions but those written. Ticks: the small functions over them, both sides. No conditions but those written. -/
import Derived.Test.YtoeonbdoopboiaaGreatDoorPZcZh
import Derived.Deep.LoopGhost
import Derived.Test.YtoeonbdoopboiaaGreatDoorPGenBx
namespace Go.Proofs.YtoeonbdoopboiaaGreatDoor
section
open Go.RowKit

end
section
open Go.RowKit

end
section
open Go.RowKit

end
section
open Go.RowKit

end
section
open Go.RowKit

end
section
open Go.RowKit

end
section
open Go.RowKit

end
end Go.Proofs.YtoeonbdoopboiaaGreatDoor
