
/- A fault of the first token. No conditions but those written. Whether a node has a first token. No conditions but those written. A fault of a node. No conditions but those written. The room of a box. No conditions but those written. -/
import Derived.Test.YtoeonbdoopboiaaGreatDoorPTlZv
namespace Go.Proofs.YtoeonbdoopboiaaGreatDoor
section
open Go.RowKit

end
section
open Go.RowKit

end
section
open Go.RowKit

end
section
open Go.RowKit

end
end Go.Proofs.YtoeonbdoopboiaaGreatDoor
