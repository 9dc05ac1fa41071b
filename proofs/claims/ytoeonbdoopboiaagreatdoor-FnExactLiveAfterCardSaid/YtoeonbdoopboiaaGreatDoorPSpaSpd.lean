
/- The specification's flow in memory, and what its steps leave. No conditions but those written. The specification takes a token out of a box. No conditions but those written. The specification aborts. No conditions but those written. -/
import Derived.Test.YtoeonbdoopboiaaGreatDoorPZwYz
namespace Go.Proofs.YtoeonbdoopboiaaGreatDoor
section
open Go.RowKit

end
section
open Go.RowKit

end
section
open Go.RowKit

end
end Go.Proofs.YtoeonbdoopboiaaGreatDoor
