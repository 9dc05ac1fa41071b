
/- The specification's fault of the first token. No conditions but those written. What holds of a pipe that plays on a good graph, plainly. No conditions but those written. -/
import Derived.Test.YtoeonbdoopboiaaGreatDoorPSpaSpd
import Derived.Test.YtoeonbdoopboiaaGreatDoorPYtYj
namespace Go.Proofs.YtoeonbdoopboiaaGreatDoor
section
open Go.RowKit

end
section
open Go.RowKit

end
end Go.Proofs.YtoeonbdoopboiaaGreatDoor
