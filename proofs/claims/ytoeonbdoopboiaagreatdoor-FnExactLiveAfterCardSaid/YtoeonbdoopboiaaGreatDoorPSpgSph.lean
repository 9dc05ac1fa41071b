
/- The specification's offer. No conditions but those written. The specification's moves: offers, steps, faults. No conditions but those written. -/
import Derived.Test.YtoeonbdoopboiaaGreatDoorPSpeSpb
import Derived.Test.YtoeonbdoopboiaaGreatDoorSpf
namespace Go.Proofs.YtoeonbdoopboiaaGreatDoor
section
open Go.RowKit

end
section
open Go.RowKit

end
end Go.Proofs.YtoeonbdoopboiaaGreatDoor
