
/- Ints of which none is twice there; rows of ints copied. No conditions but those written. Names, on both sides. No conditions but those written. Stages: when they are good, on both sides. No conditions but those written. Stages: when the program finds them good, and what it keeps of each kind. No conditions but those written. -/
import Derived.Test.YtoeonbdoopboiaaGreatDoorPSpaSpd
import Derived.Test.YtoeonbdoopboiaaGreatDoorPGenBx
import Derived.Laws.IdiomStrings
import Derived.Laws.EntriesVeiled
namespace Go.Proofs.YtoeonbdoopboiaaGreatDoor
section
open Go.RowKit

end
section
open Go.RowKit

end
section
open Go.RowKit

end
section
open Go.RowKit

end
end Go.Proofs.YtoeonbdoopboiaaGreatDoor
