
/- Stages: what the program finds good, and how many come out. No conditions but those written. Stages: GoodStage and FactorOf on both sides, and their laws' walks. No conditions but those written. A region that draws its order, whose operations only read and whose callees read and make: walked once, in whatever later world. No conditions but those written. What each node of a graph must keep to: the program's tests. No conditions but those written. -/
import Derived.Test.YtoeonbdoopboiaaGreatDoorPOnSh
import Derived.Deep.Cut
import Derived.Test.YtoeonbdoopboiaaGreatDoorPGenBx
import Derived.BigQuiet
import Derived.Test.YtoeonbdoopboiaaGreatDoorPDpFx
namespace Go.Proofs.YtoeonbdoopboiaaGreatDoor
section
open Go.RowKit

end
section
open Go.RowKit

end
section
open Go.RowKit

end
section
open Go.RowKit

end
end Go.Proofs.YtoeonbdoopboiaaGreatDoor
