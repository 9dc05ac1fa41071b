
/- The greatest of a row; a row backward: what the program's widest wants. No conditions but those written. A value is led on. No conditions but those written. A value comes out. No conditions but those written. Whether a node is blocked: the program. No conditions but those written. Stages: what a stage makes of a value, on both sides. No conditions but those written. Stages: what a stage makes of a value: the walks. No conditions but those written. -/
import Derived.Test.YtoeonbdoopboiaaGreatDoorPThWp
import Derived.Test.YtoeonbdoopboiaaGreatDoorPZwYz
import Derived.Test.YtoeonbdoopboiaaGreatDoorPRwOs
import Derived.Test.YtoeonbdoopboiaaGreatDoorPFoRc
import Derived.Test.YtoeonbdoopboiaaGreatDoorPSiRu
namespace Go.Proofs.YtoeonbdoopboiaaGreatDoor
section
open Go.RowKit Go.Shelf

attribute [local go_sem] Oper.semAt_some

end
section
open Go.RowKit

end
section
open Go.RowKit

end
section
open Go.RowKit

end
section
open Go.RowKit

end
section
open Go.RowKit

end
end Go.Proofs.YtoeonbdoopboiaaGreatDoor
