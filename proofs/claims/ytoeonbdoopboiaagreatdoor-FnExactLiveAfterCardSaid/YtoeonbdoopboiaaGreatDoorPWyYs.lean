
/- The widest of a graph: the program. No conditions but those written. A pipe begins. No conditions but those written. A move goes to the function of its kind. No conditions but those written. -/
import Derived.Test.YtoeonbdoopboiaaGreatDoorPWxSl
import Derived.Test.YtoeonbdoopboiaaGreatDoorPSmRd
import Derived.Test.YtoeonbdoopboiaaGreatDoorPThWp
namespace Go.Proofs.YtoeonbdoopboiaaGreatDoor
section
open Go.RowKit Go.Shelf

attribute [local go_sem] Oper.semAt_some

end
section
open Go.RowKit

end
section
open Go.RowKit

end
end Go.Proofs.YtoeonbdoopboiaaGreatDoor
