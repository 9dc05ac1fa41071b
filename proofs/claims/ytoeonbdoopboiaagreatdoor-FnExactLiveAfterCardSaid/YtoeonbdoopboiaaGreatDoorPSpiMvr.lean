
/- The specification's moves: ticks, drains, aborts. No conditions but those written. The specification plays moves on a new pipe. No conditions but those written. Rows of moves: sizes, copies, comparisons. No conditions but those written. The walk of the law of RoomOf: it returns true. No conditions but those written. How the arguments that come in are read. No conditions but those written. How rows that come in are read. No conditions but those written. How graphs that come in are read. No conditions but those written. How a row of moves that comes in is read. No conditions but those written. -/
import Derived.Test.YtoeonbdoopboiaaGreatDoorPSpgSph
import Derived.Test.YtoeonbdoopboiaaGreatDoorPCkLd
import Derived.Test.YtoeonbdoopboiaaGreatDoorPThWp
import Derived.Test.YtoeonbdoopboiaaGreatDoorPYtYj
import Derived.Test.YtoeonbdoopboiaaGreatDoorPGenBx
import Derived.ProofKit
import Derived.Deep.SlicePairs
import Derived.Lib.SmallJoins
import Derived.Test.YtoeonbdoopboiaaGreatDoorPDpFx
namespace Go.Proofs.YtoeonbdoopboiaaGreatDoor
section
open Go.RowKit

end
section
open Go.RowKit

end
section
open Go.RowKit

end
section
open Go.RowKit

end
section
open Go.ChangeShapes Go.WideShapes Go.ChangeAt Go.RowKit Go.Joins Go.Deep

end
section
open Go.ChangeShapes Go.WideShapes Go.ChangeAt Go.RowKit Go.Joins Go.Deep

end
section
open Go.ChangeShapes Go.WideShapes Go.ChangeAt Go.RowKit Go.Joins Go.Deep

end
section
open Go.ChangeShapes Go.WideShapes Go.ChangeAt Go.RowKit Go.Joins Go.Deep

end
end Go.Proofs.YtoeonbdoopboiaaGreatDoor
