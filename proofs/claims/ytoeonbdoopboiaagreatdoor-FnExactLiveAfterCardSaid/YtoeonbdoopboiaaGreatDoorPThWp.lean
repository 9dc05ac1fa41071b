
/- SourcesOf, the program's and the specification's. No conditions but those written. The order of a graph: the specification. No conditions but those written. The widest of a graph, plainly; the specification. No conditions but those written. -/
import Derived.Test.YtoeonbdoopboiaaGreatDoorPCkLd
namespace Go.Proofs.YtoeonbdoopboiaaGreatDoor
section
open Go.RowKit

end
section
open Go.RowKit

end
section
open Go.RowKit

end
end Go.Proofs.YtoeonbdoopboiaaGreatDoor
