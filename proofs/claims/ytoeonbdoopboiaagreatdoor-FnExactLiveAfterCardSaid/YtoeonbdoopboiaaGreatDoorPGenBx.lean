
/- Rows of elements in memory, of any kind: what lies where, and what copies, appends and stores leave. No conditions but those written. Rows of ints: the small functions over them. No conditions but those written. Boxes: blocks of a struct's cells. No conditions but those written. -/
import Derived.Test.YtoeonbdoopboiaaGreatDoorHs
import Derived.Test.YtoeonbdoopboiaaGreatDoorRows
import Derived.WalkKit
import Derived.WalkSpells
import Derived.Deep.RegionWith
import Derived.Deep.QuietTactic
import Derived.BigQuiet
import Derived.Laws.CopyOwn
import Derived.ArgAppend
import Derived.OwnWalk
import Derived.Deep.RegionHeld3
namespace Go.Proofs.YtoeonbdoopboiaaGreatDoor
section
open Go.RowKit

section
variable {α : Type} [Inhabited α]
end

section
variable {α : Type} {K : Kind α}
end

section
variable {α : Type} {K : Kind α}
end
end
section
open Go.RowKit

end
section
open Go.RowKit

end
end Go.Proofs.YtoeonbdoopboiaaGreatDoor
