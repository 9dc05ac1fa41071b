
/- Those above a limit, and where one gives up: both sides. No conditions but those written. A tick. No conditions but those written. A token is tried once more; two that may come up. No conditions but those written. -/
import Derived.Test.YtoeonbdoopboiaaGreatDoorPZiTk
import Derived.Laws.BitsLemmas
namespace Go.Proofs.YtoeonbdoopboiaaGreatDoor
section
open Go.RowKit

end
section
open Go.RowKit

end
section
open Go.RowKit

section
variable {P : Program} {ops : Array Oper} {Q : Exit → Act → World → Prop} {md : Region.Mode} {S : World → Prop} {zs : Nat → Bool}
end
end
end Go.Proofs.YtoeonbdoopboiaaGreatDoor
