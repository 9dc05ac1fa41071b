
/- Pipes: sizes, copies, comparisons. No conditions but those written. A flow in memory. No conditions but those written. Counting atomically. No conditions but those written. A region that draws its order, walked once: what yields the same wherever S holds comes first; behind the last operations S need not hold. No conditions but those written. A token is put into a box. No conditions but those written. -/
import Derived.Test.YtoeonbdoopboiaaGreatDoorPZaZe
import Derived.Test.YtoeonbdoopboiaaGreatDoorPGenBx
import Derived.Laws.LoneSync
import Derived.Laws.BitsLemmas
import Derived.OrdersHeld
import Derived.Deep.RegionHeld3
namespace Go.Proofs.YtoeonbdoopboiaaGreatDoor
section
open Go.RowKit

section
variable {lo hi n : Nat} {W W' : World} {ao : Option Addr} {c : Nat} {ls : List (List (Int × Int × Int))}
end
end
section
open Go.RowKit

end
section
open Go.RowKit

end
section
open Go Go.RowKit

section
variable {P : Program} {ops : Array Oper} {Q : Exit → Act → World → Prop} {md : Region.Mode} {S : World → Prop} {zs : Nat → Bool}
end
end
section
open Go.RowKit

section
variable {α : Type} {K : Kind α}
end
end
end Go.Proofs.YtoeonbdoopboiaaGreatDoor
