
/- Drawn stages and values. No conditions but those written. -/
import Derived.Test.YtdacedbfnlkghaaGreatDoorPAoSh
import Derived.Test.YtdacedbfnlkghaaGreatDoorPSlTa
import Derived.Deep.Cut
namespace Go.Proofs.YtdacedbfnlkghaaGreatDoor
open Go.RowKit

end Go.Proofs.YtdacedbfnlkghaaGreatDoor
