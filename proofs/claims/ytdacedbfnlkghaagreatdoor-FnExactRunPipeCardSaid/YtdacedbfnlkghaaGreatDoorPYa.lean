/- Drawn stages and values. No conditions but those written. -/
import Derived.Test.YtdacedbfnlkghaaGreatDoorPSlTa
namespace Go.Proofs.YtdacedbfnlkghaaGreatDoor
open Go.RowKit
end Go.Proofs.YtdacedbfnlkghaaGreatDoor