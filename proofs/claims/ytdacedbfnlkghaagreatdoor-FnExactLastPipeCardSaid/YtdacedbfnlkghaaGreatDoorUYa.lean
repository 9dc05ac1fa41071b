/- Drawn stages and values. No conditions but those written. -/
import Derived.Test.YtdacedbfnlkghaaGreatDoorUSlTa
namespace Go.Proofs.YtdacedbfnlkghaaGreatDoor
open Go.RowKit
end Go.Proofs.YtdacedbfnlkghaaGreatDoor