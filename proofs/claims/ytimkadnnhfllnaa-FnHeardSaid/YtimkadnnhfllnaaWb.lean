
/- Queues of Subs made. No conditions but those written. -/
import Derived.Test.YtimkadnnhfllnaaTk
namespace Go.Proofs.Ytimkadnnhfllnaa
open Go.RowKit

end Go.Proofs.Ytimkadnnhfllnaa
