
/- Contracts of the laws' comparisons where both sides hold the same. No conditions but those written. -/
import Derived.Test.YtgbnbnjfaffaiaaOWd
import Derived.Deep.QuietTactic
import Derived.BigQuiet
import Derived.Deep.RegionWith
namespace Go.Proofs.Ytgbnbnjfaffaiaa.Old
open Go.RowKit

theorem below_draws {B : Nat} {a w : World} (h : Below B a w) (n : Nat) : Below B a (w.drewN n) := h.trans ⟨rfl, rfl, rfl, Nat.le_refl _, fun _ _ => rfl⟩

end Go.Proofs.Ytgbnbnjfaffaiaa.Old
