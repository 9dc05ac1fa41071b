
/- The laws' sizes, copies and comparisons of channels. No conditions but those written. -/
import Derived.Test.YtdfmmidokfcjfaaOBb
namespace Go.Proofs.Ytdfmmidokfcjfaa.Old
open Go.RowKit

theorem Try.info3 : (Try.prog.info? 3).map (fun i => (i.zero, i.size, i.bytes)) = some (some (.int .i64 0), 1, 8) := by kernel_rfl
theorem below_draws {B : Nat} {a w : World} (h : Below B a w) (n : Nat) : Below B a (w.drewN n) := h.trans ⟨rfl, rfl, rfl, Nat.le_refl _, fun _ _ => rfl⟩
end Go.Proofs.Ytdfmmidokfcjfaa.Old
