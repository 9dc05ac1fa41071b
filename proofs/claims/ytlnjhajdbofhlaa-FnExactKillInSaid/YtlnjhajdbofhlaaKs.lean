
/- Cases that are good: the program. No conditions but those written. -/
import Derived.Test.YtlnjhajdbofhlaaKr
import Derived.Test.YtlnjhajdbofhlaaKi
namespace Go.Proofs.Ytlnjhajdbofhlaa
open Go.RowKit

set_option maxRecDepth 10000 in
set_option maxHeartbeats 8000000 in
theorem goodCase_any (ao : Option Addr) (cap n : Nat) (x1 : Int) (x2 : Bool) (x3 : Int) (w : World) :
    Calls Try.prog 86 #[.agg #[.slice ao n cap], .agg #[.int .i64 x1, .bool x2, .int .i64 x3]] w fun e w' => e = .returned (.bool (decide (-1 ≤ x1) && decide (x1 < (n : Int)) && (x2 || decide (x3 = 0)))) ∧ Below w.heap.size w w' := by
  go_enter Try.func86, Try.ntmps86
  go_wp2
  all_goals go_ret
  all_goals refine ⟨ret_bool ?_, ?_⟩
  all_goals first
    | exact below2 _ _ _
    | exact below3 _ _ _ _
    | (rw [Bool.eq_iff_iff]; simp_all <;> omega)
end Go.Proofs.Ytlnjhajdbofhlaa
