
/- Rows without a task. No conditions but those written. -/
import Derived.Test.YtdfmmidokfcjfaaOEb
namespace Go.Proofs.Ytdfmmidokfcjfaa.Old
open Go.RowKit

/-- Those of other tasks. -/
def outT (ts : List T3) (task : Int) : List T3 := ts.filter (fun t => t.1 != task)
theorem outT_len (ts : List T3) (task : Int) : (outT ts task).length ≤ ts.length := List.length_filter_le _ _
theorem outT_snoc {ts : List T3} {j : Nat} (hj : j < ts.length) (task : Int) : outT (ts.take (j + 1)) task = outT (ts.take j) task ++ (if (t3 ts j).1 = task then [] else [t3 ts j]) := by
  have e : ts.take (j + 1) = ts.take j ++ [t3 ts j] := by rw [List.take_add_one, List.getElem?_eq_getElem hj, t3_at hj]; rfl
  rw [e, outT, List.filter_append]
  by_cases h : (t3 ts j).1 = task <;> simp [h, outT]

end Go.Proofs.Ytdfmmidokfcjfaa.Old
