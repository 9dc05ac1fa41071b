
/- Plain facts on the greatest count. No conditions but those written. -/
import Derived.Test.YtgbnbnjfaffaiaaOPb
namespace Go.Proofs.Ytgbnbnjfaffaiaa.Old
def mostP (ts : List (Int × Int)) : Int := ts.foldl (fun m t => if m < t.2 then t.2 else m) 0
theorem mostP_snoc (ts : List (Int × Int)) (k : Nat) (h : k < ts.length) : mostP (ts.take (k + 1)) = if mostP (ts.take k) < (ts[k]?.getD (0, 0)).2 then (ts[k]?.getD (0, 0)).2 else mostP (ts.take k) := by
  rw [take_snoc ts k (0, 0) h, mostP, List.foldl_append]; rfl
end Go.Proofs.Ytgbnbnjfaffaiaa.Old
