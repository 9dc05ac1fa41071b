
/- Kill, the specification's. No conditions but those written. -/
import Derived.Test.YtgbnbnjfaffaiaaOKa
namespace Go.Proofs.Ytgbnbnjfaffaiaa.Old
open Go.RowKit

/-- What KillTask answers. -/
def killR (iv : Int) (ts : List (Int × Int)) (q : List Int) : List (Int × Int) × List Int × Int :=
  if specGoodB ts q = true then (if iv < 0 ∨ (ts.length : Int) ≤ iv then (ts, q, 2) else if (ts[iv.toNat]?.getD (0, 0)).1 = 4 then (ts, q, 4) else (ts.set iv.toNat (4, 0), wout q iv, 0)) else ([], [], 1)
theorem killR_len (iv : Int) (ts : List (Int × Int)) (q : List Int) (h1 : ts.length ≤ 1048576) (h2 : q.length ≤ 1048576) : (killR iv ts q).1.length ≤ 1048576 ∧ (killR iv ts q).2.1.length ≤ 1048576 := by
  unfold killR
  split
  · split
    · exact ⟨h1, h2⟩
    · split
      · exact ⟨h1, h2⟩
      · exact ⟨by simp; omega, Nat.le_trans (wout_len _ _) h2⟩
  · simp

end Go.Proofs.Ytgbnbnjfaffaiaa.Old
