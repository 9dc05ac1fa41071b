
/- Wake: the program's and the specification's. No conditions but those written. -/
import Derived.Test.YtgbnbnjfaffaiaaOMh
namespace Go.Proofs.Ytgbnbnjfaffaiaa.Old
open Go.RowKit

/-- What WakeTask answers. -/
def wakeR (iv : Int) (ts : List (Int × Int)) (q : List Int) : List (Int × Int) × List Int × Int :=
  if specGoodB ts q = true then (if iv < 0 ∨ (ts.length : Int) ≤ iv then (ts, q, 2) else if (ts[iv.toNat]?.getD (0, 0)).1 ≠ 3 then (ts, q, 4) else (ts.set iv.toNat (1, 0), q ++ [iv], 0)) else ([], [], 1)
theorem wakeR_len (iv : Int) (ts : List (Int × Int)) (q : List Int) (h1 : ts.length ≤ 1048576) (h2 : q.length ≤ 1048576) : (wakeR iv ts q).1.length ≤ 1048576 ∧ (wakeR iv ts q).2.1.length ≤ 1048576 := by
  unfold wakeR
  split
  · rename_i hg
    have hq := good_queue ts q hg
    split
    · exact ⟨h1, h2⟩
    · split
      · exact ⟨h1, h2⟩
      · exact ⟨by simp; omega, by simp; omega⟩
  · simp

end Go.Proofs.Ytgbnbnjfaffaiaa.Old
