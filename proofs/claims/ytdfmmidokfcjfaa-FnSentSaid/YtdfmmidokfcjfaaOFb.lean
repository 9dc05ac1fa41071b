
/- CloseChan: the program's. No conditions but those written. -/
import Derived.Test.YtdfmmidokfcjfaaOFa
namespace Go.Proofs.Ytdfmmidokfcjfaa.Old
open Go.RowKit

/-- CloseChan. -/
def closeR (kap : Int) (cl : Bool) (b : List Int) (s r : List T3) : Int × Bool × List Int × List T3 × List T3 × List T4 × Int :=
  if goodC kap cl b s r = true then (if cl = true then (kap, cl, b, s, r, [], 3) else (kap, true, b, [], [], wakeAll r ++ wakeAll s, 0)) else (0, false, [], [], [], [], 2)
theorem closeR_len (kap : Int) (cl : Bool) (b : List Int) (s r : List T3) (hl : b.length ≤ 1048576) (hls : s.length ≤ 1048576) (hlr : r.length ≤ 1048576) : (closeR kap cl b s r).2.2.1.length ≤ 1048576 ∧ (closeR kap cl b s r).2.2.2.1.length ≤ 1048576 ∧ (closeR kap cl b s r).2.2.2.2.1.length ≤ 1048576 ∧ (closeR kap cl b s r).2.2.2.2.2.1.length ≤ 1048576 := by
  unfold closeR
  split
  · rename_i h
    obtain ⟨_, _, _, h4, h5⟩ := goodC_len h
    split
    · exact ⟨hl, hls, hlr, by simp⟩
    · exact ⟨hl, by simp, by simp, by simp [wakeAll_len]; omega⟩
  · simp

end Go.Proofs.Ytdfmmidokfcjfaa.Old
