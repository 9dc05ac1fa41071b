
/- The contract of impl.GoodBoard: it answers as the specification. No conditions but those written. -/
import Derived.Test.YtgbnbnjfaffaiaaOWh
namespace Go.Proofs.Ytgbnbnjfaffaiaa.Old
open Go.RowKit

set_option maxHeartbeats 2000000 in
theorem implGood_any (ao : Option Addr) (cap : Nat) (ts : List (Int × Int)) (qo : Option Addr) (qcap : Nat) (q : List Int) (w : World) (hl : ts.length ≤ 1048576) (hz : TasksIn w.heap.size w ao ts) (hq : IntsIn w.heap.size w qo q) :
    Calls Try.prog 7 #[.agg #[.slice ao ts.length cap, .slice qo q.length qcap]] w fun e w' => e = .returned (.bool (specGoodB ts q)) ∧ Below w.heap.size w w' := by
  by_cases h30 : ts.length ≤ 30
  · cases hg : goodTasksB ts
    · have HF : Hid (specGoodB ts q = false) := by
        rw [Hid, Bool.eq_false_iff]; intro h; have := ((good_iff ts q).2 h).2.1; rw [hg] at this; cases this
      have HG : Hid (goodTasksB ts = false) := hg
      clear hg
      go_enter Try.func7, Try.ntmps7
      go_wp2_with fail
      refine (goodTasks_any ao cap ts _ hl (hz.later (below1 _ _))).mono ?_
      rintro e w1 ⟨rfl, hb1⟩
      rw [HG.out]
      have hB1 := (below1 w (.cells #[.slice ao ts.length cap, .slice qo q.length qcap] 26)).trans (hb1.mono (by simp))
      go_wp2
      go_ret
      exact ⟨ret_bool HF.out.symm, hB1⟩
    · have HG : Hid (goodTasksB ts = true) := hg
      clear hg
      go_enter Try.func7, Try.ntmps7
      go_wp2_with fail
      refine (goodTasks_any ao cap ts _ hl (hz.later (below1 _ _))).mono ?_
      rintro e w1 ⟨rfl, hb1⟩
      rw [HG.out]
      have hB1 := (below1 w (.cells #[.slice ao ts.length cap, .slice qo q.length qcap] 26)).trans (hb1.mono (by simp))
      have c0 : w1.cell? ⟨w.heap.size, 0, none⟩ = some (.slice ao ts.length cap) := (hb1.cell (p := ⟨w.heap.size, 0, none⟩) (by simp)).trans (by simp [go_sem])
      have c1 : w1.cell? ⟨w.heap.size, 1, none⟩ = some (.slice qo q.length qcap) := (hb1.cell (p := ⟨w.heap.size, 1, none⟩) (by simp)).trans (by simp [go_sem])
      clear hb1
      go_wp2_with fail
      refine (goodQueue_any ao cap ts qo qcap q w1 h30 (hz.later hB1) (hq.later hB1)).mono ?_
      rintro e w2 ⟨⟨b, rfl, hbq⟩, hb2⟩
      have HB : Hid (b = specGoodB ts q) := by
        rw [Hid, Bool.eq_iff_iff, hbq, ← good_iff]
        exact ⟨fun h => ⟨h30, HG.out, h⟩, fun h => h.2.2⟩
      clear hbq
      have hB2 := hB1.trans (hb2.mono hB1.size)
      go_wp2
      go_ret
      exact ⟨ret_bool HB.out, hB2⟩
  · have HF : Hid (specGoodB ts q = false) := specGoodB_many ts q (by omega)
    have hd : decide ((ts.length : Int) ≤ 30) = false := by simp; omega
    go_enter Try.func7, Try.ntmps7
    go_wp2
    go_ret
    exact ⟨ret_bool HF.out.symm, below1 _ _⟩
end Go.Proofs.Ytgbnbnjfaffaiaa.Old
