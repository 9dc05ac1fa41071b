
/- WaitingOn, both sides. No conditions but those written. -/
import Derived.Test.YtimkadnnhfllnaaTv
import Derived.Test.YtimkadnnhfllnaaTr
import Derived.Test.YtimkadnnhfllnaaTu
namespace Go.Proofs.Ytimkadnnhfllnaa
open Go.RowKit

set_option maxRecDepth 10000 in
set_option maxHeartbeats 4000000 in
theorem implWait_any (sd : Int) (ao : Option Addr) (cap : Nat) (ts : List LSub) (w : World) (hl : ts.length ≤ 1048576) (hf : Fits ts) (hz : DIn dSub w.heap.size w ao ts) :
    Calls Try.prog 8 #[.agg #[.int .i64 sd, .slice ao ts.length cap]] w fun e w' => AnsIB w (waitR sd (ts.map valSub)) e w' := by
  have HZ := hid hz
  have HF := hid hf
  have hB0 := below1 w (.cells #[.int .i64 sd, .slice ao ts.length cap] 25)
  have A0 := hid (Bx.new (w := w) (p := w.heap.size) [.int .i64 sd, .slice ao ts.length cap] 25 rfl)
  clear hz hf
  cases hg : topicB sd (ts.map valSub)
  · have HG := hid hg
    have HR : Hid (waitR sd (ts.map valSub) = ([], false)) := by rw [Hid, waitR, hg]; rfl
    clear hg
    go_enter Try.func8, Try.ntmps8
    go_wp2_with fail
    refine (implGood_is sd ao cap ts _ false hl HF.out (HZ.out.later dSub_ok hB0) HG.out).mono ?_
    rintro e w1 ⟨rfl, hb1⟩
    have hB1 := hB0.trans (hb1.mono hB0.size)
    clear hb1
    go_wp2
    refine bodyPost_ret (v := .tuple #[.slice none 0 0, .bool false]) (by simp [results, Try.results8, go_sem]) rfl ?_
    rw [HR.out]
    exact ⟨⟨none, 0, rfl, .inl rfl⟩, hB1⟩
  have HG := hid hg
  have HR : Hid (waitR sd (ts.map valSub) = (waitI (ts.map valSub), true)) := by rw [Hid, waitR, hg]; rfl
  clear hg
  go_enter Try.func8, Try.ntmps8
  go_wp2_with fail
  refine (implGood_is sd ao cap ts _ true hl HF.out (HZ.out.later dSub_ok hB0) HG.out).mono ?_
  rintro e w1 ⟨rfl, hb1⟩
  have hB1 := hB0.trans (hb1.mono hB0.size)
  have A1 := hid (A0.out.later hb1)
  clear hb1 A0
  have a0 := A1.out.c 0 rfl
  have a1 := A1.out.c 1 rfl
  go_wp2_with fail
  refine (waitingIds_any ao cap ts _ hl (HZ.out.later dSub_ok hB1).1).mono ?_
  rintro e w2 ⟨⟨go, qc, rfl, hF2⟩, hb2⟩
  have hB2 := hB1.trans (hb2.mono hB1.size)
  have F2 := hid (hF2.wide hB1.size (Nat.le_refl _))
  clear hb2 hF2
  go_wp2
  refine bodyPost_ret (v := .tuple #[.slice go (waitI (ts.map valSub)).length qc, .bool true]) (by simp [results, Try.results8, go_sem]) rfl ?_
  rw [HR.out]
  exact ⟨⟨_, _, rfl, F2.out⟩, hB2⟩
end Go.Proofs.Ytimkadnnhfllnaa
