
/- The walk of the law of GoodTopic: it returns true. No conditions but those written. -/
import Derived.Test.YtdghlgpkcpndjaaTr
import Derived.Test.YtdghlgpkcpndjaaTu
import Derived.Test.YtdghlgpkcpndjaaTo
namespace Go.Proofs.Ytdghlgpkcpndjaa
open Go.RowKit

theorem eqTopic_ts {sd : Int} {g g2 : Nat} {us us2 ts : List LSub} {w : World} (hv : us.map valSub = ts.map valSub) (hv2 : us2.map valSub = ts.map valSub) (hl : ts.length ≤ 1048576) (ht : totSub ts ≤ 1048576) (hz : DIn dSub w.heap.size w (some ⟨g, 0, none⟩) us) (hz2 : DIn dSub w.heap.size w (some ⟨g2, 0, none⟩) us2) :
    Calls Try.prog 19 #[.agg #[.int .i64 sd, .slice (some ⟨g, 0, none⟩) ts.length ts.length], .agg #[.int .i64 sd, .slice (some ⟨g2, 0, none⟩) ts.length ts.length]] w fun e w' => e = .returned (.bool true) ∧ Below w.heap.size w w' := by
  have h := eqTopic_of sd (some ⟨g, 0, none⟩) (some ⟨g2, 0, none⟩) ts.length ts.length us us2 (ts.map valSub) w hv hv2 (by simpa using hl) (by rw [← totSub_P]; exact ht) hz hz2
  rw [List.length_map] at h; exact h
theorem fits_val {ts us : List LSub} (h : totSub ts ≤ 1048576) (hv : us.map valSub = ts.map valSub) : Fits us := fits_of (by rw [tot_ps hv, ← totSub_P]; exact h)
theorem implGood_of (sd : Int) (g n : Nat) (us ts : List LSub) (x : Bool) (w : World) (hn : us.length = n) (hv : us.map valSub = ts.map valSub) (hl : ts.length ≤ 1048576) (ht : totSub ts ≤ 1048576) (hz : DIn dSub w.heap.size w (some ⟨g, 0, none⟩) us) (hx : topicB sd (ts.map valSub) = x) :
    Calls Try.prog 12 #[.agg #[.int .i64 sd, .slice (some ⟨g, 0, none⟩) n n]] w fun e w' => e = .returned (.bool x) ∧ Below w.heap.size w w' := by
  subst hn
  exact implGood_is sd _ _ us w x (by rw [len_val hv]; exact hl) (fits_val ht hv) hz (by rw [hv]; exact hx)
theorem specGood_of (sd : Int) (g n : Nat) (us ts : List LSub) (x : Bool) (w : World) (hn : us.length = n) (hv : us.map valSub = ts.map valSub) (hl : ts.length ≤ 1048576) (ht : totSub ts ≤ 1048576) (hz : DIn dSub w.heap.size w (some ⟨g, 0, none⟩) us) (hx : topicB sd (ts.map valSub) = x) :
    Calls Try.prog 31 #[.agg #[.int .i64 sd, .slice (some ⟨g, 0, none⟩) n n]] w fun e w' => e = .returned (.bool x) ∧ Below w.heap.size w w' := by
  subst hn
  exact specGood_is sd _ _ us w x (by rw [len_val hv]; exact hl) (fits_val ht hv) hz (by rw [hv]; exact hx)
end Go.Proofs.Ytdghlgpkcpndjaa
