
/- Topics: sizes, copies, comparisons. No conditions but those written. -/
import Derived.Test.YtimkadnnhfllnaaTs
namespace Go.Proofs.Ytimkadnnhfllnaa
open Go.RowKit

theorem len_val {ts us : List LSub} (hv : us.map valSub = ts.map valSub) : us.length = ts.length := by have := congrArg List.length hv; simpa using this
theorem len_ps {us : List LSub} {ps : List PSub} (hv : us.map valSub = ps) : us.length = ps.length := by rw [← hv]; simp
/-- How many there are behind Subs, by what they say. -/
def totP (ps : List PSub) : Nat := (ps.map fun c => c.2.2.2.2.length).sum
theorem totSub_P (us : List LSub) : totSub us = totP (us.map valSub) := by
  unfold totSub totP; rw [List.map_map]; rfl
theorem tot_ps {us : List LSub} {ps : List PSub} (hv : us.map valSub = ps) : totSub us = totP ps := by rw [totSub_P, hv]
/-- Rows that are not too long. -/
def Fits (ts : List LSub) : Prop := ∀ a ∈ ts, (a.2.2.2.2).2.2.length ≤ 1048576
theorem fits_of {ts : List LSub} (h : totSub ts ≤ 1048576) : Fits ts := by
  intro a ha
  obtain ⟨j, hj, rfl⟩ := mem_el ha
  have := totSub_el hj
  unfold sizeSub at this
  omega
end Go.Proofs.Ytimkadnnhfllnaa
