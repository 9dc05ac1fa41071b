
/- Marks over a topic touch nothing else. No conditions but those written. -/
import Derived.Test.YtimkadnnhfllnaaTo
namespace Go.Proofs.Ytimkadnnhfllnaa
open Go.RowKit

/-- Nothing turned but the heads and the rows behind them. -/
def OnlyD (ao : Option Addr) (ts : List LSub) (w w' : World) : Prop := ∀ b, b < w.heap.size → ¬ rowOwn ao ts b → (∀ j, j < ts.length → ¬ dSub.own (el ts j) b) → w'.heap[b]? = w.heap[b]?
/-- The ints' row is none of the Subs'. -/
def Apart (us : List LSub) (go : Option Addr) (xs : List Int) : Prop := ∀ b, rowOwn go xs b → ∀ j, j < us.length → ¬ dSub.own (el us j) b
theorem Apart.mark {us : List LSub} {go : Option Addr} {xs : List Int} (h : Apart us go xs) (k : Int) : Apart (markC k us) go xs := by
  intro b hb j hj ho
  rw [markC_len] at hj
  rw [markC_at k us j hj] at ho
  refine h b hb j hj ?_
  have h2 : rowOwn (el us j).2.2.2.2.1 (markI _ (el us j).2.2.2.2.2.2.length) b := ho
  rw [rowOwn_len (markI_len _ _)] at h2
  exact h2
theorem Apart.marked {us : List LSub} {go : Option Addr} {xs : List Int} (h : Apart us go xs) (k : Int) : Apart us go (markI k xs.length) := fun b hb => h b ((rowOwn_len (markI_len _ _)).1 hb)
theorem ints_kept {lo hi lo' hi' : Nat} {W W' : World} {o go : Option Addr} {c qc : Nat} {us : List LSub} {xs : List Int} (h : kI.Fresh lo hi W go qc xs) (hD : DFr dSub lo' hi' W o c us) (hn : OnlyD o us W W') (hA : Apart us go xs) : kI.Fresh lo hi W' go qc xs :=
  h.keepB fun b hb => hn b (h.lt hb).2.2.1 (not_row h (show hSub.Fresh _ _ _ _ _ _ from hD.1) ne_HI.symm hb) (hA b hb)
theorem subs_kept {lo hi lo' hi' : Nat} {W W' : World} {o go : Option Addr} {c qc : Nat} {us : List LSub} {xs : List Int} (h : DFr dSub lo hi W o c us) (hI : kI.Fresh lo' hi' W go qc xs) (hO : OnlyAt (eff go xs.length) W W') (hA : Apart us go xs) : DFr dSub lo hi W' o c us :=
  ⟨(show hSub.Fresh _ _ _ _ _ _ from h.1).keepB fun _ hb => only_own hO (not_row (show hSub.Fresh _ _ _ _ _ _ from h.1) hI ne_HI hb), fun j hj => dSub_ok.keep (h.2.1 j hj) fun b hb => only_own hO (fun hr => hA b hr j hj hb), h.2.2⟩
end Go.Proofs.Ytimkadnnhfllnaa
