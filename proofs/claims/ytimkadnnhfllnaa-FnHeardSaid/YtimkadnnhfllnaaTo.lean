
/- Marks over a topic are held. No conditions but those written. -/
import Derived.Test.YtimkadnnhfllnaaTm
namespace Go.Proofs.Ytimkadnnhfllnaa
open Go.RowKit

theorem markC_at : ∀ (k : Int) (ts : List LSub) (i : Nat), i < ts.length → el (markC k ts) i = mkC (endC k (ts.take i)) (el ts i)
  | _, [], i, h => by simp at h
  | k, a :: r, 0, _ => by rw [markC, el_zero, el_zero]; rfl
  | k, a :: r, i + 1, h => by
    rw [markC, el_cons, el_cons, markC_at (nxC k a) r i (by simpa using h)]
    rfl
/-- A topic's Subs in memory of their own, wherever they begin. -/
def FrH (lo hi : Nat) (W : World) (o : Option Addr) (n : Nat) (us : List LSub) : Prop := DFr dSub lo hi W o n us
theorem FrH.of {lo hi : Nat} {W : World} {o : Option Addr} {n : Nat} {us : List LSub} (h : DFr dSub lo hi W o n us) : FrH lo hi W o n us := h
theorem FrH.later {lo hi : Nat} {W W' : World} {o : Option Addr} {n : Nat} {us : List LSub} (h : FrH lo hi W o n us) (hb : Below W.heap.size W W') : FrH lo hi W' o n us := DFr.later dSub_ok h hb
theorem FrH.in {lo hi : Nat} {W : World} {o : Option Addr} {n : Nat} {us : List LSub} (h : FrH lo hi W o n us) : DIn dSub W.heap.size W o us := DFr.in dSub_ok h
theorem FrH.between' {lo hi lo' hi' : Nat} {W W' : World} {o : Option Addr} {n : Nat} {us : List LSub} (h : FrH lo hi W o n us) (hb : Between lo' hi' W W') (hd : hi ≤ lo' ∨ hi' ≤ lo) : FrH lo hi W' o n us := DFr.between' dSub_ok h hb hd
end Go.Proofs.Ytimkadnnhfllnaa
