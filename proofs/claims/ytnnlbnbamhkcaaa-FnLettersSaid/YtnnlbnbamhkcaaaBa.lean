
/- Boxes: sizes, copies, comparisons, marks. No conditions but those written. -/
import Derived.Test.YtnnlbnbamhkcaaaCb
import Derived.Test.YtnnlbnbamhkcaaaBx
namespace Go.Proofs.Ytnnlbnbamhkcaaa
open Go.RowKit

theorem Kind.Fresh.setOff {α : Type} {K : Kind α} {lo hi : Nat} {W : World} {qo : Option Addr} {qc : Nat} {q : List α} (h : K.Fresh lo hi W qo qc q) {a : Addr} (ha : a.block < lo ∨ hi ≤ a.block) (u : Value) : K.Fresh lo hi (W.setCell a u) qo qc q := h.keep fun k h1 h2 _ => Below.heap_setCell W a u k (by omega)
theorem Kind.Fresh.notNew {α : Type} {K : Kind α} {lo hi : Nat} {W : World} {qo : Option Addr} {qc : Nat} {q : List α} (h : K.Fresh lo hi W qo qc q) {g : Nat} (e : eff qo q.length = some ⟨g, 0, none⟩) : W.heap.size ≠ g := by
  rcases h with rfl | ⟨g2, e2, hg, ho⟩
  · simp [eff] at e
  · unfold eff at e
    split at e
    · cases e
    · rw [e2] at e; simp at e; subst e
      have := (owns_lt ho).2; omega
/-- What lies behind a Box. -/
def InBox (n : Nat) (W : World) (bo : Option Addr) (b : List (Int)) (so : Option Addr) (s : List (Int × Int × Int)) (ro : Option Addr) (r : List (Int × Int × Int)) : Prop := kI.In n W bo b ∧ kL.In n W so s ∧ kL.In n W ro r
/-- What lies behind a Box, in memory of its own. -/
def FrBox (lo hi : Nat) (W : World) (bo : Option Addr) (bc : Nat) (b : List (Int)) (so : Option Addr) (sc : Nat) (s : List (Int × Int × Int)) (ro : Option Addr) (rc : Nat) (r : List (Int × Int × Int)) : Prop := kI.Fresh lo hi W bo bc b ∧ kL.Fresh lo hi W so sc s ∧ kL.Fresh lo hi W ro rc r ∧ Off so s.length ro r.length
theorem InBox.later {W W' : World} {bo : Option Addr} {b : List (Int)} {so : Option Addr} {s : List (Int × Int × Int)} {ro : Option Addr} {r : List (Int × Int × Int)} (h : InBox W.heap.size W bo b so s ro r) (hb : Below W.heap.size W W') : InBox W'.heap.size W' bo b so s ro r := ⟨h.1.later hb, h.2.1.later hb, h.2.2.later hb⟩
theorem InBox.below {n : Nat} {W W' : World} {bo : Option Addr} {b : List (Int)} {so : Option Addr} {s : List (Int × Int × Int)} {ro : Option Addr} {r : List (Int × Int × Int)} (h : InBox n W bo b so s ro r) (hb : Below n W W') : InBox n W' bo b so s ro r := ⟨h.1.below hb, h.2.1.below hb, h.2.2.below hb⟩
theorem FrBox.in {lo hi : Nat} {W : World} {bo : Option Addr} {bc : Nat} {b : List (Int)} {so : Option Addr} {sc : Nat} {s : List (Int × Int × Int)} {ro : Option Addr} {rc : Nat} {r : List (Int × Int × Int)} (h : FrBox lo hi W bo bc b so sc s ro rc r) : InBox W.heap.size W bo b so s ro r := ⟨h.1.in, h.2.1.in, h.2.2.1.in⟩
theorem FrBox.later {lo hi : Nat} {W W' : World} {bo : Option Addr} {bc : Nat} {b : List (Int)} {so : Option Addr} {sc : Nat} {s : List (Int × Int × Int)} {ro : Option Addr} {rc : Nat} {r : List (Int × Int × Int)} (h : FrBox lo hi W bo bc b so sc s ro rc r) (hb : Below W.heap.size W W') : FrBox lo hi W' bo bc b so sc s ro rc r := ⟨h.1.later hb, h.2.1.later hb, h.2.2.1.later hb, h.2.2.2⟩
theorem FrBox.keep {lo hi : Nat} {W W' : World} {bo : Option Addr} {bc : Nat} {b : List (Int)} {so : Option Addr} {sc : Nat} {s : List (Int × Int × Int)} {ro : Option Addr} {rc : Nat} {r : List (Int × Int × Int)} (h : FrBox lo hi W bo bc b so sc s ro rc r) (hk : ∀ k, lo ≤ k → k < hi → k < W.heap.size → W'.heap[k]? = W.heap[k]?) : FrBox lo hi W' bo bc b so sc s ro rc r := ⟨h.1.keep hk, h.2.1.keep hk, h.2.2.1.keep hk, h.2.2.2⟩
theorem FrBox.wide {lo hi lo' hi' : Nat} {W : World} {bo : Option Addr} {bc : Nat} {b : List (Int)} {so : Option Addr} {sc : Nat} {s : List (Int × Int × Int)} {ro : Option Addr} {rc : Nat} {r : List (Int × Int × Int)} (h : FrBox lo hi W bo bc b so sc s ro rc r) (h1 : lo' ≤ lo) (h2 : hi ≤ hi') : FrBox lo' hi' W bo bc b so sc s ro rc r := ⟨h.1.wide h1 h2, h.2.1.wide h1 h2, h.2.2.1.wide h1 h2, h.2.2.2⟩
theorem FrBox.low {lo hi : Nat} {W : World} {bo : Option Addr} {bc : Nat} {b : List (Int)} {so : Option Addr} {sc : Nat} {s : List (Int × Int × Int)} {ro : Option Addr} {rc : Nat} {r : List (Int × Int × Int)} (h : FrBox lo hi W bo bc b so sc s ro rc r) {hi' : Nat} (h2 : W.heap.size ≤ hi') : FrBox lo hi' W bo bc b so sc s ro rc r := ⟨h.1.low h2, h.2.1.low h2, h.2.2.1.low h2, h.2.2.2⟩
theorem FrBox.setBelow {lo hi : Nat} {W : World} {bo : Option Addr} {bc : Nat} {b : List (Int)} {so : Option Addr} {sc : Nat} {s : List (Int × Int × Int)} {ro : Option Addr} {rc : Nat} {r : List (Int × Int × Int)} (h : FrBox lo hi W bo bc b so sc s ro rc r) {a : Addr} (ha : a.block < lo) (u : Value) : FrBox lo hi (W.setCell a u) bo bc b so sc s ro rc r := ⟨h.1.setBelow ha u, h.2.1.setBelow ha u, h.2.2.1.setBelow ha u, h.2.2.2⟩
theorem FrBox.setAbove {lo hi : Nat} {W : World} {bo : Option Addr} {bc : Nat} {b : List (Int)} {so : Option Addr} {sc : Nat} {s : List (Int × Int × Int)} {ro : Option Addr} {rc : Nat} {r : List (Int × Int × Int)} (h : FrBox lo hi W bo bc b so sc s ro rc r) {a : Addr} (ha : hi ≤ a.block) (u : Value) : FrBox lo hi (W.setCell a u) bo bc b so sc s ro rc r := ⟨h.1.setAbove ha u, h.2.1.setAbove ha u, h.2.2.1.setAbove ha u, h.2.2.2⟩
theorem FrBox.setOff {lo hi : Nat} {W : World} {bo : Option Addr} {bc : Nat} {b : List (Int)} {so : Option Addr} {sc : Nat} {s : List (Int × Int × Int)} {ro : Option Addr} {rc : Nat} {r : List (Int × Int × Int)} (h : FrBox lo hi W bo bc b so sc s ro rc r) {a : Addr} (ha : a.block < lo ∨ hi ≤ a.block) (u : Value) : FrBox lo hi (W.setCell a u) bo bc b so sc s ro rc r := ⟨h.1.setOff ha u, h.2.1.setOff ha u, h.2.2.1.setOff ha u, h.2.2.2⟩
theorem FrBox.between' {lo hi lo' hi' : Nat} {W W' : World} {bo : Option Addr} {bc : Nat} {b : List (Int)} {so : Option Addr} {sc : Nat} {s : List (Int × Int × Int)} {ro : Option Addr} {rc : Nat} {r : List (Int × Int × Int)} (h : FrBox lo hi W bo bc b so sc s ro rc r) (hb : Between lo' hi' W W') (hd : hi ≤ lo' ∨ hi' ≤ lo) : FrBox lo hi W' bo bc b so sc s ro rc r := ⟨h.1.between' hb hd, h.2.1.between' hb hd, h.2.2.1.between' hb hd, h.2.2.2⟩
end Go.Proofs.Ytnnlbnbamhkcaaa
