
/- A channel in memory of its own; the laws' copies of channels. No conditions but those written. -/
import Derived.Test.YtdfmmidokfcjfaaOBc
namespace Go.Proofs.Ytdfmmidokfcjfaa.Old
open Go.RowKit

/-- The block p holds the five values, and may be written. -/
def BoxF5 (W : World) (p : Nat) (u0 u1 u2 u3 u4 : Value) : Prop := Box5 W p u0 u1 u2 u3 u4 ∧ W.frozen? ⟨p, 0, none⟩ = false ∧ W.frozen? ⟨p, 1, none⟩ = false ∧ W.frozen? ⟨p, 2, none⟩ = false ∧ W.frozen? ⟨p, 3, none⟩ = false ∧ W.frozen? ⟨p, 4, none⟩ = false
theorem BoxF5.new (w : World) (u0 u1 u2 u3 u4 : Value) (t : TypeId) : BoxF5 (w.alloc (.cells #[u0, u1, u2, u3, u4] t)) w.heap.size u0 u1 u2 u3 u4 := ⟨Box5.new _ _ _ _ _ _ _, by simp [go_sem], by simp [go_sem], by simp [go_sem], by simp [go_sem], by simp [go_sem]⟩
theorem BoxF5.later {W W' : World} {p : Nat} {u0 u1 u2 u3 u4 : Value} (h : BoxF5 W p u0 u1 u2 u3 u4) (hb : Below W.heap.size W W') : BoxF5 W' p u0 u1 u2 u3 u4 :=
  ⟨h.1.later hb, (hb.frozen (p := ⟨p, 0, none⟩) h.1.1).trans h.2.1, (hb.frozen (p := ⟨p, 1, none⟩) h.1.1).trans h.2.2.1, (hb.frozen (p := ⟨p, 2, none⟩) h.1.1).trans h.2.2.2.1, (hb.frozen (p := ⟨p, 3, none⟩) h.1.1).trans h.2.2.2.2.1, (hb.frozen (p := ⟨p, 4, none⟩) h.1.1).trans h.2.2.2.2.2⟩
theorem BoxF5.below {n : Nat} {W W' : World} {p : Nat} {u0 u1 u2 u3 u4 : Value} (h : BoxF5 W p u0 u1 u2 u3 u4) (hb : Below n W W') (hp : p < n) : BoxF5 W' p u0 u1 u2 u3 u4 :=
  ⟨⟨Nat.lt_of_lt_of_le h.1.1 hb.size, (hb.cell (p := ⟨p, 0, none⟩) hp).trans h.1.2.1, (hb.cell (p := ⟨p, 1, none⟩) hp).trans h.1.2.2.1, (hb.cell (p := ⟨p, 2, none⟩) hp).trans h.1.2.2.2.1, (hb.cell (p := ⟨p, 3, none⟩) hp).trans h.1.2.2.2.2.1, (hb.cell (p := ⟨p, 4, none⟩) hp).trans h.1.2.2.2.2.2⟩, (hb.frozen (p := ⟨p, 0, none⟩) hp).trans h.2.1, (hb.frozen (p := ⟨p, 1, none⟩) hp).trans h.2.2.1, (hb.frozen (p := ⟨p, 2, none⟩) hp).trans h.2.2.2.1, (hb.frozen (p := ⟨p, 3, none⟩) hp).trans h.2.2.2.2.1, (hb.frozen (p := ⟨p, 4, none⟩) hp).trans h.2.2.2.2.2⟩
/-- The block b lies as it lay. -/
def SameAt (b : Nat) (W W' : World) : Prop := W'.heap[b]? = W.heap[b]?
theorem SameAt.cell {b : Nat} {W W' : World} (h : SameAt b W W') (o : Nat) : W'.cell? ⟨b, o, none⟩ = W.cell? ⟨b, o, none⟩ := World.cell?_of_block (w := W) (a := ⟨b, o, none⟩) h
theorem SameAt.frozen {b : Nat} {W W' : World} (h : SameAt b W W') (o : Nat) : W'.frozen? ⟨b, o, none⟩ = W.frozen? ⟨b, o, none⟩ := World.frozen?_of_block (w := W) (a := ⟨b, o, none⟩) h
theorem BoxF5.other {W : World} {p : Nat} {u0 u1 u2 u3 u4 : Value} (h : BoxF5 W p u0 u1 u2 u3 u4) (a : Addr) (ha : a.block ≠ p) (u : Value) : BoxF5 (W.setCell a u) p u0 u1 u2 u3 u4 := by
  have hs : SameAt p W (W.setCell a u) := Below.heap_setCell W a u p (Ne.symm ha)
  exact ⟨⟨by simpa [World.setCell] using h.1.1, hs.cell _ |>.trans h.1.2.1, hs.cell _ |>.trans h.1.2.2.1, hs.cell _ |>.trans h.1.2.2.2.1, hs.cell _ |>.trans h.1.2.2.2.2.1, hs.cell _ |>.trans h.1.2.2.2.2.2⟩, hs.frozen _ |>.trans h.2.1, hs.frozen _ |>.trans h.2.2.1, hs.frozen _ |>.trans h.2.2.2.1, hs.frozen _ |>.trans h.2.2.2.2.1, hs.frozen _ |>.trans h.2.2.2.2.2⟩
theorem BoxF5.set0 {W : World} {p : Nat} {u0 u1 u2 u3 u4 : Value} (h : BoxF5 W p u0 u1 u2 u3 u4) (v : Value) : BoxF5 (W.setCell ⟨p, 0, none⟩ v) p v u1 u2 u3 u4 :=
  ⟨⟨by simpa [World.setCell] using h.1.1, World.cell?_setCell_same' _ _ _ (by rw [h.1.2.1]; rfl), (World.cell?_setCell_other _ _ _ _ (by simp)).trans h.1.2.2.1, (World.cell?_setCell_other _ _ _ _ (by simp)).trans h.1.2.2.2.1, (World.cell?_setCell_other _ _ _ _ (by simp)).trans h.1.2.2.2.2.1, (World.cell?_setCell_other _ _ _ _ (by simp)).trans h.1.2.2.2.2.2⟩, (by rw [World.frozen?_setCell]; exact h.2.1), (by rw [World.frozen?_setCell]; exact h.2.2.1), (by rw [World.frozen?_setCell]; exact h.2.2.2.1), (by rw [World.frozen?_setCell]; exact h.2.2.2.2.1), (by rw [World.frozen?_setCell]; exact h.2.2.2.2.2)⟩
theorem BoxF5.set1 {W : World} {p : Nat} {u0 u1 u2 u3 u4 : Value} (h : BoxF5 W p u0 u1 u2 u3 u4) (v : Value) : BoxF5 (W.setCell ⟨p, 1, none⟩ v) p u0 v u2 u3 u4 :=
  ⟨⟨by simpa [World.setCell] using h.1.1, (World.cell?_setCell_other _ _ _ _ (by simp)).trans h.1.2.1, World.cell?_setCell_same' _ _ _ (by rw [h.1.2.2.1]; rfl), (World.cell?_setCell_other _ _ _ _ (by simp)).trans h.1.2.2.2.1, (World.cell?_setCell_other _ _ _ _ (by simp)).trans h.1.2.2.2.2.1, (World.cell?_setCell_other _ _ _ _ (by simp)).trans h.1.2.2.2.2.2⟩, (by rw [World.frozen?_setCell]; exact h.2.1), (by rw [World.frozen?_setCell]; exact h.2.2.1), (by rw [World.frozen?_setCell]; exact h.2.2.2.1), (by rw [World.frozen?_setCell]; exact h.2.2.2.2.1), (by rw [World.frozen?_setCell]; exact h.2.2.2.2.2)⟩
theorem BoxF5.set2 {W : World} {p : Nat} {u0 u1 u2 u3 u4 : Value} (h : BoxF5 W p u0 u1 u2 u3 u4) (v : Value) : BoxF5 (W.setCell ⟨p, 2, none⟩ v) p u0 u1 v u3 u4 :=
  ⟨⟨by simpa [World.setCell] using h.1.1, (World.cell?_setCell_other _ _ _ _ (by simp)).trans h.1.2.1, (World.cell?_setCell_other _ _ _ _ (by simp)).trans h.1.2.2.1, World.cell?_setCell_same' _ _ _ (by rw [h.1.2.2.2.1]; rfl), (World.cell?_setCell_other _ _ _ _ (by simp)).trans h.1.2.2.2.2.1, (World.cell?_setCell_other _ _ _ _ (by simp)).trans h.1.2.2.2.2.2⟩, (by rw [World.frozen?_setCell]; exact h.2.1), (by rw [World.frozen?_setCell]; exact h.2.2.1), (by rw [World.frozen?_setCell]; exact h.2.2.2.1), (by rw [World.frozen?_setCell]; exact h.2.2.2.2.1), (by rw [World.frozen?_setCell]; exact h.2.2.2.2.2)⟩
theorem BoxF5.set3 {W : World} {p : Nat} {u0 u1 u2 u3 u4 : Value} (h : BoxF5 W p u0 u1 u2 u3 u4) (v : Value) : BoxF5 (W.setCell ⟨p, 3, none⟩ v) p u0 u1 u2 v u4 :=
  ⟨⟨by simpa [World.setCell] using h.1.1, (World.cell?_setCell_other _ _ _ _ (by simp)).trans h.1.2.1, (World.cell?_setCell_other _ _ _ _ (by simp)).trans h.1.2.2.1, (World.cell?_setCell_other _ _ _ _ (by simp)).trans h.1.2.2.2.1, World.cell?_setCell_same' _ _ _ (by rw [h.1.2.2.2.2.1]; rfl), (World.cell?_setCell_other _ _ _ _ (by simp)).trans h.1.2.2.2.2.2⟩, (by rw [World.frozen?_setCell]; exact h.2.1), (by rw [World.frozen?_setCell]; exact h.2.2.1), (by rw [World.frozen?_setCell]; exact h.2.2.2.1), (by rw [World.frozen?_setCell]; exact h.2.2.2.2.1), (by rw [World.frozen?_setCell]; exact h.2.2.2.2.2)⟩
theorem BoxF5.set4 {W : World} {p : Nat} {u0 u1 u2 u3 u4 : Value} (h : BoxF5 W p u0 u1 u2 u3 u4) (v : Value) : BoxF5 (W.setCell ⟨p, 4, none⟩ v) p u0 u1 u2 u3 v :=
  ⟨⟨by simpa [World.setCell] using h.1.1, (World.cell?_setCell_other _ _ _ _ (by simp)).trans h.1.2.1, (World.cell?_setCell_other _ _ _ _ (by simp)).trans h.1.2.2.1, (World.cell?_setCell_other _ _ _ _ (by simp)).trans h.1.2.2.2.1, (World.cell?_setCell_other _ _ _ _ (by simp)).trans h.1.2.2.2.2.1, World.cell?_setCell_same' _ _ _ (by rw [h.1.2.2.2.2.2]; rfl)⟩, (by rw [World.frozen?_setCell]; exact h.2.1), (by rw [World.frozen?_setCell]; exact h.2.2.1), (by rw [World.frozen?_setCell]; exact h.2.2.2.1), (by rw [World.frozen?_setCell]; exact h.2.2.2.2.1), (by rw [World.frozen?_setCell]; exact h.2.2.2.2.2)⟩

/-- Two rows of waiters do not share a block. -/
def Apart (so : Option Addr) (sc : Nat) (s : List T3) (ro : Option Addr) (rc : Nat) (r : List T3) : Prop := (s = [] ∧ sc = 0) ∨ (r = [] ∧ rc = 0) ∨ so ≠ ro
theorem apart_of {lo mid mid' hi : Nat} {W W' : World} {so ro : Option Addr} {sc rc : Nat} {s r : List T3} (hs : FreshC lo mid W so sc s) (hr : FreshC mid' hi W' ro rc r) (hm : mid ≤ mid') : Apart so sc s ro rc r := by
  rcases hs with h | ⟨g, xs, e, hg, ho, _⟩
  · exact .inl h
  · rcases hr with h | ⟨g', xs', e', hg', ho', _⟩
    · exact .inr (.inl h)
    · refine .inr (.inr ?_)
      have := (owns_lt ho').1
      rw [e, e']; intro h; cases h; omega
theorem Apart.symm {so ro : Option Addr} {sc rc : Nat} {s r : List T3} (h : Apart so sc s ro rc r) : Apart ro rc r so sc s := by
  rcases h with h | h | h
  · exact .inr (.inl h)
  · exact .inl h
  · exact .inr (.inr (Ne.symm h))
/-- What a channel holds, in memory of its own. -/
def FreshCh (lo hi : Nat) (W : World) (bo : Option Addr) (bc : Nat) (b : List Int) (so : Option Addr) (sc : Nat) (s : List T3) (ro : Option Addr) (rc : Nat) (r : List T3) : Prop :=
  FreshI lo hi W bo bc b ∧ FreshC lo hi W so sc s ∧ FreshC lo hi W ro rc r ∧ Apart so sc s ro rc r
/-- What a channel holds. -/
def ChanIn (n : Nat) (W : World) (bo : Option Addr) (b : List Int) (so : Option Addr) (s : List T3) (ro : Option Addr) (r : List T3) : Prop := IntsIn n W bo b ∧ TimersIn n W so s ∧ TimersIn n W ro r
theorem ChanIn.later {W W' : World} {bo : Option Addr} {b : List Int} {so : Option Addr} {s : List T3} {ro : Option Addr} {r : List T3} (h : ChanIn W.heap.size W bo b so s ro r) (hb : Below W.heap.size W W') : ChanIn W'.heap.size W' bo b so s ro r := ⟨h.1.later hb, h.2.1.later hb, h.2.2.later hb⟩
theorem ChanIn.below {n : Nat} {W W' : World} {bo : Option Addr} {b : List Int} {so : Option Addr} {s : List T3} {ro : Option Addr} {r : List T3} (h : ChanIn n W bo b so s ro r) (hb : Below n W W') : ChanIn n W' bo b so s ro r := ⟨h.1.below hb, h.2.1.below hb, h.2.2.below hb⟩
theorem FreshCh.chan {lo hi : Nat} {W : World} {bo : Option Addr} {bc : Nat} {b : List Int} {so : Option Addr} {sc : Nat} {s : List T3} {ro : Option Addr} {rc : Nat} {r : List T3} (h : FreshCh lo hi W bo bc b so sc s ro rc r) : ChanIn W.heap.size W bo b so s ro r := ⟨h.1.ints, h.2.1.timers, h.2.2.1.timers⟩
theorem FreshCh.later {lo hi : Nat} {W W' : World} {bo : Option Addr} {bc : Nat} {b : List Int} {so : Option Addr} {sc : Nat} {s : List T3} {ro : Option Addr} {rc : Nat} {r : List T3} (h : FreshCh lo hi W bo bc b so sc s ro rc r) (hb : Below W.heap.size W W') : FreshCh lo hi W' bo bc b so sc s ro rc r := ⟨h.1.later hb, h.2.1.later hb, h.2.2.1.later hb, h.2.2.2⟩
theorem FreshCh.wide {lo hi lo' hi' : Nat} {W : World} {bo : Option Addr} {bc : Nat} {b : List Int} {so : Option Addr} {sc : Nat} {s : List T3} {ro : Option Addr} {rc : Nat} {r : List T3} (h : FreshCh lo hi W bo bc b so sc s ro rc r) (h1 : lo' ≤ lo) (h2 : hi ≤ hi') : FreshCh lo' hi' W bo bc b so sc s ro rc r := ⟨h.1.wide h1 h2, h.2.1.wide h1 h2, h.2.2.1.wide h1 h2, h.2.2.2⟩
theorem FreshCh.setBelow {lo hi : Nat} {W : World} {bo : Option Addr} {bc : Nat} {b : List Int} {so : Option Addr} {sc : Nat} {s : List T3} {ro : Option Addr} {rc : Nat} {r : List T3} (h : FreshCh lo hi W bo bc b so sc s ro rc r) {a : Addr} (ha : a.block < lo) (u : Value) : FreshCh lo hi (W.setCell a u) bo bc b so sc s ro rc r := ⟨h.1.setBelow ha u, h.2.1.setBelow ha u, h.2.2.1.setBelow ha u, h.2.2.2⟩
theorem FreshCh.between' {lo hi lo' hi' : Nat} {W W' : World} {bo : Option Addr} {bc : Nat} {b : List Int} {so : Option Addr} {sc : Nat} {s : List T3} {ro : Option Addr} {rc : Nat} {r : List T3} (h : FreshCh lo hi W bo bc b so sc s ro rc r) (hb : Between lo' hi' W W') (hd : hi ≤ lo' ∨ hi' ≤ lo) : FreshCh lo hi W' bo bc b so sc s ro rc r := ⟨h.1.between' hb hd, h.2.1.between' hb hd, h.2.2.1.between' hb hd, h.2.2.2⟩

end Go.Proofs.Ytdfmmidokfcjfaa.Old
