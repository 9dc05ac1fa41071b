
/- The queue of timers without one place: the program's, by its iterator. No conditions but those written. -/
import Derived.Test.YtpbgkkemaioidaaODd
namespace Go.Proofs.Ytpbgkkemaioidaa.Old
open Go.RowKit Go.Shelf

attribute [local go_sem] Oper.semAt_some

theorem owns_kept {w w' : World} {base : Nat} {e : TypeId} {size : Nat} {v : Value} {n : Nat} {xs : List Value} {row : Option Nat} (h : w.ownsRow base e size v n xs) (hg : w.grownBy w' row) (hr : ∀ r, row = some r → ∃ o : Obj, w.heap[r]? = some o ∧ o.isCells = false) : w'.ownsRow base e size v n xs := by
  obtain ⟨h1, h2⟩ := h
  refine ⟨h1, ?_⟩
  rcases h2 with h2 | ⟨g, cap, cur, hv, hb, hh, r⟩
  · exact Or.inl h2
  · refine Or.inr ⟨g, cap, cur, hv, hb, ?_, r⟩
    rw [hg.block g (Array.getElem?_eq_some_iff.1 hh).1 (fun e => ?_)]
    · exact hh
    · obtain ⟨o, ho, hc⟩ := hr g e.symm
      rw [hh] at ho; cases ho; cases hc
theorem FreshC.kept {lo hi : Nat} {W W' : World} {to : Option Addr} {tc : Nat} {ts : List T3} {row : Option Nat} (h : FreshC lo hi W to tc ts) (hg : W.grownBy W' row) (hr : ∀ r, row = some r → ∃ o : Obj, W.heap[r]? = some o ∧ o.isCells = false) : FreshC lo hi W' to tc ts := by
  rcases h with h | ⟨g, xs, e, hl, ho, hp⟩
  · exact .inl h
  · exact .inr ⟨g, xs, e, hl, owns_kept ho hg hr, hp⟩
theorem own_cells {lo : Nat} {W : World} {v : Value} {n : Nat} {xs : List Value} (h : W.ownsRow lo 49 3 v n xs) : ∀ (j : Nat) (o : Obj), v.ownBlock = some j → W.heap[j]? = some o → o.isCells = true := by
  rcases h.2 with ⟨e, _⟩ | ⟨g, cap, cur, e, hb, hh, _⟩
  · subst e
    exact fun j o h => by simp [Value.ownBlock] at h
  · subst e
    refine fun j o h ho => ?_
    simp [Value.ownBlock] at h
    subst h
    rw [hh] at ho; cases ho; rfl

/-- Between two rounds: the box holds a row of its own with what is kept. -/
def DInv (B : Nat) (ts : List T3) (pl : Int) (g : Nat) (pre : List Nat) (W : World) : Prop :=
  W.cell? ⟨B + 1, 0, none⟩ = some (.int .i64 pl) ∧ (W.cell? ⟨B + 1 + 1, 0, none⟩ = some (.slice none 0 0) ∧ W.frozen? ⟨B + 1 + 1, 0, none⟩ = false) ∧ (∃ v, W.cell? ⟨B + 1 + 1 + 1, 0, none⟩ = some v ∧ OwnV (B + 1 + 1 + 1 + 1) W v (keepN ts pl pre)) ∧ W.frozen? ⟨B + 1 + 1 + 1, 0, none⟩ = false ∧ g < W.heap.size
theorem DInv.kept {B : Nat} {ts : List T3} {pl : Int} {g : Nat} {pre : List Nat} {W W' : World} {row : Option Nat} (h : DInv B ts pl g pre W) (hg : W.grownBy W' row) (hr : ∀ r, row = some r → ∃ o : Obj, W.heap[r]? = some o ∧ o.isCells = false) : DInv B ts pl g pre W' := by
  obtain ⟨h2, ⟨h3, h4⟩, ⟨v, h5, h6⟩, h7, h8⟩ := h
  exact ⟨cell_kept h2 hg hr, ⟨cell_kept h3 hg hr, (frozen_kept h3 hg hr).trans h4⟩, ⟨v, cell_kept h5 hg hr, owns_kept h6 hg hr⟩, (frozen_kept h5 hg hr).trans h7, Nat.lt_of_lt_of_le h8 hg.size⟩
/-- A round's own variables: the item lies in a block of its own. -/
def Item (p : Nat) (t : T3) (W : World) : Prop := W.cell? ⟨p, 0, none⟩ = some (.int .i64 t.1) ∧ W.cell? ⟨p, 1, none⟩ = some (.int .i64 t.2.1) ∧ W.cell? ⟨p, 2, none⟩ = some (.int .i64 t.2.2)
theorem Item.kept {p : Nat} {t : T3} {W W' : World} {row : Option Nat} (h : Item p t W) (hg : W.grownBy W' row) (hr : ∀ r, row = some r → ∃ o : Obj, W.heap[r]? = some o ∧ o.isCells = false) : Item p t W' :=
  ⟨cell_kept h.1 hg hr, cell_kept h.2.1 hg hr, cell_kept h.2.2 hg hr⟩

end Go.Proofs.Ytpbgkkemaioidaa.Old
