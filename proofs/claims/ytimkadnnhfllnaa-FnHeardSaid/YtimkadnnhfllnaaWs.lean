
/- A queue of Sub: its iterator, without one place. No conditions but those written. -/
import Derived.Test.YtimkadnnhfllnaaWa
namespace Go.Proofs.Ytimkadnnhfllnaa
open Go.RowKit Go.Shelf

attribute [local go_sem] Oper.semAt_some

/-- An element's value. -/
def tvS (t : LSub) : Value := .agg #[.int .i64 t.1, .int .i64 t.2.1, .bool t.2.2.1, .int .i64 t.2.2.2.1, .slice (t.2.2.2.2).1 (t.2.2.2.2).2.2.length (t.2.2.2.2).2.1]
/-- Between two rounds: the box holds a row of its own with what is kept. -/
def DInvS (B : Nat) (ts : List (LSub)) (pl : Int) (g : Nat) (pre : List Nat) (W : World) : Prop :=
  W.cell? ⟨B + 1, 0, none⟩ = some (.int .i64 pl) ∧ (W.cell? ⟨B + 1 + 1, 0, none⟩ = some (.slice none 0 0) ∧ W.frozen? ⟨B + 1 + 1, 0, none⟩ = false) ∧ (∃ v, W.cell? ⟨B + 1 + 1 + 1, 0, none⟩ = some v ∧ hSub.Own (B + 1 + 1 + 1 + 1) W v (keepE ts pl pre)) ∧ W.frozen? ⟨B + 1 + 1 + 1, 0, none⟩ = false ∧ g < W.heap.size
theorem DInvS.kept {B : Nat} {ts : List (LSub)} {pl : Int} {g : Nat} {pre : List Nat} {W W' : World} {row : Option Nat} (h : DInvS B ts pl g pre W) (hg : W.grownBy W' row) (hr : ∀ r, row = some r → ∃ o : Obj, W.heap[r]? = some o ∧ o.isCells = false) : DInvS B ts pl g pre W' := by
  obtain ⟨h2, ⟨h3, h4⟩, ⟨v, h5, h6⟩, h7, h8⟩ := h
  exact ⟨cell_kept h2 hg hr, ⟨cell_kept h3 hg hr, (frozen_kept h3 hg hr).trans h4⟩, ⟨v, cell_kept h5 hg hr, owns_kept h6 hg hr⟩, (frozen_kept h5 hg hr).trans h7, Nat.lt_of_lt_of_le h8 hg.size⟩
/-- A round's own variables: the item lies in a block of its own. -/
def ItemS (p : Nat) (t : LSub) (W : World) : Prop := W.cell? ⟨p, 0, none⟩ = some (.int .i64 t.1) ∧ W.cell? ⟨p, 1, none⟩ = some (.int .i64 t.2.1) ∧ W.cell? ⟨p, 2, none⟩ = some (.bool t.2.2.1) ∧ W.cell? ⟨p, 3, none⟩ = some (.int .i64 t.2.2.2.1) ∧ W.cell? ⟨p, 4, none⟩ = some (.slice (t.2.2.2.2).1 (t.2.2.2.2).2.2.length (t.2.2.2.2).2.1)
theorem ItemS.kept {p : Nat} {t : LSub} {W W' : World} {row : Option Nat} (h : ItemS p t W) (hg : W.grownBy W' row) (hr : ∀ r, row = some r → ∃ o : Obj, W.heap[r]? = some o ∧ o.isCells = false) : ItemS p t W' :=
  ⟨cell_kept h.1 hg hr, cell_kept h.2.1 hg hr, cell_kept h.2.2.1 hg hr, cell_kept h.2.2.2.1 hg hr, cell_kept h.2.2.2.2 hg hr⟩
end Go.Proofs.Ytimkadnnhfllnaa
