
/- Where a number stands in the queue: the program's look, by its iterator. No conditions but those written. -/
import Derived.Test.YtgbnbnjfaffaiaaOWh
namespace Go.Proofs.Ytgbnbnjfaffaiaa.Old
open Go.RowKit Go.Shelf

attribute [local go_sem] Oper.semAt_some

/-- The first place of id in q, and whether there is one. -/
def placeV (q : List Int) (id : Int) : Value := match q.findIdx? (fun x => x == id) with | some p => .tuple #[.int .i64 (p : Int), .bool true] | none => .tuple #[.int .i64 0, .bool false]
theorem place_some (q : List Int) (id : Int) (k : Nat) (hk : k < q.length) (h : q[k]?.getD 0 = id) (hno : ∀ j, j < k → q[j]?.getD 0 ≠ id) : q.findIdx? (fun x => x == id) = some k := by
  rw [List.findIdx?_eq_some_iff_getElem]
  refine ⟨hk, by simpa [hk] using h, fun j hj => ?_⟩
  have := hno j hj
  have hj' : j < q.length := by omega
  simpa [hj'] using this
theorem place_none (q : List Int) (id : Int) (hno : ∀ j, j < q.length → q[j]?.getD 0 ≠ id) : q.findIdx? (fun x => x == id) = none := by
  rw [List.findIdx?_eq_none_iff]
  intro x hx
  obtain ⟨j, hj, rfl⟩ := List.mem_iff_getElem.1 hx
  have := hno j hj
  simpa [hj] using this

/-- Between two rounds: none that came is id. -/
def PInv (B : Nat) (id : Int) (g : Nat) (pre : List (Nat × Int)) (W : World) : Prop :=
  (∀ p, p ∈ pre → p.2 ≠ id) ∧ W.cell? ⟨B + 1, 0, none⟩ = some (.int .i64 id) ∧ (W.cell? ⟨B + 1 + 1, 0, none⟩ = some (.int .i64 0) ∧ W.frozen? ⟨B + 1 + 1, 0, none⟩ = false) ∧ (W.cell? ⟨B + 1 + 1 + 1, 0, none⟩ = some (.bool false) ∧ W.frozen? ⟨B + 1 + 1 + 1, 0, none⟩ = false) ∧ g < W.heap.size
theorem PInv.kept {B : Nat} {id : Int} {g : Nat} {pre : List (Nat × Int)} {W W' : World} {row : Option Nat} (h : PInv B id g pre W) (hg : W.grownBy W' row) (hr : ∀ r, row = some r → ∃ o : Obj, W.heap[r]? = some o ∧ o.isCells = false) : PInv B id g pre W' := by
  obtain ⟨h1, h2, ⟨h3, h4⟩, ⟨h5, h6⟩, h7⟩ := h
  exact ⟨h1, cell_kept h2 hg hr, ⟨cell_kept h3 hg hr, (frozen_kept h3 hg hr).trans h4⟩, ⟨cell_kept h5 hg hr, (frozen_kept h5 hg hr).trans h6⟩, Nat.lt_of_lt_of_le h7 hg.size⟩
/-- A round has left: the last that came is id. -/
def PHit (B : Nat) (id : Int) (pre : List (Nat × Int)) (W : World) : Prop :=
  ∃ ini last, pre = ini ++ [last] ∧ (∀ p, p ∈ ini → p.2 ≠ id) ∧ last.2 = id ∧ W.cell? ⟨B + 1 + 1, 0, none⟩ = some (.int .i64 (last.1 : Int)) ∧ W.cell? ⟨B + 1 + 1 + 1, 0, none⟩ = some (.bool true)

end Go.Proofs.Ytgbnbnjfaffaiaa.Old
