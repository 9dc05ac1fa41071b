
/- Pick, the program's, where one is picked. No conditions but those written. -/
import Derived.Test.YtgbnbnjfaffaiaaOQd
import Derived.Stop.RegionWithIn
namespace Go.Proofs.Ytgbnbnjfaffaiaa.Old
open Go.RowKit Go.Shelf

attribute [local go_sem] Oper.semAt_some

theorem FreshT.kept {lo hi : Nat} {W W' : World} {to : Option Addr} {tc : Nat} {ts : List (Int × Int)} {row : Option Nat} (h : FreshT lo hi W to tc ts) (hg : W.grownBy W' row) (hr : ∀ r, row = some r → ∃ o : Obj, W.heap[r]? = some o ∧ o.isCells = false) : FreshT lo hi W' to tc ts := by
  rcases h with h | ⟨g, xs, e, hl, ho, hp⟩
  · exact .inl h
  · exact .inr ⟨g, xs, e, hl, owns_kept ho hg hr, hp⟩

/-- Between two rounds of Pick's loop. -/
structure QLoop (B N M lo hi lo5 hi5 g n : Nat) (v1 : Value) (go5 : Option Addr) (qc5 : Nat) (Q : List Int) (g5 : Nat) (T : List (Int × Int)) (W : World) : Prop where
  tasks : FreshT lo hi W (some ⟨g, 0, none⟩) n T
  len : T.length = n
  pos : Pos T
  ints : FreshI lo5 hi5 W go5 qc5 Q
  n0 : W.cell? ⟨N, 0, none⟩ = some (.slice (some ⟨g, 0, none⟩) n n)
  n1 : W.cell? ⟨N, 1, none⟩ = some v1
  n2 : W.frozen? ⟨N, 1, none⟩ = false
  m0 : W.cell? ⟨M, 0, none⟩ = some (.slice go5 Q.length qc5)
  r0 : W.cell? ⟨B + 1, 0, none⟩ = some (.slice none 0 0)
  r1 : W.cell? ⟨B + 1, 1, none⟩ = some (.slice none 0 0)
  r2 : W.frozen? ⟨B + 1, 0, none⟩ = false
  r3 : W.frozen? ⟨B + 1, 1, none⟩ = false
  big : M < W.heap.size
  g5 : g5 < W.heap.size
theorem QLoop.kept {B N M lo hi lo5 hi5 g n : Nat} {v1 : Value} {go5 : Option Addr} {qc5 : Nat} {Q : List Int} {g5 : Nat} {T : List (Int × Int)} {W W' : World} {row : Option Nat} (h : QLoop B N M lo hi lo5 hi5 g n v1 go5 qc5 Q g5 T W) (hg : W.grownBy W' row) (hr : ∀ r, row = some r → ∃ o : Obj, W.heap[r]? = some o ∧ o.isCells = false) : QLoop B N M lo hi lo5 hi5 g n v1 go5 qc5 Q g5 T W' :=
  ⟨h.tasks.kept hg hr, h.len, h.pos, h.ints.kept hg hr, cell_kept h.n0 hg hr, cell_kept h.n1 hg hr, (frozen_kept h.n1 hg hr).trans h.n2, cell_kept h.m0 hg hr, cell_kept h.r0 hg hr, cell_kept h.r1 hg hr, (frozen_kept h.r0 hg hr).trans h.r2, (frozen_kept h.r1 hg hr).trans h.r3, Nat.lt_of_lt_of_le h.big hg.size, Nat.lt_of_lt_of_le h.g5 hg.size⟩
theorem QLoop.later {B N M lo hi lo5 hi5 g n : Nat} {v1 : Value} {go5 : Option Addr} {qc5 : Nat} {Q : List Int} {g5 : Nat} {T : List (Int × Int)} {W W' : World} (h : QLoop B N M lo hi lo5 hi5 g n v1 go5 qc5 Q g5 T W) (hb : Below W.heap.size W W') (hN : N < W.heap.size) (hB : B + 1 < W.heap.size) : QLoop B N M lo hi lo5 hi5 g n v1 go5 qc5 Q g5 T W' :=
  ⟨h.tasks.later hb, h.len, h.pos, h.ints.later hb, (hb.cell (p := ⟨N, 0, none⟩) hN).trans h.n0, (hb.cell (p := ⟨N, 1, none⟩) hN).trans h.n1, (hb.frozen (p := ⟨N, 1, none⟩) hN).trans h.n2, (hb.cell (p := ⟨M, 0, none⟩) h.big).trans h.m0, (hb.cell (p := ⟨B + 1, 0, none⟩) hB).trans h.r0, (hb.cell (p := ⟨B + 1, 1, none⟩) hB).trans h.r1, (hb.frozen (p := ⟨B + 1, 0, none⟩) hB).trans h.r2, (hb.frozen (p := ⟨B + 1, 1, none⟩) hB).trans h.r3, Nat.lt_of_lt_of_le h.big hb.size, Nat.lt_of_lt_of_le h.g5 hb.size⟩
theorem QLoop.put {B N M lo hi lo5 hi5 g n : Nat} {v1 : Value} {go5 : Option Addr} {qc5 : Nat} {Q : List Int} {g5 : Nat} {T : List (Int × Int)} {W : World} (h : QLoop B N M lo hi lo5 hi5 g n v1 go5 qc5 Q g5 T W) (h1 : B + 1 < lo) (hg : lo ≤ g) (hh : g < hi) (h2 : hi ≤ N) (h3 : hi ≤ lo5) (h4 : hi ≤ M) (id : Nat) (hid : id < n) (s p : Int) (hp : 0 ≤ p) :
    QLoop B N M lo hi lo5 hi5 g n v1 go5 qc5 Q g5 (T.set id (s, p)) ((W.setCell ⟨g, id * 2, none⟩ (.int .i64 s)).setCell ⟨g, id * 2 + 1, none⟩ (.int .i64 p)) := by
  have hl := h.len
  obtain ⟨g', e, _, _, _, _, _, hput⟩ := h.tasks.at (by omega)
  cases e
  refine ⟨hput id s p (by omega), by simpa using hl, h.pos.set _ _ hp, (h.ints.setBelow (a := ⟨g, id * 2, none⟩) (by simp; omega) _).setBelow (a := ⟨g, id * 2 + 1, none⟩) (by simp; omega) _, ?_, ?_, ?_, ?_, ?_, ?_, ?_, ?_, by simpa using h.big, by simpa using h.g5⟩
  · rw [World.cell?_setCell_other _ _ _ _ (by simp <;> omega), World.cell?_setCell_other _ _ _ _ (by simp <;> omega)]; exact h.n0
  · rw [World.cell?_setCell_other _ _ _ _ (by simp <;> omega), World.cell?_setCell_other _ _ _ _ (by simp <;> omega)]; exact h.n1
  · rw [World.frozen?_setCell, World.frozen?_setCell]; exact h.n2
  · rw [World.cell?_setCell_other _ _ _ _ (by simp <;> omega), World.cell?_setCell_other _ _ _ _ (by simp <;> omega)]; exact h.m0
  · rw [World.cell?_setCell_other _ _ _ _ (by simp <;> omega), World.cell?_setCell_other _ _ _ _ (by simp <;> omega)]; exact h.r0
  · rw [World.cell?_setCell_other _ _ _ _ (by simp <;> omega), World.cell?_setCell_other _ _ _ _ (by simp <;> omega)]; exact h.r1
  · rw [World.frozen?_setCell, World.frozen?_setCell]; exact h.r2
  · rw [World.frozen?_setCell, World.frozen?_setCell]; exact h.r3
theorem FreshI.rowAt {lo hi : Nat} {W : World} {go : Option Addr} {qc : Nat} {Q : List Int} (h : FreshI lo hi W go qc Q) (hlo : lo ≤ W.heap.size) : ∃ g5, lo ≤ g5 ∧ g5 ≤ W.heap.size ∧ (Q = [] ∨ ∃ off, go = some ⟨g5, off, none⟩ ∧ g5 < W.heap.size ∧ ∀ j, j < Q.length → W.cell? ⟨g5, off + j, none⟩ = some (.int .i64 (Q[j]?.getD 0))) := by
  have hin := h.ints
  rcases h with h | ⟨g5, rfl, hl5, ho5⟩
  · exact ⟨W.heap.size, hlo, Nat.le_refl _, .inl h⟩
  · rcases hin with h | ⟨b', off', e', hb', hc'⟩
    · exact ⟨W.heap.size, hlo, Nat.le_refl _, .inl h⟩
    · cases e'
      exact ⟨g5, (owns_lt ho5).1, Nat.le_of_lt hb', .inr ⟨_, rfl, hb', hc'⟩⟩

end Go.Proofs.Ytgbnbnjfaffaiaa.Old
