
/- What the laws' walks carry along: boxes, and boards in memory of their own. No conditions but those written. -/
import Derived.Test.YtgbnbnjfaffaiaaOMg
import Derived.Test.YtgbnbnjfaffaiaaOWe
namespace Go.Proofs.Ytgbnbnjfaffaiaa.Old
open Go.RowKit

/-- The block p holds the two values. -/
def Box (W : World) (p : Nat) (u0 u1 : Value) : Prop := p < W.heap.size ∧ W.cell? ⟨p, 0, none⟩ = some u0 ∧ W.cell? ⟨p, 1, none⟩ = some u1
theorem Box.new (w : World) (u0 u1 : Value) (t : TypeId) : Box (w.alloc (.cells #[u0, u1] t)) w.heap.size u0 u1 := ⟨by simp, by simp, by simp⟩
theorem Box.later {W W' : World} {p : Nat} {u0 u1 : Value} (h : Box W p u0 u1) (hb : Below W.heap.size W W') : Box W' p u0 u1 :=
  ⟨Nat.lt_of_lt_of_le h.1 hb.size, (hb.cell (p := ⟨p, 0, none⟩) h.1).trans h.2.1, (hb.cell (p := ⟨p, 1, none⟩) h.1).trans h.2.2⟩
theorem Box.between {W W' : World} {p lo hi : Nat} {u0 u1 : Value} (h : Box W p u0 u1) (hb : Between lo hi W W') (hp : p < lo ∨ hi ≤ p) : Box W' p u0 u1 :=
  ⟨Nat.lt_of_lt_of_le h.1 hb.size, (World.cell?_of_block (a := ⟨p, 0, none⟩) (hb.block p h.1 hp)).trans h.2.1, (World.cell?_of_block (a := ⟨p, 1, none⟩) (hb.block p h.1 hp)).trans h.2.2⟩
theorem OwnT.fresh {base : Nat} {W : World} {g : Nat} {ts : List (Int × Int)} (h : OwnT base W g ts) : FreshT base W.heap.size W (some ⟨g, 0, none⟩) ts.length ts := by
  obtain ⟨xs, ho, hp⟩ := h
  exact .inr ⟨g, xs, rfl, (owns_lt ho).2, ho, hp⟩
theorem OwnI.fresh {base : Nat} {W : World} {g : Nat} {q : List Int} (h : OwnI base W g q) : FreshI base W.heap.size W (some ⟨g, 0, none⟩) q.length q := .inr ⟨g, rfl, (owns_lt h).2, h⟩
theorem FreshT.between' {lo hi lo' hi' : Nat} {W W' : World} {to : Option Addr} {tc : Nat} {ts : List (Int × Int)} (h : FreshT lo hi W to tc ts) (hb : Between lo' hi' W W') (hd : hi ≤ lo' ∨ hi' ≤ lo) : FreshT lo hi W' to tc ts :=
  h.keep fun k h1 h2 h3 => hb.block k h3 (by omega)
theorem FreshI.between' {lo hi lo' hi' : Nat} {W W' : World} {qo : Option Addr} {qc : Nat} {q : List Int} (h : FreshI lo hi W qo qc q) (hb : Between lo' hi' W W') (hd : hi ≤ lo' ∨ hi' ≤ lo) : FreshI lo hi W' qo qc q :=
  h.keep fun k h1 h2 h3 => hb.block k h3 (by omega)
/-- The specification's board, the argument's copy and the program's board, each in its own blocks. -/
def LawF (n2 n3 n4 n5 : Nat) (W : World) (to3 : Option Addr) (tc3 : Nat) (go3 : Option Addr) (qc3 : Nat) (R1 : List (Int × Int)) (R2 : List Int) (t4 q4 : Nat) (ts : List (Int × Int)) (q : List Int) (to5 : Option Addr) (tc5 : Nat) (go5 : Option Addr) (qc5 : Nat) : Prop :=
  FreshT n2 n3 W to3 tc3 R1 ∧ FreshI n2 n3 W go3 qc3 R2 ∧ FreshT (n3 + 1) n4 W (some ⟨t4, 0, none⟩) ts.length ts ∧ FreshI (n3 + 1) n4 W (some ⟨q4, 0, none⟩) q.length q ∧ FreshT (n4 + 1) n5 W to5 tc5 R1 ∧ FreshI (n4 + 1) n5 W go5 qc5 R2
theorem LawF.later {n2 n3 n4 n5 : Nat} {W W' : World} {to3 : Option Addr} {tc3 : Nat} {go3 : Option Addr} {qc3 : Nat} {R1 : List (Int × Int)} {R2 : List Int} {t4 q4 : Nat} {ts : List (Int × Int)} {q : List Int} {to5 : Option Addr} {tc5 : Nat} {go5 : Option Addr} {qc5 : Nat}
    (h : LawF n2 n3 n4 n5 W to3 tc3 go3 qc3 R1 R2 t4 q4 ts q to5 tc5 go5 qc5) (hb : Below W.heap.size W W') : LawF n2 n3 n4 n5 W' to3 tc3 go3 qc3 R1 R2 t4 q4 ts q to5 tc5 go5 qc5 :=
  ⟨h.1.later hb, h.2.1.later hb, h.2.2.1.later hb, h.2.2.2.1.later hb, h.2.2.2.2.1.later hb, h.2.2.2.2.2.later hb⟩
theorem good_queue (ts : List (Int × Int)) (q : List Int) (h : specGoodB ts q = true) : q.length ≤ 30 := by
  have := (good_iff ts q).2 h
  have := this.2.2.1
  omega
theorem leaveR_len (st : Int) (ts : List (Int × Int)) (q : List Int) (h1 : ts.length ≤ 1048576) (h2 : q.length ≤ 1048576) : (leaveR st ts q).1.length ≤ 1048576 ∧ (leaveR st ts q).2.1.length ≤ 1048576 := by
  unfold leaveR
  split
  · rename_i hg
    have hq := good_queue ts q hg
    split
    · exact ⟨h1, h2⟩
    · dsimp only
      split
      · exact ⟨by simp; omega, by simp; omega⟩
      · exact ⟨by simp; omega, h2⟩
  · simp
end Go.Proofs.Ytgbnbnjfaffaiaa.Old
