
/- What the laws' walks carry along: boxes, and clocks in memory of their own. No conditions but those written. -/
import Derived.Test.YtpbgkkemaioidaaODg
import Derived.Test.YtpbgkkemaioidaaOCe
namespace Go.Proofs.Ytpbgkkemaioidaa.Old
open Go.RowKit
theorem Box3.between {W W' : World} {p lo hi : Nat} {u0 u1 u2 : Value} (h : Box3 W p u0 u1 u2) (hb : Between lo hi W W') (hp : p < lo ∨ hi ≤ p) : Box3 W' p u0 u1 u2 :=
  ⟨Nat.lt_of_lt_of_le h.1 hb.size, (World.cell?_of_block (a := ⟨p, 0, none⟩) (hb.block p h.1 hp)).trans h.2.1, (World.cell?_of_block (a := ⟨p, 1, none⟩) (hb.block p h.1 hp)).trans h.2.2.1, (World.cell?_of_block (a := ⟨p, 2, none⟩) (hb.block p h.1 hp)).trans h.2.2.2⟩
/-- The specification's clock, the argument's copy and the program's clock, each in its own blocks. -/
def LawF (n2 n3 n4 n5 : Nat) (W : World) (to3 : Option Addr) (tc3 : Nat) (R1 : List T3) (t4 : Nat) (ts : List T3) (to5 : Option Addr) (tc5 : Nat) : Prop :=
  FreshC n2 n3 W to3 tc3 R1 ∧ FreshC (n3 + 1) n4 W (some ⟨t4, 0, none⟩) ts.length ts ∧ FreshC (n4 + 1) n5 W to5 tc5 R1
theorem LawF.later {n2 n3 n4 n5 : Nat} {W W' : World} {to3 : Option Addr} {tc3 : Nat} {R1 : List T3} {t4 : Nat} {ts : List T3} {to5 : Option Addr} {tc5 : Nat}
    (h : LawF n2 n3 n4 n5 W to3 tc3 R1 t4 ts to5 tc5) (hb : Below W.heap.size W W') : LawF n2 n3 n4 n5 W' to3 tc3 R1 t4 ts to5 tc5 :=
  ⟨h.1.later hb, h.2.1.later hb, h.2.2.later hb⟩
end Go.Proofs.Ytpbgkkemaioidaa.Old
