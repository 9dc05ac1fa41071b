
/- What stays when a box of five is written; answers by their parts. No conditions but those written. -/
import Derived.Test.YtdfmmidokfcjfaaOJd
import Derived.Deep.DeepCutAuto
namespace Go.Proofs.Ytdfmmidokfcjfaa.Old
open Go.RowKit

abbrev sets5 (W : World) (p : Nat) (u0 u1 u2 u3 u4 : Value) : World := ((((W.setCell ⟨p, 0, none⟩ u0).setCell ⟨p, 1, none⟩ u1).setCell ⟨p, 2, none⟩ u2).setCell ⟨p, 3, none⟩ u3).setCell ⟨p, 4, none⟩ u4
theorem only5 (W : World) (p : Nat) (u0 u1 u2 u3 u4 : Value) : OnlyAt (some ⟨p, 0, none⟩) W (sets5 W p u0 u1 u2 u3 u4) :=
  ((((OnlyAt.set p 0 _ _).trans (OnlyAt.set p 1 _ _)).trans (OnlyAt.set p 2 _ _)).trans (OnlyAt.set p 3 _ _)).trans (OnlyAt.set p 4 _ _)
theorem Box5.sets {W : World} {p q : Nat} {v0 v1 v2 v3 v4 : Value} (h : Box5 W q v0 v1 v2 v3 v4) (hq : q ≠ p) (u0 u1 u2 u3 u4 : Value) : Box5 (sets5 W p u0 u1 u2 u3 u4) q v0 v1 v2 v3 v4 := h.only (only5 W p u0 u1 u2 u3 u4) (fun g e => by cases e; exact hq)
theorem Box3.sets {W : World} {p q : Nat} {v0 v1 v2 : Value} (h : Box3 W q v0 v1 v2) (hq : q ≠ p) (u0 u1 u2 u3 u4 : Value) : Box3 (sets5 W p u0 u1 u2 u3 u4) q v0 v1 v2 := h.only (only5 W p u0 u1 u2 u3 u4) hq
theorem BoxF5.sets {W : World} {p : Nat} {v0 v1 v2 v3 v4 : Value} (h : BoxF5 W p v0 v1 v2 v3 v4) (u0 u1 u2 u3 u4 : Value) : Box5 (sets5 W p u0 u1 u2 u3 u4) p u0 u1 u2 u3 u4 := (((((h.set0 u0).set1 u1).set2 u2).set3 u3).set4 u4).1
theorem FreshCh.sets {lo hi p : Nat} {W : World} {bo : Option Addr} {bc : Nat} {b : List Int} {so : Option Addr} {sc : Nat} {s : List T3} {ro : Option Addr} {rc : Nat} {r : List T3} (h : FreshCh lo hi W bo bc b so sc s ro rc r) (hp : p < lo ∨ hi ≤ p) (u0 u1 u2 u3 u4 : Value) : FreshCh lo hi (sets5 W p u0 u1 u2 u3 u4) bo bc b so sc s ro rc r :=
  have hb := only5 W p u0 u1 u2 u3 u4
  ⟨h.1.keep fun k h1 h2 _ => hb.block k fun g e => by cases e; omega, h.2.1.keep fun k h1 h2 _ => hb.block k fun g e => by cases e; omega, h.2.2.1.keep fun k h1 h2 _ => hb.block k fun g e => by cases e; omega, h.2.2.2⟩
theorem FreshK.sets {lo hi p : Nat} {W : World} {ko : Option Addr} {kc : Nat} {k : List T4} (h : FreshK lo hi W ko kc k) (hp : p < lo ∨ hi ≤ p) (u0 u1 u2 u3 u4 : Value) : FreshK lo hi (sets5 W p u0 u1 u2 u3 u4) ko kc k :=
  have hb := only5 W p u0 u1 u2 u3 u4
  h.keep fun k h1 h2 _ => hb.block k fun g e => by cases e; omega
theorem Below.sets {n p : Nat} {w W : World} (h : Below n w W) (hp : n ≤ p) (u0 u1 u2 u3 u4 : Value) : Below n w (sets5 W p u0 u1 u2 u3 u4) := h.trans ((only5 W p u0 u1 u2 u3 u4).below hp)
theorem sets5_size (W : World) (p : Nat) (u0 u1 u2 u3 u4 : Value) : (sets5 W p u0 u1 u2 u3 u4).heap.size = W.heap.size := (only5 W p u0 u1 u2 u3 u4).size
theorem Box3.between {W W' : World} {p lo hi : Nat} {u0 u1 u2 : Value} (h : Box3 W p u0 u1 u2) (hb : Between lo hi W W') (hp : p < lo ∨ hi ≤ p) : Box3 W' p u0 u1 u2 :=
  have hs : SameAt p W W' := hb.block p h.1 hp
  ⟨Nat.lt_of_lt_of_le h.1 hb.size, (hs.cell _).trans h.2.1, (hs.cell _).trans h.2.2.1, (hs.cell _).trans h.2.2.2⟩
theorem AnsU.ansW {w : World} {R : Int × Bool × List Int × List T3 × List T3 × List T4 × Int} {Rk : Int} {Rcl : Bool} {Rb : List Int} {Rs Rr : List T3} {Rw : List T4} {Rc : Int} {e : Ending} {w' : World} (h : AnsU w R e w') (hR : R = (Rk, Rcl, Rb, Rs, Rr, Rw, Rc)) : AnsW w.heap.size w Rk Rcl Rb Rs Rr Rw Rc e w' := by
  subst hR; exact h
/-- As AnsT, each part by its name. -/
def AnsX (w : World) (Rk : Int) (Rcl : Bool) (Rb : List Int) (Rs Rr : List T3) (Rw : List T4) (Rc : Int) (e : Ending) (w' : World) : Prop :=
  (∃ bo bc so sc ro rc ko kc, e = .returned (.tuple #[.agg #[.int .i64 Rk, .bool Rcl, .slice bo Rb.length bc, .slice so Rs.length sc, .slice ro Rr.length rc], .slice ko Rw.length kc, .int .i64 Rc]) ∧ FreshCh w.heap.size w'.heap.size w' bo bc Rb so sc Rs ro rc Rr ∧ FreshK w.heap.size w'.heap.size w' ko kc Rw) ∧ Below w.heap.size w w'
theorem AnsT.ansX {w : World} {R : Int × Bool × List Int × List T3 × List T3 × List T4 × Int} {Rk : Int} {Rcl : Bool} {Rb : List Int} {Rs Rr : List T3} {Rw : List T4} {Rc : Int} {e : Ending} {w' : World} (h : AnsT w R e w') (hR : R = (Rk, Rcl, Rb, Rs, Rr, Rw, Rc)) : AnsX w Rk Rcl Rb Rs Rr Rw Rc e w' := by
  subst hR; exact h
end Go.Proofs.Ytdfmmidokfcjfaa.Old
