
/- Answers of the specification's sending and receiving. No conditions but those written. -/
import Derived.Test.YtdfmmidokfcjfaaOJb
namespace Go.Proofs.Ytdfmmidokfcjfaa.Old
open Go.RowKit

theorem cell_under (W : World) (o : Obj) {a : Addr} (h : a.block < W.heap.size) : (W.alloc o).cell? a = W.cell? a := (below1 W o).cell h
theorem Box3.drew {W : World} {p : Nat} {u0 u1 u2 : Value} (h : Box3 W p u0 u1 u2) : Box3 W.drew p u0 u1 u2 := h
theorem ansV_q {lo : Nat} {w W : World} {q : Nat} {kap : Int} {cl : Bool} {bo : Option Addr} {bc : Nat} {b : List Int} {so : Option Addr} {sc : Nat} {s : List T3} {ro : Option Addr} {rc : Nat} {r : List T3} {ko : Option Addr} {kc : Nat} {k : List T4} {c : Int} (hB : Below lo w W) (hq : lo ≤ q) (hF : FreshCh (q + 1) W.heap.size W bo bc b so sc s ro rc r) (hK : FreshK (q + 1) W.heap.size W ko kc k) (hw : Wf3 bo bc so sc ro rc) (u0 u1 u2 u3 u4 : Value) :
    AnsV lo w (kap, cl, b, s, r, k, c) (.returned (.tuple #[.agg #[.int .i64 kap, .bool cl, .slice bo b.length bc, .slice so s.length sc, .slice ro r.length rc], .slice ko k.length kc, .int .i64 c])) (((((W.setCell ⟨q, 0, none⟩ u0).setCell ⟨q, 1, none⟩ u1).setCell ⟨q, 2, none⟩ u2).setCell ⟨q, 3, none⟩ u3).setCell ⟨q, 4, none⟩ u4) := by
  refine ⟨⟨bo, bc, so, sc, ro, rc, ko, kc, rfl, ?_, ?_, hw⟩, ?_⟩
  · exact (((((hF.setBelow (a := ⟨q, 0, none⟩) (by simp) _).setBelow (a := ⟨q, 1, none⟩) (by simp) _).setBelow (a := ⟨q, 2, none⟩) (by simp) _).setBelow (a := ⟨q, 3, none⟩) (by simp) _).setBelow (a := ⟨q, 4, none⟩) (by simp) _).wide (by omega) (by simp)
  · exact (((((hK.setBelow (a := ⟨q, 0, none⟩) (by simp) _).setBelow (a := ⟨q, 1, none⟩) (by simp) _).setBelow (a := ⟨q, 2, none⟩) (by simp) _).setBelow (a := ⟨q, 3, none⟩) (by simp) _).setBelow (a := ⟨q, 4, none⟩) (by simp) _).wide (by omega) (by simp)
  · exact (((((hB.setCell (p := ⟨q, 0, none⟩) hq _).setCell (p := ⟨q, 1, none⟩) hq _).setCell (p := ⟨q, 2, none⟩) hq _).setCell (p := ⟨q, 3, none⟩) hq _).setCell (p := ⟨q, 4, none⟩) hq _)

theorem ansV_woke {lo : Nat} {w W : World} {q : Nat} {kap : Int} {cl : Bool} {bo : Option Addr} {bc : Nat} {b : List Int} {so : Option Addr} {sc : Nat} {s : List T3} {ro : Option Addr} {rc : Nat} {r : List T3} {c : Int} (hB : Below lo w W) (hlo : lo ≤ W.heap.size) (hq : lo ≤ q) (hF : FreshCh (q + 1) W.heap.size W bo bc b so sc s ro rc r) (hw : Wf3 bo bc so sc ro rc) (z1 z2 z3 : Int) (z4 : Bool) (u0 u1 u2 u3 u4 : Value) :
    AnsV lo w (kap, cl, b, s, r, [(z1, z2, z3, z4)], c) (.returned (.tuple #[.agg #[.int .i64 kap, .bool cl, .slice bo b.length bc, .slice so s.length sc, .slice ro r.length rc], .slice (some ⟨W.heap.size, 0, none⟩) 1 1, .int .i64 c])) ((((((W.setCell ⟨q, 0, none⟩ u0).setCell ⟨q, 1, none⟩ u1).setCell ⟨q, 2, none⟩ u2).setCell ⟨q, 3, none⟩ u3).setCell ⟨q, 4, none⟩ u4).alloc (.cells #[.int .i64 z1, .int .i64 z2, .int .i64 z3, .bool z4] 35)) := by
  have hs : (((((W.setCell ⟨q, 0, none⟩ u0).setCell ⟨q, 1, none⟩ u1).setCell ⟨q, 2, none⟩ u2).setCell ⟨q, 3, none⟩ u3).setCell ⟨q, 4, none⟩ u4).heap.size = W.heap.size := by simp [World.setCell]
  have hK := freshK_new (((((W.setCell ⟨q, 0, none⟩ u0).setCell ⟨q, 1, none⟩ u1).setCell ⟨q, 2, none⟩ u2).setCell ⟨q, 3, none⟩ u3).setCell ⟨q, 4, none⟩ u4) (lo := lo) (by rw [hs]; exact hlo) (z1, z2, z3, z4)
  refine ⟨⟨bo, bc, so, sc, ro, rc, some ⟨W.heap.size, 0, none⟩, 1, rfl, ?_, ?_, hw⟩, ?_⟩
  · exact ((((((hF.setBelow (a := ⟨q, 0, none⟩) (by simp) _).setBelow (a := ⟨q, 1, none⟩) (by simp) _).setBelow (a := ⟨q, 2, none⟩) (by simp) _).setBelow (a := ⟨q, 3, none⟩) (by simp) _).setBelow (a := ⟨q, 4, none⟩) (by simp) _).later (below1 _ _)).wide (by omega) (by simp)
  · rw [hs] at hK
    exact hK.wide (Nat.le_refl _) (by simp)
  · exact ((((((hB.setCell (p := ⟨q, 0, none⟩) hq _).setCell (p := ⟨q, 1, none⟩) hq _).setCell (p := ⟨q, 2, none⟩) hq _).setCell (p := ⟨q, 3, none⟩) hq _).setCell (p := ⟨q, 4, none⟩) hq _)).alloc (by rw [hs]; exact hlo) _

/-- As AnsV, each part by its name. -/
def AnsW (lo : Nat) (w : World) (Rk : Int) (Rcl : Bool) (Rb : List Int) (Rs Rr : List T3) (Rw : List T4) (Rc : Int) (e : Ending) (w' : World) : Prop :=
  (∃ bo bc so sc ro rc ko kc, e = .returned (.tuple #[.agg #[.int .i64 Rk, .bool Rcl, .slice bo Rb.length bc, .slice so Rs.length sc, .slice ro Rr.length rc], .slice ko Rw.length kc, .int .i64 Rc]) ∧ FreshCh lo w'.heap.size w' bo bc Rb so sc Rs ro rc Rr ∧ FreshK lo w'.heap.size w' ko kc Rw ∧ Wf3 bo bc so sc ro rc) ∧ Below lo w w'
theorem AnsV.ansW {lo : Nat} {w : World} {Rk : Int} {Rcl : Bool} {Rb : List Int} {Rs Rr : List T3} {Rw : List T4} {Rc : Int} {e : Ending} {w' : World} (h : AnsV lo w (Rk, Rcl, Rb, Rs, Rr, Rw, Rc) e w') : AnsW lo w Rk Rcl Rb Rs Rr Rw Rc e w' := h
/-- Sending on a good channel. -/
def sendI (kap : Int) (cl : Bool) (b : List Int) (s r : List T3) (t : T3) : Int × Bool × List Int × List T3 × List T3 × List T4 × Int :=
  if cl = true then (kap, cl, b, s, r, [], 3)
  else if r.length ≠ 0 then (kap, cl, b, s, r.drop 1, [((t3 r 0).1, (t3 r 0).2.1, t.2.2, true)], 0)
  else if (b.length : Int) < kap then (kap, cl, b ++ [t.2.2], s, r, [], 0)
  else (kap, cl, b, (moreW s t).1, r, [], (moreW s t).2)
theorem sendR_good {kap : Int} {cl : Bool} {b : List Int} {s r : List T3} {t : T3} (h : (goodC kap cl b s r && wtB t) = true) : sendR kap cl b s r t = sendI kap cl b s r t := by rw [sendR, if_pos h]; rfl
theorem sendR_bad {kap : Int} {cl : Bool} {b : List Int} {s r : List T3} {t : T3} (h : (goodC kap cl b s r && wtB t) = false) : sendR kap cl b s r t = (0, false, [], [], [], [], 2) := by rw [sendR, if_neg (by rw [h]; simp)]
end Go.Proofs.Ytdfmmidokfcjfaa.Old
