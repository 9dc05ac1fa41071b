
/- LeaveChan: both. No conditions but those written. -/
import Derived.Test.YtdfmmidokfcjfaaOEc
import Derived.Laws.BitsLemmas
namespace Go.Proofs.Ytdfmmidokfcjfaa.Old
open Go.RowKit

/-- A channel and a number, the channel in its own memory. -/
def AnsL (w : World) (R : Int × Bool × List Int × List T3 × List T3 × Int) (e : Ending) (w' : World) : Prop :=
  (∃ bo bc so sc ro rc, e = .returned (.tuple #[.agg #[.int .i64 R.1, .bool R.2.1, .slice bo R.2.2.1.length bc, .slice so R.2.2.2.1.length sc, .slice ro R.2.2.2.2.1.length rc], .int .i64 R.2.2.2.2.2]) ∧ FreshCh w.heap.size w'.heap.size w' bo bc R.2.2.1 so sc R.2.2.2.1 ro rc R.2.2.2.2.1) ∧ Below w.heap.size w w'
theorem ansL_of {w W : World} {kap : Int} {cl : Bool} {bo : Option Addr} {bc : Nat} {b : List Int} {so : Option Addr} {sc : Nat} {s : List T3} {ro : Option Addr} {rc : Nat} {r : List T3} {c : Int} (hB : Below w.heap.size w W) (hF : FreshCh (w.heap.size + 1 + 1) W.heap.size W bo bc b so sc s ro rc r) (u0 u1 u2 u3 u4 : Value) :
    AnsL w (kap, cl, b, s, r, c) (.returned (.tuple #[.agg #[.int .i64 kap, .bool cl, .slice bo b.length bc, .slice so s.length sc, .slice ro r.length rc], .int .i64 c])) (((((W.setCell ⟨w.heap.size + 1, 0, none⟩ u0).setCell ⟨w.heap.size + 1, 1, none⟩ u1).setCell ⟨w.heap.size + 1, 2, none⟩ u2).setCell ⟨w.heap.size + 1, 3, none⟩ u3).setCell ⟨w.heap.size + 1, 4, none⟩ u4) := by
  refine ⟨⟨bo, bc, so, sc, ro, rc, rfl, ?_⟩, ?_⟩
  · exact (((((hF.setBelow (a := ⟨w.heap.size + 1, 0, none⟩) (by simp) _).setBelow (a := ⟨w.heap.size + 1, 1, none⟩) (by simp) _).setBelow (a := ⟨w.heap.size + 1, 2, none⟩) (by simp) _).setBelow (a := ⟨w.heap.size + 1, 3, none⟩) (by simp) _).setBelow (a := ⟨w.heap.size + 1, 4, none⟩) (by simp) _).wide (by omega) (by simp)
  · exact (((((hB.setCell (p := ⟨w.heap.size + 1, 0, none⟩) (by simp) _).setCell (p := ⟨w.heap.size + 1, 1, none⟩) (by simp) _).setCell (p := ⟨w.heap.size + 1, 2, none⟩) (by simp) _).setCell (p := ⟨w.heap.size + 1, 3, none⟩) (by simp) _).setCell (p := ⟨w.heap.size + 1, 4, none⟩) (by simp) _)
theorem addr_ne {p q i j : Nat} (h : p ≠ q) : (⟨p, i, none⟩ : Addr) ≠ ⟨q, j, none⟩ := fun e => h (by cases e; rfl)
theorem wrapS (n : Int) (h0 : 0 ≤ n) (h1 : n < 9223372036854775808) : IntKind.i64.wrap n = n := by rw [IntKind.wrap_i64]; omega
theorem freshCh_nil (lo hi : Nat) (W : World) : FreshCh lo hi W none 0 [] none 0 [] none 0 [] := ⟨.inl ⟨rfl, rfl⟩, .inl ⟨rfl, rfl⟩, .inl ⟨rfl, rfl⟩, .inl ⟨rfl, rfl⟩⟩

/-- LeaveChan. -/
def leaveR (kap : Int) (cl : Bool) (b : List Int) (s r : List T3) (task : Int) : Int × Bool × List Int × List T3 × List T3 × Int :=
  if (goodC kap cl b s r && (decide (0 ≤ task) && decide (task ≤ 29))) = true then (kap, cl, b, outT s task, outT r task, (s.length : Int) + (r.length : Int) - ((outT s task).length : Int) - ((outT r task).length : Int)) else (0, false, [], [], [], -1)
theorem leaveR_len (kap : Int) (cl : Bool) (b : List Int) (s r : List T3) (task : Int) (hl : b.length ≤ 1048576) (hls : s.length ≤ 1048576) (hlr : r.length ≤ 1048576) : (leaveR kap cl b s r task).2.2.1.length ≤ 1048576 ∧ (leaveR kap cl b s r task).2.2.2.1.length ≤ 1048576 ∧ (leaveR kap cl b s r task).2.2.2.2.1.length ≤ 1048576 := by
  have h1 := outT_len s task
  have h2 := outT_len r task
  unfold leaveR
  split
  · exact ⟨hl, by dsimp only; omega, by dsimp only; omega⟩
  · simp
end Go.Proofs.Ytdfmmidokfcjfaa.Old
