
/- CloseBox: the program and the specification. No conditions but those written. -/
import Derived.Test.YtnnlbnbamhkcaaaDc
import Derived.Deep.Cut
namespace Go.Proofs.Ytnnlbnbamhkcaaa
open Go.RowKit

/-- A box and a number, the box in its own memory, as an ending. -/
def AnsN (w : World) (R : Int × Bool × List Int × List (Int × Int × Int) × List (Int × Int × Int) × Int) (e : Ending) (w' : World) : Prop :=
  (∃ bo bc so sc ro rc, e = .returned (.tuple #[.agg #[.int .i64 R.1, .bool R.2.1, .slice bo R.2.2.1.length bc, .slice so R.2.2.2.1.length sc, .slice ro R.2.2.2.2.1.length rc], .int .i64 R.2.2.2.2.2]) ∧ FrBox w.heap.size w'.heap.size w' bo bc R.2.2.1 so sc R.2.2.2.1 ro rc R.2.2.2.2.1) ∧ Below w.heap.size w w'
theorem frBox_nil (lo hi : Nat) (W : World) : FrBox lo hi W none 0 [] none 0 [] none 0 [] := ⟨.inl rfl, .inl rfl, .inl rfl, .inl rfl⟩
/-- CloseBox's answer. -/
def closeR (kap : Int) (cl : Bool) (b : List Int) (s r : List (Int × Int × Int)) : Int × Bool × List Int × List (Int × Int × Int) × List (Int × Int × Int) × Int := if goodX kap b s r = true then (if cl = true then (kap, cl, b, s, r, 2) else (kap, true, b, s, r, 0)) else (0, false, [], [], [], 1)
theorem closeR_bad {kap : Int} {cl : Bool} {b : List Int} {s r : List (Int × Int × Int)} (h : goodX kap b s r = false) : closeR kap cl b s r = (0, false, [], [], [], 1) := by rw [closeR, if_neg]; rw [h]; simp
theorem closeR_len {kap : Int} {cl : Bool} {b : List Int} {s r : List (Int × Int × Int)} (h1 : b.length ≤ 1048576) (h2 : s.length ≤ 1048576) (h3 : r.length ≤ 1048576) : (closeR kap cl b s r).2.2.1.length ≤ 1048576 ∧ (closeR kap cl b s r).2.2.2.1.length ≤ 1048576 ∧ (closeR kap cl b s r).2.2.2.2.1.length ≤ 1048576 := by
  unfold closeR
  split
  · split <;> exact ⟨h1, h2, h3⟩
  · simp
end Go.Proofs.Ytnnlbnbamhkcaaa
