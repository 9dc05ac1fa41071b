
/- RoomOf, the program's and the specification's. No conditions but those written. -/
import Derived.Test.YteamcpcjooglaaaDoorCk
namespace Go.Proofs.YteamcpcjooglaaaDoor
open Go.RowKit

theorem codeG_zero {gs : List PNode} (h : codeG gs = 0) : ¬ (gs.length < 1 ∨ 10 < gs.length) ∧ (∀ j, j < 5 → brk gs j = false) ∧ ¬ (orderP gs).length < gs.length := by
  have hm : ¬ (gs.length < 1 ∨ 10 < gs.length) := fun e => by rw [codeG_many e] at h; cases h
  have hall : ∀ i, i ≤ 5 → ∀ j, j < i → brk gs j = false := fun i => by
    induction i with
    | zero => intro _ j hj; omega
    | succ i ih =>
      intro hi j hj
      have hprev := ih (by omega)
      rcases Nat.lt_succ_iff_lt_or_eq.1 hj with h1 | rfl
      · exact hprev j h1
      · cases hb : brk gs j with
        | false => rfl
        | true => rw [codeG_rule hm (by omega) hb hprev] at h; omega
  refine ⟨hm, hall 5 (Nat.le_refl _), fun ho => ?_⟩
  rw [codeG_rest hm (hall 5 (Nat.le_refl _)), if_pos ho] at h
  cases h
/-- All rooms together, up to a node. -/
def capSum (gs : List PNode) (k : Nat) : Int := ((gs.take k).map fun a => a.2.2.2.2.1).sum
theorem capSum_succ {gs : List PNode} {k : Nat} (hk : k < gs.length) : capSum gs (k + 1) = capSum gs k + (el gs k).2.2.2.2.1 := by
  rw [capSum, take_succ_el hk]; simp [capSum]
/-- What RoomOf answers. -/
def roomR (gs : List PNode) : Int × Bool := if codeG gs = 0 then (capSum gs gs.length, true) else (0, false)
end Go.Proofs.YteamcpcjooglaaaDoor
