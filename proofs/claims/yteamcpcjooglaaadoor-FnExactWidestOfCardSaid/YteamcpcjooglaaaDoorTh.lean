
/- SourcesOf, the program's and the specification's. No conditions but those written. -/
import Derived.Test.YteamcpcjooglaaaDoorLd
namespace Go.Proofs.YteamcpcjooglaaaDoor
open Go.RowKit

theorem filter_succ {zs : List Int} {k : Nat} (hk : k < zs.length) (p : Int → Bool) : (zs.take (k + 1)).filter p = if p (el zs k) = true then (zs.take k).filter p ++ [el zs k] else (zs.take k).filter p := by
  rw [take_succ_el hk, List.filter_append]
  by_cases h : p (el zs k) = true
  · rw [if_pos h]; simp [h]
  · rw [if_neg h]; simp [h]
theorem filter_len (zs : List Int) (k : Nat) (p : Int → Bool) : ((zs.take k).filter p).length ≤ k := Nat.le_trans (List.length_filter_le _ _) (by simp; omega)
/-- A node that leads to it. -/
def leadsTo (b : Int) (x : LNode) : Bool := hasB x.2.2.2.2.2.2.2 b
theorem ledC_zero (ts : List LNode) (j : Nat) : decide (ledC (ts.map valNode) (ts.map valNode).length j = 0) = !ts.any (leadsTo (j : Int)) := by
  rw [ledC, List.take_length]
  induction ts with
  | nil => simp
  | cons a r ih =>
    have e : ((r.map valNode).map fun a => a.2.2.2.2.2.count (j : Int)).sum = 0 ↔ r.any (leadsTo (j : Int)) = false := by
      have h := ih
      constructor
      · intro h0; rw [decide_eq_true h0] at h; simpa using h.symm
      · intro h0; rw [h0] at h; simpa using h
    simp only [List.map_cons, List.sum_cons, List.any_cons]
    by_cases h1 : (j : Int) ∈ (valNode a).2.2.2.2.2
    · have h2 : leadsTo (j : Int) a = true := by simp only [leadsTo, hasB, decide_eq_true_eq]; exact h1
      have h3 : 0 < (valNode a).2.2.2.2.2.count (j : Int) := List.count_pos_iff.2 h1
      rw [h2, decide_eq_false (by omega)]; rfl
    · have h2 : leadsTo (j : Int) a = false := by simp only [leadsTo, hasB, decide_eq_false_iff_not]; exact h1
      rw [h2, List.count_eq_zero_of_not_mem h1, Nat.zero_add, Bool.false_or]
      cases h4 : r.any (leadsTo (j : Int)) with
      | false => rw [decide_eq_true (e.2 h4)]; rfl
      | true => rw [decide_eq_false (fun h => by rw [e.1 h] at h4; cases h4)]; rfl
theorem src_eq (ts : List LNode) : (numsI ts.length).filter (fun b => !ts.any (leadsTo b)) = srcP (ts.map valNode) ts.length := by
  rw [srcP]
  refine List.filter_congr fun x hx => ?_
  obtain ⟨k, _, rfl⟩ := numsI_mem hx
  rw [Int.toNat_natCast, ledC_zero]
/-- What SourcesOf answers. -/
def srcR (gs : List PNode) : List Int × Bool := if codeG gs = 0 then (srcP gs gs.length, true) else ([], false)
theorem srcR_len (gs : List PNode) : (srcR gs).1.length ≤ 10 := by
  rw [srcR]
  split
  · next h => have := (codeG_zero h).1; have := srcP_len gs gs.length; show (srcP gs gs.length).length ≤ 10; omega
  · simp
/-- A row of ints in its own memory and a bool, as an ending. -/
def AnsIB (w : World) (q : List Int) (y : Bool) (e : Ending) (w' : World) : Prop := (∃ go qc, e = .returned (.tuple #[.slice go q.length qc, .bool y]) ∧ kI.Fresh w.heap.size w'.heap.size w' go qc q) ∧ Below w.heap.size w w'
theorem Roomy.fitN {ts : List LNode} {cap : Nat} (h : Roomy ts cap) : FitN ts := fun a ha => h.fit a ha
end Go.Proofs.YteamcpcjooglaaaDoor
