
/- Which cases are ready: plain facts. No conditions but those written. -/
import Derived.Test.YtlnjhajdbofhlaaKt
import Derived.Test.YtlnjhajdbofhlaaKy
import Derived.Test.YtlnjhajdbofhlaaKd
namespace Go.Proofs.Ytlnjhajdbofhlaa
open Go.RowKit

/-- A channel is ready for a side. -/
def readyP (c : PChan) (snd : Bool) : Bool := if snd then maySB c.1 c.2.1 c.2.2.1 c.2.2.2.2 else mayRB c.2.1 c.2.2.1 c.2.2.2.1
/-- A case is ready. -/
def readyQ (ps : List PChan) (x : Int × Bool × Int) : Bool := decide (0 ≤ x.1) && readyP (el ps x.1.toNat) x.2.1
/-- The numbers of those that are ready among the first k. -/
def readyT (ps : List PChan) (l : List (Int × Bool × Int)) (k : Nat) : List Int := ((List.range k).filter fun i => readyQ ps (el l i)).map fun i : Nat => (i : Int)
theorem readyT_in {ps : List PChan} {l : List (Int × Bool × Int)} {k : Nat} (h : readyQ ps (el l k) = true) : readyT ps l (k + 1) = readyT ps l k ++ [(k : Int)] := by
  rw [readyT, List.range_succ, List.filter_append, List.map_append]; simp [readyT, h]
theorem readyT_out {ps : List PChan} {l : List (Int × Bool × Int)} {k : Nat} (h : readyQ ps (el l k) = false) : readyT ps l (k + 1) = readyT ps l k := by
  rw [readyT, List.range_succ, List.filter_append, List.map_append]; simp [readyT, h]
theorem readyT_len (ps : List PChan) (l : List (Int × Bool × Int)) (k : Nat) : (readyT ps l k).length ≤ k := by
  have := List.length_filter_le (fun i => readyQ ps (el l i)) (List.range k)
  simp [readyT] at this ⊢; exact this
theorem goodQB_all {ps : List PChan} {l : List (Int × Bool × Int)} (h : goodQB ps l = true) : (ps.length ≤ 8 ∧ ∀ c ∈ ps, goodP c = true) ∧ l.length ≤ 6 ∧ ∀ k, k < l.length → -1 ≤ (el l k).1 ∧ (el l k).1 < (ps.length : Int) := by
  simp only [goodQB, Bool.and_eq_true, decide_eq_true_eq, List.all_eq_true] at h
  obtain ⟨h1, h2, h3⟩ := h
  obtain ⟨g1, g2, _⟩ := goodHB_all h1
  refine ⟨⟨g1, g2⟩, h2, fun k hk => ?_⟩
  have := (h3 k (List.mem_range.2 hk)).1
  simp only [goodK, Bool.and_eq_true, decide_eq_true_eq] at this
  exact this.1
theorem el_map_val {ts : List LChan} {k : Nat} (h : k < ts.length) : el (ts.map valChan) k = valChan (el ts k) := by simp [el, h]
/-- What ReadyCases answers. -/
def readyR (ps : List PChan) (l : List (Int × Bool × Int)) : List Int × Bool := if goodQB ps l = true then (readyT ps l l.length, true) else ([], false)
theorem readyR_bad {ps : List PChan} {l : List (Int × Bool × Int)} (h : goodQB ps l = false) : readyR ps l = ([], false) := by rw [readyR, if_neg]; rw [h]; simp
theorem readyR_ok {ps : List PChan} {l : List (Int × Bool × Int)} (h : goodQB ps l = true) : readyR ps l = (readyT ps l l.length, true) := by rw [readyR, if_pos h]
theorem readyR_len {ps : List PChan} {l : List (Int × Bool × Int)} (hl : l.length ≤ 1048576) : (readyR ps l).1.length ≤ 1048576 := by
  unfold readyR
  split
  · exact Nat.le_trans (readyT_len _ _ _) hl
  · simp
/-- A row of ints and a bool, in memory of their own. -/
def AnsQ (w : World) (R : List Int × Bool) (e : Ending) (w' : World) : Prop :=
  (∃ o c, e = .returned (.tuple #[.slice o R.1.length c, .bool R.2]) ∧ kI.Fresh w.heap.size w'.heap.size w' o c R.1) ∧ Below w.heap.size w w'
end Go.Proofs.Ytlnjhajdbofhlaa
