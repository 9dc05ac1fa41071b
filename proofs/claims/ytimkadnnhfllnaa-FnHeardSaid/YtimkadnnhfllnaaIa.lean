
/- Rows of ints: the small functions over them. No conditions but those written. -/
import Derived.Test.YtimkadnnhfllnaaGen
namespace Go.Proofs.Ytimkadnnhfllnaa
open Go.RowKit

set_option maxHeartbeats 400000 in
theorem l1In_is (n lo hi : Int) (w : World) (b : Bool) (hb : (decide (lo ≤ n) && decide (n ≤ hi)) = b) :
    Calls Try.prog 36 #[.int .i64 n, .int .i64 lo, .int .i64 hi] w fun e w' => e = .returned (.bool b) ∧ w' = w := by
  subst hb
  by_cases h : lo ≤ n
  · go_enter Try.func36, Try.ntmps36
    go_wp2
    go_ret
    exact ⟨by simp [*], rfl⟩
  · have h' : decide (lo ≤ n) = false := by simpa using h
    go_enter Try.func36, Try.ntmps36
    go_wp2
    go_ret
    exact ⟨by simp [*], rfl⟩

/-- A number is a task. -/
def taskB (n : Int) : Bool := decide (0 ≤ n) && decide (n ≤ 29)
/-- It is in the list. -/
def hasB (zs : List Int) (n : Int) : Bool := decide (n ∈ zs)
theorem hasB_yes {zs : List Int} {n : Int} {k : Nat} (hk : k < zs.length) (h : el zs k = n) : hasB zs n = true := by
  simp only [hasB, decide_eq_true_eq]; rw [← h]; exact el_mem hk
theorem hasB_no {zs : List Int} {n : Int} (h : ∀ j, j < zs.length → el zs j ≠ n) : hasB zs n = false := by
  simp only [hasB, decide_eq_false_iff_not]; intro hm
  obtain ⟨j, hj, e⟩ := mem_el hm
  exact h j hj e
/-- The first place of a number, -1 where it is not there. -/
def idxI (zs : List Int) (n : Int) : Int := if n ∈ zs then (zs.idxOf n : Int) else -1
theorem idxOf_first : ∀ (zs : List Int) (n : Int) (k : Nat), k < zs.length → el zs k = n → (∀ j, j < k → el zs j ≠ n) → zs.idxOf n = k
  | [], n, k, h, _, _ => by simp at h
  | z :: r, n, 0, _, h, _ => by rw [el_zero] at h; subst h; simp
  | z :: r, n, k + 1, hk, h, hno => by
    have h0 := hno 0 (by omega)
    rw [el_zero] at h0
    rw [el_cons] at h
    rw [List.idxOf_cons, idxOf_first r n k (by simpa using hk) h (fun j hj => by have := hno (j + 1) (by omega); rwa [el_cons] at this)]
    have : (z == n) = false := by simpa using h0
    simp [this]
theorem idxI_yes {zs : List Int} {n : Int} {k : Nat} (hk : k < zs.length) (h : el zs k = n) (hno : ∀ j, j < k → el zs j ≠ n) : idxI zs n = k := by
  have : n ∈ zs := by rw [← h]; exact el_mem hk
  rw [idxI, if_pos this, idxOf_first zs n k hk h hno]
theorem idxI_no {zs : List Int} {n : Int} (h : ∀ j, j < zs.length → el zs j ≠ n) : idxI zs n = -1 := by
  rw [idxI, if_neg]; intro hm
  obtain ⟨j, hj, e⟩ := mem_el hm
  exact h j hj e
theorem idxI_has (zs : List Int) (n : Int) : decide (0 ≤ idxI zs n) = hasB zs n := by
  unfold idxI hasB
  by_cases h : n ∈ zs
  · rw [if_pos h]; simp [h]
  · rw [if_neg h]; simp [h]
/-- The marks of a row of ints. -/
def markI (k : Int) (n : Nat) : List Int := (List.range n).map (fun i : Nat => k + (i : Int))
theorem markI_len (k : Int) (n : Nat) : (markI k n).length = n := by simp [markI]
theorem markI_at (k : Int) (n j : Nat) (h : j < n) : el (markI k n) j = k + (j : Int) := by simp [markI, el, h]
end Go.Proofs.Ytimkadnnhfllnaa
