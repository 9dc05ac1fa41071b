
/- Short rows of ints, sorted by the library. No conditions but those written. -/
import Derived.Test.YtlnjhajdbofhlaaBx
import Derived.Test.YtlnjhajdbofhlaaIa
import Derived.BigRegion
import Derived.RegionTactic
import Derived.ChangeAlike
import Derived.Deep.RegionHeld3
namespace Go.Proofs.Ytlnjhajdbofhlaa
open Go.RowKit

theorem elS_same {l : List Int} {i : Nat} {a : Int} (h : i < l.length) : el (l.set i a) i = a := by simp [el, h]
theorem elS_other {l : List Int} {i j : Nat} {a : Int} (h : j ≠ i) : el (l.set i a) j = el l j := by simp [el, Ne.symm h]
/-- The places m and m + 1 changed. -/
def swapL (ys : List Int) (m : Nat) : List Int := (ys.set (m + 1) (el ys m)).set m (el ys (m + 1))
theorem swapL_len (ys : List Int) (m : Nat) : (swapL ys m).length = ys.length := by simp [swapL]
theorem swapL_a {ys : List Int} {m : Nat} (h : m + 1 < ys.length) : el (swapL ys m) m = el ys (m + 1) := by rw [swapL, elS_same (by simp; omega)]
theorem swapL_b {ys : List Int} {m : Nat} (h : m + 1 < ys.length) : el (swapL ys m) (m + 1) = el ys m := by rw [swapL, elS_other (by omega), elS_same h]
theorem swapL_o {ys : List Int} {m q : Nat} (h1 : q ≠ m) (h2 : q ≠ m + 1) : el (swapL ys m) q = el ys q := by rw [swapL, elS_other h1, elS_other h2]
theorem swapL_perm {ys : List Int} {m : Nat} (h : m + 1 < ys.length) : (swapL ys m).Perm ys := by
  obtain ⟨A, p, q, R, hA, rfl⟩ : ∃ A p q R, A.length = m ∧ ys = A ++ p :: q :: R := by
    refine ⟨ys.take m, ys[m], ys[m + 1], ys.drop (m + 2), by simp; omega, ?_⟩
    rw [← List.drop_eq_getElem_cons h, ← List.drop_eq_getElem_cons (by omega : m < ys.length), List.take_append_drop]
  subst hA
  have e1 : el (A ++ p :: q :: R) A.length = p := by simp [el]
  have e2 : el (A ++ p :: q :: R) (A.length + 1) = q := by simp [el]
  rw [swapL, e1, e2]
  have : ((A ++ p :: q :: R).set (A.length + 1) p).set A.length q = A ++ q :: p :: R := by
    rw [List.set_append_right _ _ (by omega), List.set_append_right _ _ (by omega)]; simp
  rw [this]
  exact List.Perm.append_left A (List.Perm.swap _ _ _)
/-- Sorted up to i. -/
def SortTo (ys : List Int) (i : Nat) : Prop := ∀ a b, a < b → b < i → el ys a ≤ el ys b
/-- Sorted up to i with it, but for the place j. -/
def SortBut (ys : List Int) (i j : Nat) : Prop := (∀ a b, a < b → b ≤ i → a ≠ j → b ≠ j → el ys a ≤ el ys b) ∧ ∀ b, j < b → b ≤ i → el ys j ≤ el ys b
theorem sort_start {ys : List Int} {i : Nat} (h : SortTo ys i) : SortBut ys i i := ⟨fun a b h1 h2 _ h4 => h a b h1 (by omega), fun b h1 h2 => by omega⟩
theorem sort_stop0 {ys : List Int} {i : Nat} (h : SortBut ys i 0) : SortTo ys (i + 1) := fun a b h1 h2 => by
  by_cases e : a = 0
  · subst e; exact h.2 b h1 (by omega)
  · exact h.1 a b h1 (by omega) e (by omega)
theorem sort_stop {ys : List Int} {i m : Nat} (h : SortBut ys i (m + 1)) (hm : m + 1 ≤ i) (hle : el ys m ≤ el ys (m + 1)) : SortTo ys (i + 1) := fun a b h1 h2 => by
  by_cases eb : b = m + 1
  · subst eb
    by_cases ea : a = m
    · subst ea; exact hle
    · exact Int.le_trans (h.1 a m (by omega) (by omega) (by omega) (by omega)) hle
  · by_cases ea : a = m + 1
    · subst ea; exact h.2 b h1 (by omega)
    · exact h.1 a b h1 (by omega) ea eb
theorem sort_swap {ys : List Int} {i m : Nat} (h : SortBut ys i (m + 1)) (hm : m + 1 ≤ i) (hi : i < ys.length) (hlt : el ys (m + 1) < el ys m) : SortBut (swapL ys m) i m := by
  have hb := swapL_b (ys := ys) (m := m) (by omega)
  refine ⟨fun a b h1 h2 h3 h4 => ?_, fun b h1 h2 => ?_⟩
  · by_cases eb : b = m + 1
    · subst eb
      rw [hb, swapL_o h3 (by omega)]
      exact h.1 a m (by omega) (by omega) (by omega) (by omega)
    · rw [swapL_o h4 eb]
      by_cases ea : a = m + 1
      · subst ea; rw [hb]; exact h.1 m b (by omega) h2 (by omega) eb
      · rw [swapL_o h3 ea]; exact h.1 a b h1 h2 ea eb
  · rw [swapL_a (by omega)]
    by_cases eb : b = m + 1
    · subst eb; rw [hb]; omega
    · rw [swapL_o (by omega) eb]; exact h.2 b (by omega) h2
theorem strict_eq : ∀ (l r : List Int), l.Pairwise (· < ·) → r.Pairwise (· < ·) → (∀ x, x ∈ l ↔ x ∈ r) → l = r
  | [], [], _, _, _ => rfl
  | [], y :: r, _, _, h => by have := (h y).2 (by simp); simp at this
  | x :: l, [], _, _, h => by have := (h x).1 (by simp); simp at this
  | x :: l, y :: r, hl, hr, h => by
    rw [List.pairwise_cons] at hl hr
    have e : x = y := by
      have h1 := (h x).1 (by simp)
      have h2 := (h y).2 (by simp)
      simp only [List.mem_cons] at h1 h2
      rcases h1 with h1 | h1
      · exact h1
      · rcases h2 with h2 | h2
        · exact h2.symm
        · have a := hl.1 y h2
          have b := hr.1 x h1
          omega
    subst e
    rw [strict_eq l r hl.2 hr.2 fun z => ?_]
    have hz := h z
    simp only [List.mem_cons] at hz
    constructor
    · intro hm
      rcases hz.1 (.inr hm) with e | e
      · subst e; have := hl.1 z hm; omega
      · exact e
    · intro hm
      rcases hz.2 (.inr hm) with e | e
      · subst e; have := hr.1 z hm; omega
      · exact e
theorem sorted_strict {l : List Int} (h : SortTo l l.length) (hn : l.Nodup) : l.Pairwise (· < ·) := by
  rw [List.pairwise_iff_getElem]
  intro i j hi hj hij
  have h1 := h i j hij hj
  rw [el_at hi, el_at hj] at h1
  have h2 : l[i] ≠ l[j] := (List.pairwise_iff_getElem.1 hn) i j hi hj hij
  omega
/-- Those of 0 to 9 that are there, rising. -/
def rise (zs : List Int) : List Int := ((List.range 10).filter fun i : Nat => hasB zs (i : Int)).map fun i : Nat => (i : Int)
theorem rise_len (zs : List Int) : (rise zs).length ≤ 10 := by
  have := List.length_filter_le (fun i : Nat => hasB zs (i : Int)) (List.range 10)
  simp [rise] at this ⊢; exact this
theorem rise_strict (zs : List Int) : (rise zs).Pairwise (· < ·) := by
  rw [rise, List.pairwise_map]
  refine List.Pairwise.imp (fun h => Int.ofNat_lt.2 h) (List.Pairwise.filter _ ?_)
  exact List.pairwise_lt_range
theorem rise_eq {l zs : List Int} (hp : l.Perm zs) (hs : SortTo l l.length) (hn : zs.Nodup) (hr : ∀ x ∈ zs, 0 ≤ x ∧ x ≤ 9) : l = rise zs := by
  refine strict_eq _ _ (sorted_strict hs (hp.nodup_iff.2 hn)) (rise_strict _) fun x => ?_
  rw [hp.mem_iff, rise, List.mem_map]
  constructor
  · intro hx
    have := hr x hx
    refine ⟨x.toNat, ?_, by omega⟩
    rw [List.mem_filter, List.mem_range]
    refine ⟨by omega, ?_⟩
    have e : ((x.toNat : Nat) : Int) = x := by omega
    rw [e]; simpa [hasB] using hx
  · rintro ⟨i, hi, rfl⟩
    rw [List.mem_filter] at hi
    simpa [hasB] using hi.2
end Go.Proofs.Ytlnjhajdbofhlaa
