
/- Emits in order: plain facts. No conditions but those written. -/
import Derived.Test.YtiaahgpkeboobaaEm
import Derived.Test.YtiaahgpkeboobaaQt
namespace Go.Proofs.Ytiaahgpkeboobaa
open Go.RowKit

/-- The first stands ahead of the second: by node, then by value. -/
def ltE (a b : Int × Int) : Bool := decide (a.1 < b.1) || (a.1 == b.1 && decide (a.2 < b.2))
theorem ltE_no {a b : Int × Int} : ltE a b = false ↔ (b.1 < a.1 ∨ (a.1 = b.1 ∧ b.2 ≤ a.2)) := by
  simp [ltE]; omega
theorem ltE_yes {a b : Int × Int} : ltE a b = true ↔ (a.1 < b.1 ∨ (a.1 = b.1 ∧ a.2 < b.2)) := by
  simp [ltE]
theorem ltE_le {a b : Int × Int} (h : ltE a b = true) : ltE b a = false := by rw [ltE_no]; rw [ltE_yes] at h; omega
theorem ltE_trans {a b c : Int × Int} (h1 : ltE b a = false) (h2 : ltE c b = false) : ltE c a = false := by rw [ltE_no] at *; omega
theorem ltE_eq {a b : Int × Int} (h1 : ltE b a = false) (h2 : ltE a b = false) : a = b := by
  rw [ltE_no] at h1 h2; exact Prod.ext (by omega) (by omega)
/-- Emits sorted. -/
def sortE (l : List (Int × Int)) : List (Int × Int) := l.mergeSort fun x y => !ltE y x
theorem sortE_len (l : List (Int × Int)) : (sortE l).length = l.length := by simp [sortE]
theorem sortE_pair (l : List (Int × Int)) : (sortE l).Pairwise fun a b => ltE b a = false := by
  refine (List.pairwise_mergeSort (le := fun x y => !ltE y x) (fun a b c h1 h2 => ?_) (fun a b => ?_) l).imp fun h => by simpa using h
  · simp at h1 h2 ⊢; exact ltE_trans h1 h2
  · rcases h : ltE b a with _ | _
    · rfl
    · simp [ltE_le h]
theorem sorted_one : ∀ (l r : List (Int × Int)), l.Perm r → l.Pairwise (fun a b => ltE b a = false) → r.Pairwise (fun a b => ltE b a = false) → l = r
  | [], r, h, _, _ => by rw [List.nil_perm.1 h]
  | x :: l, [], h, _, _ => by have := List.perm_nil.1 h; cases this
  | x :: l, y :: r, h, hl, hr => by
    rw [List.pairwise_cons] at hl hr
    have e : x = y := by
      have h1 : x ∈ y :: r := h.mem_iff.1 (by simp)
      have h2 : y ∈ x :: l := h.mem_iff.2 (by simp)
      simp only [List.mem_cons] at h1 h2
      rcases h1 with h1 | h1
      · exact h1
      · rcases h2 with h2 | h2
        · exact h2.symm
        · exact ltE_eq (hl.1 y h2) (hr.1 x h1)
    subst e
    rw [sorted_one l r (List.Perm.cons_inv h) hl.2 hr.2]
theorem elS_same {l : List (Int × Int)} {i : Nat} {a : Int × Int} (h : i < l.length) : el (l.set i a) i = a := by simp [el, h]
theorem elS_other {l : List (Int × Int)} {i j : Nat} {a : Int × Int} (h : j ≠ i) : el (l.set i a) j = el l j := by simp [el, Ne.symm h]
/-- The places m and m + 1 changed. -/
def swapL (ys : List (Int × Int)) (m : Nat) : List (Int × Int) := (ys.set (m + 1) (el ys m)).set m (el ys (m + 1))
theorem swapL_len (ys : List (Int × Int)) (m : Nat) : (swapL ys m).length = ys.length := by simp [swapL]
theorem swapL_a {ys : List (Int × Int)} {m : Nat} (h : m + 1 < ys.length) : el (swapL ys m) m = el ys (m + 1) := by rw [swapL, elS_same (by simp; omega)]
theorem swapL_b {ys : List (Int × Int)} {m : Nat} (h : m + 1 < ys.length) : el (swapL ys m) (m + 1) = el ys m := by rw [swapL, elS_other (by omega), elS_same h]
theorem swapL_o {ys : List (Int × Int)} {m q : Nat} (h1 : q ≠ m) (h2 : q ≠ m + 1) : el (swapL ys m) q = el ys q := by rw [swapL, elS_other h1, elS_other h2]
theorem swapL_perm {ys : List (Int × Int)} {m : Nat} (h : m + 1 < ys.length) : (swapL ys m).Perm ys := by
  obtain ⟨A, p, q, R, hA, rfl⟩ : ∃ A p q R, A.length = m ∧ ys = A ++ p :: q :: R := by
    refine ⟨ys.take m, ys[m], ys[m + 1], ys.drop (m + 2), by simp; omega, ?_⟩
    rw [← List.drop_eq_getElem_cons h, ← List.drop_eq_getElem_cons (by omega : m < ys.length), List.take_append_drop]
  subst hA
  have e1 : el (A ++ p :: q :: R) A.length = p := by simp [el]
  have e2 : el (A ++ p :: q :: R) (A.length + 1) = q := by simp [el]
  rw [swapL, e1, e2]
  have : ((A ++ p :: q :: R).set (A.length + 1) p).set A.length q = A ++ q :: p :: R := by
    rw [List.set_append_right _ _ (by omega), List.set_append_right _ _ (by omega)]; simp
  rw [this]
  exact List.Perm.append_left A (List.Perm.swap _ _ _)
/-- Sorted up to i. -/
def SortTo (ys : List (Int × Int)) (i : Nat) : Prop := ∀ a b, a < b → b < i → ltE (el ys b) (el ys a) = false
/-- Sorted up to i with it, but for the place j. -/
def SortBut (ys : List (Int × Int)) (i j : Nat) : Prop := (∀ a b, a < b → b ≤ i → a ≠ j → b ≠ j → ltE (el ys b) (el ys a) = false) ∧ ∀ b, j < b → b ≤ i → ltE (el ys b) (el ys j) = false
theorem sort_start {ys : List (Int × Int)} {i : Nat} (h : SortTo ys i) : SortBut ys i i := ⟨fun a b h1 h2 _ h4 => h a b h1 (by omega), fun b h1 h2 => by omega⟩
theorem sort_stop0 {ys : List (Int × Int)} {i : Nat} (h : SortBut ys i 0) : SortTo ys (i + 1) := fun a b h1 h2 => by
  by_cases e : a = 0
  · subst e; exact h.2 b h1 (by omega)
  · exact h.1 a b h1 (by omega) e (by omega)
theorem sort_stop {ys : List (Int × Int)} {i m : Nat} (h : SortBut ys i (m + 1)) (hm : m + 1 ≤ i) (hle : ltE (el ys (m + 1)) (el ys m) = false) : SortTo ys (i + 1) := fun a b h1 h2 => by
  by_cases eb : b = m + 1
  · subst eb
    by_cases ea : a = m
    · subst ea; exact hle
    · exact ltE_trans (h.1 a m (by omega) (by omega) (by omega) (by omega)) hle
  · by_cases ea : a = m + 1
    · subst ea; exact h.2 b h1 (by omega)
    · exact h.1 a b h1 (by omega) ea eb
theorem sort_swap {ys : List (Int × Int)} {i m : Nat} (h : SortBut ys i (m + 1)) (hm : m + 1 ≤ i) (hi : i < ys.length) (hlt : ltE (el ys (m + 1)) (el ys m) = true) : SortBut (swapL ys m) i m := by
  have hb := swapL_b (ys := ys) (m := m) (by omega)
  refine ⟨fun a b h1 h2 h3 h4 => ?_, fun b h1 h2 => ?_⟩
  · by_cases eb : b = m + 1
    · subst eb
      rw [hb, swapL_o h3 (by omega)]
      exact h.1 a m (by omega) (by omega) (by omega) (by omega)
    · rw [swapL_o h4 eb]
      by_cases ea : a = m + 1
      · subst ea; rw [hb]; exact h.1 m b (by omega) h2 (by omega) eb
      · rw [swapL_o h3 ea]; exact h.1 a b h1 h2 ea eb
  · rw [swapL_a (by omega)]
    by_cases eb : b = m + 1
    · subst eb; rw [hb]; exact ltE_le hlt
    · rw [swapL_o (by omega) eb]; exact h.2 b (by omega) h2
theorem sorted_all {l zs : List (Int × Int)} (hp : l.Perm zs) (hs : SortTo l l.length) : l = sortE zs := by
  refine sorted_one _ _ (hp.trans (List.mergeSort_perm zs _).symm) ?_ (sortE_pair zs)
  rw [List.pairwise_iff_getElem]
  intro i j hi hj hij
  have h1 := hs i j hij hj
  rwa [el_at hi, el_at hj] at h1
theorem kE_flat_swap {ys : List (Int × Int)} {m : Nat} (hm : m + 1 < ys.length) :
    (((((kE.flat ys).set ((m + 1) * 2) (.int .i64 (el ys m).1)).set ((m + 1) * 2 + 1) (.int .i64 (el ys m).2)).set (m * 2) (.int .i64 (el ys (m + 1)).1)).set (m * 2 + 1) (.int .i64 (el ys (m + 1)).2)) = kE.flat (swapL ys m) := by
  have hfl : (kE.flat ys).length = ys.length * 2 := kE.flat_len ys
  refine kE.flat_of _ _ (by simp only [List.length_set, swapL_len]; exact hfl) fun j hj i hi => ?_
  have hi' : i < 2 := hi
  rw [swapL_len] at hj
  have hsz : kE.sz = 2 := rfl
  have ha := kE.flat_at ys j hj i hi
  rw [hsz] at ha ⊢
  rcases (show i = 0 ∨ i = 1 from by omega) with rfl | rfl
  · rw [show j * 2 + 0 = j * 2 from rfl] at ha ⊢
    by_cases e1 : j = m
    · subst e1
      rw [List.getElem?_set_ne (by omega), List.getElem?_set_self (by simp [hfl]; omega), swapL_a hm]; rfl
    · by_cases e2 : j = m + 1
      · subst e2
        rw [List.getElem?_set_ne (by omega), List.getElem?_set_ne (by omega), List.getElem?_set_ne (by omega), List.getElem?_set_self (by simp [hfl]; omega), swapL_b hm]; rfl
      · rw [List.getElem?_set_ne (by omega), List.getElem?_set_ne (by omega), List.getElem?_set_ne (by omega), List.getElem?_set_ne (by omega), swapL_o e1 e2]; exact ha
  · by_cases e1 : j = m
    · subst e1
      rw [List.getElem?_set_self (by simp [hfl]; omega), swapL_a hm]; rfl
    · by_cases e2 : j = m + 1
      · subst e2
        rw [List.getElem?_set_ne (by omega), List.getElem?_set_ne (by omega), List.getElem?_set_self (by simp [hfl]; omega), swapL_b hm]; rfl
      · rw [List.getElem?_set_ne (by omega), List.getElem?_set_ne (by omega), List.getElem?_set_ne (by omega), List.getElem?_set_ne (by omega), swapL_o e1 e2]; exact ha
theorem kE_stored {lo hi : Nat} {W : World} {g c : Nat} {ys : List (Int × Int)} (h : kE.Fresh lo hi W (some ⟨g, 0, none⟩) c ys) {m : Nat} (hm : m + 1 < ys.length) :
    kE.Fresh lo hi ((((W.setCell ⟨g, (m + 1) * 2, none⟩ (.int .i64 (el ys m).1)).setCell ⟨g, (m + 1) * 2 + 1, none⟩ (.int .i64 (el ys m).2)).setCell ⟨g, m * 2, none⟩ (.int .i64 (el ys (m + 1)).1)).setCell ⟨g, m * 2 + 1, none⟩ (.int .i64 (el ys (m + 1)).2)) (some ⟨g, 0, none⟩) c (swapL ys m) := by
  obtain ⟨g2, e2, hg1, hg2, hg3, ho⟩ := h.at (show 0 < ys.length by omega)
  simp at e2; subst e2
  have hs := ((((World.ownsRow.stored ho ((m + 1) * 2) (.int .i64 (el ys m).1)).1.stored ((m + 1) * 2 + 1) (.int .i64 (el ys m).2)).1.stored (m * 2) (.int .i64 (el ys (m + 1)).1)).1.stored (m * 2 + 1) (.int .i64 (el ys (m + 1)).2)).1
  refine .inr ⟨g, rfl, hg2, ?_⟩
  rw [kE_flat_swap hm] at hs
  rw [swapL_len]; exact hs
end Go.Proofs.Ytiaahgpkeboobaa
