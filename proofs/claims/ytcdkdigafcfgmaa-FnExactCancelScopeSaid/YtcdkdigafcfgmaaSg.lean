/- What ends ends all below it: plain facts, and a row one of whose elements is written. No conditions but those written. -/
import Derived.Test.YtcdkdigafcfgmaaSc
namespace Go.Proofs.Ytcdkdigafcfgmaa
open Go.RowKit

theorem Kind.flat_set {α : Type} [Inhabited α] (K : Kind α) : ∀ (xs : List α) (j : Nat), j < xs.length → ∀ i, i < K.sz → ∀ (v : Value) (x' : α), K.enc x' = (K.enc (el xs j)).set i v → (K.flat xs).set (j * K.sz + i) v = K.flat (xs.set j x')
  | [], j, h, _, _, _, _, _ => by simp at h
  | x :: r, 0, _, i, hi, v, x', he => by
    rw [el_zero] at he
    rw [Nat.zero_mul, Nat.zero_add, Kind.flat_cons, List.set_append_left _ _ (by rw [K.len]; exact hi), ← he, List.set_cons_zero, Kind.flat_cons]
  | x :: r, j + 1, h, i, hi, v, x', he => by
    rw [el_cons] at he
    have e : (j + 1) * K.sz + i - (K.enc x).length = j * K.sz + i := by rw [K.len, Nat.add_mul, Nat.one_mul]; omega
    rw [Kind.flat_cons, List.set_append_right _ _ (by rw [K.len, Nat.add_mul, Nat.one_mul]; omega), e, Kind.flat_set K r j (by simpa using h) i hi v x' he, List.set_cons_succ, Kind.flat_cons]
theorem Kind.Fresh.set {α : Type} [Inhabited α] {K : Kind α} {lo hi g : Nat} {W : World} {tc : Nat} {xs : List α} (h : K.Fresh lo hi W (some ⟨g, 0, none⟩) tc xs) (j : Nat) (hj : j < xs.length) (i : Nat) (hi' : i < K.sz) (v : Value) (x' : α) (he : K.enc x' = (K.enc (el xs j)).set i v) :
    K.Fresh lo hi (W.setCell ⟨g, j * K.sz + i, none⟩ v) (some ⟨g, 0, none⟩) tc (xs.set j x') := by
  rcases h with rfl | ⟨g', e, hg, ho⟩
  · simp at hj
  · cases e
    refine .inr ⟨g, rfl, hg, ?_⟩
    have := (ho.stored (j * K.sz + i) v).1
    rw [K.flat_set xs j hj i hi' v x' he] at this
    rw [List.length_set]; exact this
theorem Kind.Fresh.cells {α : Type} [Inhabited α] {K : Kind α} {lo hi g : Nat} {W : World} {tc : Nat} {xs : List α} (h : K.Fresh lo hi W (some ⟨g, 0, none⟩) tc xs) (j : Nat) (hj : j < xs.length) (i : Nat) (hi' : i < K.sz) : W.cell? ⟨g, j * K.sz + i, none⟩ = (K.enc (el xs j))[i]? ∧ W.frozen? ⟨g, j * K.sz + i, none⟩ = false := by
  rcases h with rfl | ⟨g', e, hg, ho⟩
  · simp at hj
  · cases e
    have hlt : j * K.sz + i < xs.length * K.sz := by
      have : (j + 1) * K.sz ≤ xs.length * K.sz := Nat.mul_le_mul_right _ hj
      rw [Nat.add_mul, Nat.one_mul] at this; omega
    exact ⟨by rw [ho.cellAt _ hlt, K.flat_at xs j hj i hi'], ho.frozenAt _⟩
theorem el_set_same {α : Type} [Inhabited α] {xs : List α} {j : Nat} (h : j < xs.length) (x : α) : el (xs.set j x) j = x := by simp [el, h]
theorem el_set_other {α : Type} [Inhabited α] {xs : List α} {i j : Nat} (h : i ≠ j) (x : α) : el (xs.set j x) i = el xs i := by rw [el, List.getElem?_set, if_neg (fun e => h e.symm)]; rfl

/-- Scopes that end up to a place: the scopes, and the numbers of those that ended. -/
def endTo (f : Nat → Sc → Bool) (why : Int) (l : List Sc) : Nat → List Sc × List Int
  | 0 => (l, [])
  | j + 1 => if ((f j (el (endTo f why l j).1 j) || aboveB (endTo f why l j).1 (el (endTo f why l j).1 j).1) && ((el (endTo f why l j).1 j).2.2 == 0)) = true
      then ((endTo f why l j).1.set j ((el (endTo f why l j).1 j).1, (el (endTo f why l j).1 j).2.1, why), (endTo f why l j).2 ++ [(j : Int)])
      else endTo f why l j
theorem endTo_len (f : Nat → Sc → Bool) (why : Int) (l : List Sc) : ∀ j, (endTo f why l j).1.length = l.length
  | 0 => rfl
  | j + 1 => by
    rw [endTo]
    split
    · rw [List.length_set]; exact endTo_len f why l j
    · exact endTo_len f why l j
theorem endTo_num (f : Nat → Sc → Bool) (why : Int) (l : List Sc) : ∀ j, (endTo f why l j).2.length ≤ j
  | 0 => by simp [endTo]
  | j + 1 => by
    have := endTo_num f why l j
    rw [endTo]
    split
    · simp; omega
    · omega
theorem endTo_rest (f : Nat → Sc → Bool) (why : Int) (l : List Sc) : ∀ j i, j ≤ i → el (endTo f why l j).1 i = el l i
  | 0, i, _ => rfl
  | j + 1, i, h => by
    rw [endTo]
    split
    · rw [el_set_other (by omega)]; exact endTo_rest f why l j i (by omega)
    · exact endTo_rest f why l j i (by omega)
/-- One more. -/
theorem endTo_yes {f : Nat → Sc → Bool} {why : Int} {l : List Sc} {j : Nat} {y1 y2 : Int} (hy : el l j = (y1, y2, 0)) (h : (f j (y1, y2, 0) || aboveB (endTo f why l j).1 y1) = true) : endTo f why l (j + 1) = ((endTo f why l j).1.set j (y1, y2, why), (endTo f why l j).2 ++ [(j : Int)]) := by
  rw [endTo, endTo_rest f why l j j (Nat.le_refl _), hy, if_pos]
  dsimp only
  rw [h]; rfl
theorem endTo_no {f : Nat → Sc → Bool} {why : Int} {l : List Sc} {j : Nat} {y1 y2 y3 : Int} (hy : el l j = (y1, y2, y3)) (h : (f j (y1, y2, y3) || aboveB (endTo f why l j).1 y1) = false ∨ (y3 == 0) = false) : endTo f why l (j + 1) = endTo f why l j := by
  rw [endTo, endTo_rest f why l j j (Nat.le_refl _), hy, if_neg]
  dsimp only
  rcases h with h | h
  · rw [h]; simp
  · rw [h]; simp
/-- Who is to end, at the beginning. -/
def ends0 (f : Nat → Sc → Bool) (l : List Sc) (i : Nat) : Bool := ((el l i).2.2 == 0) && f i (el l i)
/-- Who is to end, when j have been gone through. -/
def endsAt (f : Nat → Sc → Bool) (why : Int) (l : List Sc) (j i : Nat) : Bool := if i < j then ((el l i).2.2 == 0) && ((el (endTo f why l j).1 i).2.2 != 0) else ends0 f l i
theorem endTo_before (f : Nat → Sc → Bool) (why : Int) (l : List Sc) (j i : Nat) (h : i < j) : el (endTo f why l (j + 1)).1 i = el (endTo f why l j).1 i := by
  rw [endTo]
  split
  · rw [el_set_other (by omega)]
  · rfl
/-- The specification's look above is the program's. -/
theorem above_ends {f : Nat → Sc → Bool} {why : Int} {l : List Sc} {j u : Nat} {y2 : Int} (hu : u < j) (hy : el l j = ((u : Int), y2, 0)) (hs : scB l j = true) : endsAt f why l j u = aboveB (endTo f why l j).1 u := by
  have h0 : (el l u).2.2 = 0 := by
    rw [scB, hy] at hs
    simp [aboveB] at hs
    exact hs.2
  rw [endsAt, if_pos hu, h0, aboveB]
  simp
theorem endsAt_other {f : Nat → Sc → Bool} {why : Int} {l : List Sc} {j i : Nat} (h : i ≠ j) : endsAt f why l (j + 1) i = endsAt f why l j i := by
  unfold endsAt
  by_cases hi : i < j
  · rw [if_pos (by omega), if_pos hi, endTo_before f why l j i hi]
  · rw [if_neg (by omega), if_neg hi]
theorem endsAt_skip {f : Nat → Sc → Bool} {why : Int} {l : List Sc} {j : Nat} {y1 y2 y3 : Int} (hy : el l j = (y1, y2, y3)) (h : y3 ≠ 0) (i : Nat) : endsAt f why l (j + 1) i = endsAt f why l j i := by
  by_cases hi : i = j
  · subst hi
    have e : (y3 == 0) = false := by simpa using h
    rw [endsAt, if_pos (by omega), endsAt, if_neg (by omega), ends0, hy]
    dsimp only
    rw [e]; rfl
  · exact endsAt_other hi
theorem endsAt_yes {f : Nat → Sc → Bool} {why : Int} {l : List Sc} {j : Nat} {y1 y2 : Int} (hj : j < l.length) (hw : why ≠ 0) (hy : el l j = (y1, y2, 0)) (h : (f j (y1, y2, 0) || aboveB (endTo f why l j).1 y1) = true) : endsAt f why l (j + 1) j = true := by
  rw [endsAt, if_pos (by omega), endTo_yes hy h, hy]
  dsimp only
  rw [el_set_same (by rw [endTo_len]; exact hj)]
  simpa using hw
theorem endsAt_no {f : Nat → Sc → Bool} {why : Int} {l : List Sc} {j : Nat} {y1 y2 : Int} (hy : el l j = (y1, y2, 0)) (h : (f j (y1, y2, 0) || aboveB (endTo f why l j).1 y1) = false) : endsAt f why l (j + 1) j = false := by
  rw [endsAt, if_pos (by omega), endTo_no hy (.inl h), endTo_rest f why l j j (Nat.le_refl _), hy]
  rfl
theorem endsAt_now {f : Nat → Sc → Bool} {why : Int} {l : List Sc} {j : Nat} {y1 y2 : Int} (hy : el l j = (y1, y2, 0)) : endsAt f why l j j = f j (y1, y2, 0) := by
  rw [endsAt, if_neg (by omega), ends0, hy]
  rfl
end Go.Proofs.Ytcdkdigafcfgmaa
