
/- Plain facts on lists: what chapter 1's functions compute. No conditions but those written. -/
namespace Go.Proofs.Ytgbnbnjfaffaiaa.Old
def hasB (q : List Int) (n : Int) : Bool := decide (n ∈ q)
theorem hasB_no (q : List Int) (n : Int) (h : ∀ j, j < q.length → q[j]?.getD 0 ≠ n) : hasB q n = false := by
  simp only [hasB, decide_eq_false_iff_not]
  intro hm
  obtain ⟨j, hj, e⟩ := List.mem_iff_getElem.1 hm
  exact h j hj (by simp [hj, e])
theorem hasB_yes (q : List Int) (n : Int) (k : Nat) (hk : k < q.length) (h : q[k]?.getD 0 = n) : hasB q n = true := by
  simp only [hasB, decide_eq_true_eq]
  have : q[k] = n := by simpa [hk] using h
  rw [← this]; exact List.getElem_mem hk
def goodTaskB (s p : Int) : Bool := if s = 1 then decide (0 ≤ p ∧ p ≤ 1000000) else if s = 2 ∨ s = 3 ∨ s = 4 then decide (p = 0) else false
def runsN : List (Int × Int) → Nat
  | [] => 0
  | t :: r => (if t.1 = 2 then 1 else 0) + runsN r
def readyN : List (Int × Int) → Nat
  | [] => 0
  | t :: r => (if t.1 = 1 then 1 else 0) + readyN r
theorem runsN_append (a b : List (Int × Int)) : runsN (a ++ b) = runsN a + runsN b := by
  induction a with
  | nil => simp [runsN]
  | cons t r ih => simp [runsN, ih]; omega
theorem readyN_append (a b : List (Int × Int)) : readyN (a ++ b) = readyN a + readyN b := by
  induction a with
  | nil => simp [readyN]
  | cons t r ih => simp [readyN, ih]; omega
theorem runsN_le (a : List (Int × Int)) : runsN a ≤ a.length := by
  induction a with
  | nil => simp [runsN]
  | cons t r ih => simp only [runsN, List.length_cons]; split <;> omega
theorem readyN_le (a : List (Int × Int)) : readyN a ≤ a.length := by
  induction a with
  | nil => simp [readyN]
  | cons t r ih => simp only [readyN, List.length_cons]; split <;> omega
theorem take_snoc {α : Type} (l : List α) (k : Nat) (d : α) (h : k < l.length) : l.take (k + 1) = l.take k ++ [l[k]?.getD d] := by
  rw [List.take_succ_eq_append_getElem h]; simp [h]
theorem runsN_snoc (l : List (Int × Int)) (k : Nat) (h : k < l.length) : runsN (l.take (k + 1)) = runsN (l.take k) + (if (l[k]?.getD (0, 0)).1 = 2 then 1 else 0) := by
  rw [take_snoc l k (0, 0) h, runsN_append]; simp [runsN]
theorem readyN_snoc (l : List (Int × Int)) (k : Nat) (h : k < l.length) : readyN (l.take (k + 1)) = readyN (l.take k) + (if (l[k]?.getD (0, 0)).1 = 1 then 1 else 0) := by
  rw [take_snoc l k (0, 0) h, readyN_append]; simp [readyN]
theorem runsN_take_le (l : List (Int × Int)) (k : Nat) : runsN (l.take k) ≤ k := Nat.le_trans (runsN_le _) (List.length_take_le _ _)
theorem readyN_take_le (l : List (Int × Int)) (k : Nat) : readyN (l.take k) ≤ k := Nat.le_trans (readyN_le _) (List.length_take_le _ _)
/-- impl.goodTasks. -/
def goodTasksB (ts : List (Int × Int)) : Bool := ts.all (fun t => goodTaskB t.1 t.2) && decide (runsN ts ≤ 1)
theorem all_of (f : Int × Int → Bool) (l : List (Int × Int)) (h : ∀ j, j < l.length → f (l[j]?.getD (0, 0)) = true) : l.all f = true := by
  rw [List.all_eq_true]; intro x hx
  obtain ⟨j, hj, e⟩ := List.mem_iff_getElem.1 hx
  have := h j hj; simp [hj, e] at this; exact this
theorem all_not (f : Int × Int → Bool) (l : List (Int × Int)) (k : Nat) (hk : k < l.length) (h : f (l[k]?.getD (0, 0)) = false) : l.all f = false := by
  rw [List.all_eq_false]; exact ⟨l[k], List.getElem_mem hk, by simp [hk] at h; simp [h]⟩
/-- spec's look at one task. -/
def specTaskB (s p : Int) : Bool := decide (1 ≤ s) && decide (s ≤ 4) && (decide (0 ≤ p) && decide (p ≤ 1000000)) && (decide (s = 1) || decide (p = 0))
def specRowB (ts : List (Int × Int)) (q : List Int) (j : Nat) : Bool := specTaskB (ts[j]?.getD (0, 0)).1 (ts[j]?.getD (0, 0)).2 && (!decide ((ts[j]?.getD (0, 0)).1 = 1) || hasB q j)
/-- spec.GoodBoard. -/
def specGoodB (ts : List (Int × Int)) (q : List Int) : Bool := decide (ts.length ≤ 30) && (List.range ts.length).all (specRowB ts q) && (decide (runsN ts < 2) && decide (q.length = readyN ts))
theorem specGoodB_many (ts : List (Int × Int)) (q : List Int) (h : 30 < ts.length) : specGoodB ts q = false := by
  have : ¬ ts.length ≤ 30 := by omega
  simp [specGoodB, this]
theorem specGoodB_row (ts : List (Int × Int)) (q : List Int) (k : Nat) (hk : k < ts.length) (h : specRowB ts q k = false) : specGoodB ts q = false := by
  have : (List.range ts.length).all (specRowB ts q) = false := by
    rw [List.all_eq_false]; exact ⟨k, List.mem_range.2 hk, by simp [h]⟩
  simp [specGoodB, this]
theorem specGoodB_end (ts : List (Int × Int)) (q : List Int) (hl : ts.length ≤ 30) (h : ∀ j, j < ts.length → specRowB ts q j = true) : specGoodB ts q = (decide (runsN ts < 2) && decide (q.length = readyN ts)) := by
  have : (List.range ts.length).all (specRowB ts q) = true := by
    rw [List.all_eq_true]; intro j hj; exact h j (List.mem_range.1 hj)
  simp [specGoodB, this, hl]
theorem end_yes (rk a b : Nat) (h : rk < 2) : ((a : Int) == (b : Int)) = (decide (rk < 2) && decide (a = b)) := by
  simp only [h, decide_true, Bool.true_and]
  exact Bool.eq_iff_iff.2 (by simp; omega)
theorem end_no (rk a b : Nat) (h : ¬ rk < 2) : false = (decide (rk < 2) && decide (a = b)) := by simp [h]
end Go.Proofs.Ytgbnbnjfaffaiaa.Old
