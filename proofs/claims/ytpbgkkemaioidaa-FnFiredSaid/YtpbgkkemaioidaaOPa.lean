
/- Plain facts on lists of timers: what chapter 2's first functions compute. No conditions but those written. -/
namespace Go.Proofs.Ytpbgkkemaioidaa.Old
abbrev T3 := Int × Int × Int
def t3 (ts : List T3) (k : Nat) : T3 := ts[k]?.getD (0, 0, 0)
/-- a fires ahead of b. -/
def beforeB (a b : T3) : Bool := if a.2.1 = b.2.1 then decide (a.2.2 < b.2.2) else decide (a.2.1 < b.2.1)
def clashB (a b : T3) : Bool := decide (a.1 = b.1) || decide (a.2.2 = b.2.2)
def rowB (now sq : Int) (ts : List T3) (k : Nat) : Bool :=
  (decide (now ≤ (t3 ts k).2.1) && (decide (1 ≤ (t3 ts k).2.2) && decide ((t3 ts k).2.2 ≤ sq))) && ((List.range k).all (fun j => !clashB (t3 ts j) (t3 ts k)) && (decide (k = 0) || beforeB (t3 ts (k - 1)) (t3 ts k)))
/-- A clock is good. -/
def goodB (now sq : Int) (ts : List T3) : Bool := (decide (0 ≤ now) && (decide (0 ≤ sq) && decide (sq ≤ 1000000)) && decide (ts.length ≤ 30)) && (List.range ts.length).all (rowB now sq ts)
theorem goodB_head (now sq : Int) (ts : List T3) (h : now < 0 ∨ sq < 0 ∨ 1000000 < sq ∨ 30 < ts.length) : goodB now sq ts = false := by
  have : (decide (0 ≤ now) && (decide (0 ≤ sq) && decide (sq ≤ 1000000)) && decide (ts.length ≤ 30)) = false := by
    simp only [Bool.and_eq_false_iff, decide_eq_false_iff_not]; omega
  unfold goodB; rw [this]; rfl
theorem goodB_row (now sq : Int) (ts : List T3) (k : Nat) (hk : k < ts.length) (h : rowB now sq ts k = false) : goodB now sq ts = false := by
  have : (List.range ts.length).all (rowB now sq ts) = false := by
    rw [List.all_eq_false]; exact ⟨k, List.mem_range.2 hk, by simp [h]⟩
  simp [goodB, this]
theorem goodB_end (now sq : Int) (ts : List T3) (h1 : 0 ≤ now) (h2 : 0 ≤ sq) (h3 : sq ≤ 1000000) (h4 : ts.length ≤ 30) (h : ∀ j, j < ts.length → rowB now sq ts j = true) : goodB now sq ts = true := by
  have : (List.range ts.length).all (rowB now sq ts) = true := by
    rw [List.all_eq_true]; intro j hj; exact h j (List.mem_range.1 hj)
  simp [goodB, this, h1, h2, h3, h4]
theorem rowB_at (now sq : Int) (ts : List T3) (k : Nat) (h : (t3 ts k).2.1 < now ∨ (t3 ts k).2.2 < 1 ∨ sq < (t3 ts k).2.2) : rowB now sq ts k = false := by
  have : (decide (now ≤ (t3 ts k).2.1) && (decide (1 ≤ (t3 ts k).2.2) && decide ((t3 ts k).2.2 ≤ sq))) = false := by
    simp only [Bool.and_eq_false_iff, decide_eq_false_iff_not]; omega
  unfold rowB; rw [this]; rfl
theorem rowB_clash (now sq : Int) (ts : List T3) (k j : Nat) (hj : j < k) (h : clashB (t3 ts j) (t3 ts k) = true) : rowB now sq ts k = false := by
  have : (List.range k).all (fun j => !clashB (t3 ts j) (t3 ts k)) = false := by
    rw [List.all_eq_false]; exact ⟨j, List.mem_range.2 hj, by simp [h]⟩
  simp [rowB, this]
theorem rowB_order (now sq : Int) (ts : List T3) (k : Nat) (hk : k ≠ 0) (h : beforeB (t3 ts (k - 1)) (t3 ts k) = false) : rowB now sq ts k = false := by
  simp [rowB, hk, h]
theorem rowB_end (now sq : Int) (ts : List T3) (k : Nat) (h1 : now ≤ (t3 ts k).2.1) (h2 : 1 ≤ (t3 ts k).2.2) (h3 : (t3 ts k).2.2 ≤ sq) (hc : ∀ j, j < k → clashB (t3 ts j) (t3 ts k) = false) (ho : k = 0 ∨ beforeB (t3 ts (k - 1)) (t3 ts k) = true) : rowB now sq ts k = true := by
  have : (List.range k).all (fun j => !clashB (t3 ts j) (t3 ts k)) = true := by
    rw [List.all_eq_true]; intro j hj; simp [hc j (List.mem_range.1 hj)]
  have h' : (decide (k = 0) || beforeB (t3 ts (k - 1)) (t3 ts k)) = true := by
    rcases ho with h | h <;> simp [h]
  simp only [rowB, this, h', h1, h2, h3, decide_true, Bool.and_self]
end Go.Proofs.Ytpbgkkemaioidaa.Old
