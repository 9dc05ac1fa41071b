
/- Plain facts on channels: what chapter 3's functions compute. No conditions but those written. -/
namespace Go.Proofs.Ytdjdbcfcccbhpaa.Old
abbrev T3 := Int × Int × Int
def t3 (ts : List T3) (k : Nat) : T3 := ts[k]?.getD (0, 0, 0)
/-- One that is woken: task, case, value, ok. -/
abbrev T4 := Int × Int × Int × Bool
def t4 (ts : List T4) (k : Nat) : T4 := ts[k]?.getD (0, 0, 0, false)
/-- A waiter is good. -/
def wtB (t : T3) : Bool := (decide (0 ≤ t.1) && decide (t.1 ≤ 29)) && (decide (0 ≤ t.2.1) && decide (t.2.1 ≤ 9))
/-- One that receives. -/
def rcB (t : T3) : Bool := wtB t && (t.2.2 == 0)
/-- Those that wait are good. -/
def rowB (p : T3 → Bool) (s : List T3) : Bool := decide (s.length ≤ 40) && s.all p
theorem t3_at {s : List T3} {k : Nat} (hk : k < s.length) : t3 s k = s[k] := by simp [t3, hk]
theorem rowB_long {p : T3 → Bool} {s : List T3} (h : 40 < s.length) : rowB p s = false := by
  have : decide (s.length ≤ 40) = false := by simp; omega
  simp [rowB, this]
theorem rowB_bad {p : T3 → Bool} {s : List T3} (k : Nat) (hk : k < s.length) (h : p (t3 s k) = false) : rowB p s = false := by
  have : s.all p = false := by
    rw [List.all_eq_false]; exact ⟨s[k], List.getElem_mem hk, by rw [t3_at hk] at h; simp [h]⟩
  simp [rowB, this]
theorem rowB_end {p : T3 → Bool} {s : List T3} (h : s.length ≤ 40) (hk : ∀ j, j < s.length → p (t3 s j) = true) : rowB p s = true := by
  have : s.all p = true := by
    rw [List.all_eq_true]; intro x hx
    obtain ⟨j, hj, rfl⟩ := List.mem_iff_getElem.1 hx
    have := hk j hj
    rwa [t3_at hj] at this
  simp [rowB, this, h]
theorem rowB_len {p : T3 → Bool} {s : List T3} (h : rowB p s = true) : s.length ≤ 40 := by
  simp [rowB] at h; exact h.1
/-- A channel is good. -/
def goodC (kap : Int) (cl : Bool) (b : List Int) (s r : List T3) : Bool :=
  ((decide (0 ≤ kap) && decide (kap ≤ 10)) && decide ((b.length : Int) ≤ kap)) && (rowB wtB s && rowB rcB r) && (decide (s.length = 0) || (!cl && decide (kap ≤ (b.length : Int)))) && (decide (r.length = 0) || (decide (b.length = 0) && !cl && decide (s.length = 0)))
theorem goodC_len {kap : Int} {cl : Bool} {b : List Int} {s r : List T3} (h : goodC kap cl b s r = true) : 0 ≤ kap ∧ kap ≤ 10 ∧ (b.length : Int) ≤ kap ∧ s.length ≤ 40 ∧ r.length ≤ 40 := by
  simp only [goodC, Bool.and_eq_true, decide_eq_true_eq] at h
  exact ⟨h.1.1.1.1.1, h.1.1.1.1.2, h.1.1.1.2, rowB_len h.1.1.2.1, rowB_len h.1.1.2.2⟩
end Go.Proofs.Ytdjdbcfcccbhpaa.Old
