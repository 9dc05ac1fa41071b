
/- Plain facts on what ArmTimer and ResetTimer answer. No conditions but those written. -/
import Derived.Test.YtpbgkkemaioidaaOPb
import Derived.Test.YtpbgkkemaioidaaOHg
import Derived.Test.YtpbgkkemaioidaaOIa
import Derived.Test.YtpbgkkemaioidaaORa
namespace Go.Proofs.Ytpbgkkemaioidaa.Old

def SortedT (ts : List T3) : Prop := ∀ j, j < ts.length → ∀ i, i < j → ltT ts i j = true
def SeqLt (ts : List T3) (s : Int) : Prop := ∀ j, j < ts.length → (t3 ts j).2.2 < s
theorem good_sort {now sq : Int} {ts : List T3} (h : goodB now sq ts = true) : SortedT ts ∧ SeqLt ts (sq + 1) :=
  ⟨good_sorted h, fun j hj => by have := row_parts ((good_parts h).2.2.2.2 j hj); omega⟩
theorem may_parts {now sq : Int} {ts : List T3} (h : mayB now sq ts = true) : goodB now sq ts = true ∧ sq < 1000000 := by
  unfold mayB at h; simpa using h
def eraseT (ts : List T3) (k : Nat) : List T3 := ts.take k ++ ts.drop (k + 1)
theorem eraseT_len (ts : List T3) (k : Nat) (h : k < ts.length) : (eraseT ts k).length + 1 = ts.length := by simp [eraseT]; omega
theorem eraseT_at (ts : List T3) (k j : Nat) (h : k < ts.length) : t3 (eraseT ts k) j = if j < k then t3 ts j else t3 ts (j + 1) := by
  unfold eraseT t3
  have hl : (ts.take k).length = k := by simp; omega
  by_cases hj : j < k
  · rw [if_pos hj, List.getElem?_append_left (by omega), List.getElem?_take, if_pos hj]
  · rw [if_neg hj, List.getElem?_append_right (by omega), hl, List.getElem?_drop, show k + 1 + (j - k) = j + 1 from by omega]
theorem SortedT.erase {ts : List T3} (h : SortedT ts) (k : Nat) (hk : k < ts.length) : SortedT (eraseT ts k) := by
  have hl := eraseT_len ts k hk
  intro j hj i hi
  unfold ltT
  rw [eraseT_at ts k i hk, eraseT_at ts k j hk]
  by_cases h1 : i < k
  · by_cases h2 : j < k
    · rw [if_pos h1, if_pos h2]; exact h j (by omega) i hi
    · rw [if_pos h1, if_neg h2]; exact h (j + 1) (by omega) i (by omega)
  · rw [if_neg h1, if_neg (by omega)]; exact h (j + 1) (by omega) (i + 1) (by omega)
theorem SeqLt.erase {ts : List T3} {s : Int} (h : SeqLt ts s) (k : Nat) (hk : k < ts.length) : SeqLt (eraseT ts k) s := by
  have hl := eraseT_len ts k hk
  intro j hj
  rw [eraseT_at ts k j hk]
  split
  · exact h j (by omega)
  · exact h (j + 1) (by omega)
theorem AtsIn.erase {ts : List T3} (h : AtsIn ts) (k : Nat) (hk : k < ts.length) : AtsIn (eraseT ts k) := by
  have hl := eraseT_len ts k hk
  intro j hj
  rw [eraseT_at ts k j hk]
  split
  · exact h j (by omega)
  · exact h (j + 1) (by omega)
theorem mem_t3 {ts : List T3} {t : T3} (h : t ∈ ts) : ∃ j, j < ts.length ∧ t3 ts j = t := by
  obtain ⟨j, hj, e⟩ := List.mem_iff_getElem.1 h
  exact ⟨j, hj, by simp [t3, hj, e]⟩
theorem due_all {ts : List T3} {t : T3} (hA : AtsIn ts) (ht : t.2.1 ≤ 9223372036854775807) : dueL (ts ++ [t]) 9223372036854775807 (insS ts.length (insK ts t.2.1)) = insT ts t := by
  unfold dueL
  rw [insS_map, List.filter_eq_self]
  intro x hx
  have : x ∈ ts ∨ x = t := by
    unfold insT at hx
    rcases List.mem_append.1 hx with h | h
    · exact .inl (List.mem_of_mem_take h)
    · rcases List.mem_cons.1 h with h | h
      · exact .inr h
      · exact .inl (List.mem_of_mem_drop h)
  rcases this with h | h
  · obtain ⟨j, hj, rfl⟩ := mem_t3 h
    have := (hA j hj).2; simpa using this
  · subst h; simpa using ht
/-- What ArmTimer answers. -/
def armR (now sq : Int) (ts : List T3) (id d : Int) : Int × Int × List T3 × Int :=
  if mayB now sq ts = true then (match findT ts id with | some _ => (now, sq, ts, 2) | none => if ts.length = 30 then (now, sq, ts, 4) else (now, sq + 1, insT ts (id, laterI now d, sq + 1), 0)) else (0, 0, [], 1)
theorem armR_len (now sq : Int) (ts : List T3) (id d : Int) (h : ts.length ≤ 1048576) : (armR now sq ts id d).2.2.1.length ≤ 1048576 := by
  unfold armR
  split
  · rename_i hm
    have := (good_parts (may_parts hm).1).2.2.2.1
    split
    · exact h
    · split
      · exact h
      · dsimp only; rw [insT_len]; omega
  · simp
/-- What ResetTimer answers. -/
def resetR (now sq : Int) (ts : List T3) (id d : Int) : Int × Int × List T3 × Int :=
  if mayB now sq ts = true then (match findT ts id with | none => (now, sq, ts, 3) | some k => (now, sq + 1, insT (eraseT ts k) (id, laterI now d, sq + 1), 0)) else (0, 0, [], 1)
theorem resetR_len (now sq : Int) (ts : List T3) (id d : Int) (h : ts.length ≤ 1048576) : (resetR now sq ts id d).2.2.1.length ≤ 1048576 := by
  unfold resetR
  split
  · rename_i hm
    split
    · exact h
    · rename_i k hf
      have := eraseT_len ts k (findT_lt hf)
      dsimp only; rw [insT_len]; omega
  · simp
end Go.Proofs.Ytpbgkkemaioidaa.Old
