
/- Plain facts on what AdvanceTo answers. No conditions but those written. -/
import Derived.Test.YtpbgkkemaioidaaOPc
namespace Go.Proofs.Ytpbgkkemaioidaa.Old

theorem range_sorted {ts : List T3} (h : SortedT ts) : (List.range ts.length).Pairwise (fun a b => ltT ts a b = true) := by
  refine List.Pairwise.imp_of_mem ?_ List.pairwise_lt_range
  intro a b _ hb hab
  exact h b (List.mem_range.1 hb) a hab
theorem mem_take_t3 {ts : List T3} {k : Nat} {t : T3} (h : t ∈ ts.take k) : ∃ j, j < k ∧ j < ts.length ∧ t3 ts j = t := by
  obtain ⟨j, hj, e⟩ := List.mem_iff_getElem.1 h
  have hj' : j < k ∧ j < ts.length := by simp at hj; omega
  refine ⟨j, hj'.1, hj'.2, ?_⟩
  rw [List.getElem_take] at e
  simp [t3, hj'.2, e]
theorem mem_drop_t3 {ts : List T3} {k : Nat} {t : T3} (h : t ∈ ts.drop k) : ∃ j, k ≤ j ∧ j < ts.length ∧ t3 ts j = t := by
  obtain ⟨j, hj, e⟩ := List.mem_iff_getElem.1 h
  have hj' : k + j < ts.length := by simp at hj; omega
  refine ⟨k + j, by omega, hj', ?_⟩
  rw [List.getElem_drop] at e
  simp [t3, hj', e]
theorem due_take {ts : List T3} (h : SortedT ts) (time : Int) : dueL ts time (List.range ts.length) = ts.take (insK ts time) ∧ latL ts time (List.range ts.length) = ts.drop (insK ts time) := by
  obtain ⟨hk, h1, h2⟩ := insK_ins ts time
  generalize insK ts time = k at *
  have hm : (List.range ts.length).map (t3 ts) = ts.take k ++ ts.drop k := by rw [map_range_take ts ts.length (Nat.le_refl _), List.take_length, List.take_append_drop]
  have a1 : ∀ t ∈ ts.take k, t.2.1 ≤ time := by
    intro t ht; obtain ⟨j, hj, _, rfl⟩ := mem_take_t3 ht; exact h1 j hj
  have a2 : ∀ t ∈ ts.drop k, ¬ t.2.1 ≤ time := by
    intro t ht
    obtain ⟨j, hkj, hj, rfl⟩ := mem_drop_t3 ht
    have e1 := h2 (by omega)
    have e2 : (t3 ts k).2.1 ≤ (t3 ts j).2.1 := by
      by_cases e : k = j
      · subst e; exact Int.le_refl _
      · exact lt_at (h j hj k (by omega))
    omega
  have f1 : (ts.take k).filter (fun t => decide (t.2.1 ≤ time)) = ts.take k := List.filter_eq_self.2 (fun t ht => by simpa using a1 t ht)
  have f2 : (ts.drop k).filter (fun t => decide (t.2.1 ≤ time)) = [] := List.filter_eq_nil_iff.2 (fun t ht => by simpa using a2 t ht)
  have f3 : (ts.take k).filter (fun t => !decide (t.2.1 ≤ time)) = [] := List.filter_eq_nil_iff.2 (fun t ht => by simpa using a1 t ht)
  have f4 : (ts.drop k).filter (fun t => !decide (t.2.1 ≤ time)) = ts.drop k := List.filter_eq_self.2 (fun t ht => by have := a2 t ht; simpa using this)
  unfold dueL latL
  rw [hm, List.filter_append, List.filter_append, f1, f2, f3, f4]
  simp
def idsT (ts : List T3) : List Int := ts.map (fun t => t.1)
/-- What AdvanceTo answers. -/
def advR (now sq : Int) (ts : List T3) (time : Int) : Int × Int × List T3 × List Int × Int :=
  if goodB now sq ts = true then (if time < now then (now, sq, ts, [], 5) else (time, sq, ts.drop (insK ts time), idsT (ts.take (insK ts time)), 0)) else (0, 0, [], [], 1)
theorem advR_len (now sq : Int) (ts : List T3) (time : Int) (h : ts.length ≤ 1048576) : (advR now sq ts time).2.2.1.length ≤ 1048576 ∧ (advR now sq ts time).2.2.2.1.length ≤ 1048576 := by
  unfold advR
  split
  · split
    · exact ⟨h, by simp⟩
    · exact ⟨by simp; omega, by simp [idsT]; omega⟩
  · simp
end Go.Proofs.Ytpbgkkemaioidaa.Old
