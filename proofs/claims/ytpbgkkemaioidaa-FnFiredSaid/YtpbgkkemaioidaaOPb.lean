
/- Plain facts on good clocks: how their timers are ordered, where a new one comes in. No conditions but those written. -/
import Derived.Test.YtpbgkkemaioidaaOHa
namespace Go.Proofs.Ytpbgkkemaioidaa.Old

theorem good_parts {now sq : Int} {ts : List T3} (h : goodB now sq ts = true) : 0 ≤ now ∧ 0 ≤ sq ∧ sq ≤ 1000000 ∧ ts.length ≤ 30 ∧ ∀ j, j < ts.length → rowB now sq ts j = true := by
  unfold goodB at h
  simp only [Bool.and_eq_true, List.all_eq_true, List.mem_range, decide_eq_true_eq] at h
  exact ⟨h.1.1.1, h.1.1.2.1, h.1.1.2.2, h.1.2, h.2⟩
theorem row_parts {now sq : Int} {ts : List T3} {j : Nat} (h : rowB now sq ts j = true) : now ≤ (t3 ts j).2.1 ∧ 1 ≤ (t3 ts j).2.2 ∧ (t3 ts j).2.2 ≤ sq ∧ (j = 0 ∨ beforeB (t3 ts (j - 1)) (t3 ts j) = true) := by
  unfold rowB at h
  simp only [Bool.and_eq_true, Bool.or_eq_true, decide_eq_true_eq] at h
  exact ⟨h.1.1, h.1.2.1, h.1.2.2, h.2.2⟩
theorem good_sorted {now sq : Int} {ts : List T3} (h : goodB now sq ts = true) : ∀ j, j < ts.length → ∀ i, i < j → ltT ts i j = true := by
  intro j
  induction j with
  | zero => intro _ i hi; omega
  | succ j ih =>
    intro hj i hi
    have hr := (row_parts ((good_parts h).2.2.2.2 (j + 1) hj)).2.2.2
    have hb : ltT ts j (j + 1) = true := by
      rcases hr with e | e
      · omega
      · exact e
    by_cases e : i = j
    · subst e; exact hb
    · exact (ltT_sw ts).trans _ _ _ (ih (by omega) i (by omega)) hb
theorem lt_at {ts : List T3} {i j : Nat} (h : ltT ts i j = true) : (t3 ts i).2.1 ≤ (t3 ts j).2.1 := by
  unfold ltT at h; rw [before_iff] at h; omega

/-- How many at the front come at or before a. -/
def insK : List T3 → Int → Nat
  | [], _ => 0
  | t :: r, a => if t.2.1 ≤ a then insK r a + 1 else 0
def Ins (ts : List T3) (a : Int) (k : Nat) : Prop := k ≤ ts.length ∧ (∀ j, j < k → (t3 ts j).2.1 ≤ a) ∧ (k < ts.length → a < (t3 ts k).2.1)
theorem insK_ins : ∀ (ts : List T3) (a : Int), Ins ts a (insK ts a)
  | [], a => ⟨Nat.le_refl _, fun j hj => by simp [insK] at hj, fun h => by simp at h⟩
  | t :: r, a => by
    have ih := insK_ins r a
    by_cases h : t.2.1 ≤ a
    · simp only [insK, h, if_true]
      refine ⟨by have := ih.1; simp; omega, fun j hj => ?_, fun hk => ?_⟩
      · cases j with
        | zero => simpa [t3] using h
        | succ j => have := ih.2.1 j (by omega); simpa [t3] using this
      · have := ih.2.2 (by simpa using hk); simpa [t3] using this
    · simp only [insK, h, if_false]
      exact ⟨Nat.zero_le _, fun j hj => by omega, fun _ => by simp [t3]; omega⟩
theorem Ins.eq {ts : List T3} {a : Int} {k : Nat} (h : Ins ts a k) : k = insK ts a := by
  have h' := insK_ins ts a
  rcases Nat.lt_trichotomy k (insK ts a) with e | e | e
  · have h1 := h'.2.1 k e; have h2 := h.2.2 (by have := h'.1; omega); omega
  · exact e
  · have h1 := h.2.1 _ e; have h2 := h'.2.2 (by have := h.1; omega); omega
/-- The list with t where it belongs. -/
def insT (ts : List T3) (t : T3) : List T3 := ts.take (insK ts t.2.1) ++ t :: ts.drop (insK ts t.2.1)
theorem insT_len (ts : List T3) (t : T3) : (insT ts t).length = ts.length + 1 := by
  have := (insK_ins ts t.2.1).1
  simp [insT]; omega
def insS (n k : Nat) : List Nat := List.range k ++ n :: (List.range (n - k)).map (fun i => k + i)
theorem range_split (n k : Nat) (h : k ≤ n) : List.range n = List.range k ++ (List.range (n - k)).map (fun i => k + i) := by
  have : n = k + (n - k) := by omega
  conv => lhs; rw [this, List.range_add]
theorem insS_perm (n k : Nat) (h : k ≤ n) : (insS n k).Perm (List.range (n + 1)) := by
  rw [List.range_succ, range_split n k h, insS]
  exact List.perm_middle.trans (List.perm_append_comm (l₁ := [n]))
theorem t3_app_l {ts : List T3} {t : T3} {i : Nat} (h : i < ts.length) : t3 (ts ++ [t]) i = t3 ts i := by simp [t3, h, List.getElem?_append_left]
theorem t3_app_r (ts : List T3) (t : T3) : t3 (ts ++ [t]) ts.length = t := by simp [t3]
theorem ltT_app {ts : List T3} {t : T3} {i j : Nat} (hi : i < ts.length) (hj : j < ts.length) : ltT (ts ++ [t]) i j = ltT ts i j := by
  unfold ltT; rw [t3_app_l hi, t3_app_l hj]
theorem insS_sorted {ts : List T3} {t : T3} (hs : ∀ j, j < ts.length → ∀ i, i < j → ltT ts i j = true) (hq : ∀ j, j < ts.length → (t3 ts j).2.2 < t.2.2) : (insS ts.length (insK ts t.2.1)).Pairwise (fun a b => ltT (ts ++ [t]) a b = true) := by
  obtain ⟨hk, h1, h2⟩ := insK_ins ts t.2.1
  generalize insK ts t.2.1 = k at *
  unfold insS
  rw [List.pairwise_append]
  refine ⟨?_, ?_, ?_⟩
  · refine List.Pairwise.imp_of_mem ?_ List.pairwise_lt_range
    intro a b ha hb hab
    have ha := List.mem_range.1 ha
    have hb := List.mem_range.1 hb
    rw [ltT_app (by omega) (by omega)]; exact hs b (by omega) a hab
  · rw [List.pairwise_cons]
    refine ⟨fun b hb => ?_, ?_⟩
    · obtain ⟨i, hi, rfl⟩ := List.mem_map.1 hb
      have hi := List.mem_range.1 hi
      have e1 : t.2.1 < (t3 ts k).2.1 := h2 (by omega)
      have e2 : (t3 ts k).2.1 ≤ (t3 ts (k + i)).2.1 := by
        by_cases e : i = 0
        · subst e; exact Int.le_refl _
        · exact lt_at (hs (k + i) (by omega) k (by omega))
      unfold ltT; rw [t3_app_r, t3_app_l (by omega), before_iff]; omega
    · rw [List.pairwise_map]
      refine List.Pairwise.imp_of_mem ?_ List.pairwise_lt_range
      intro a b ha hb hab
      have ha := List.mem_range.1 ha
      have hb := List.mem_range.1 hb
      rw [ltT_app (by omega) (by omega)]; exact hs (k + b) (by omega) (k + a) (by omega)
  · intro a ha b hb
    have ha := List.mem_range.1 ha
    rcases List.mem_cons.1 hb with rfl | hb
    · have e1 := h1 a ha
      have e2 := hq a (by omega)
      unfold ltT; rw [t3_app_r, t3_app_l (by omega), before_iff]; omega
    · obtain ⟨i, hi, rfl⟩ := List.mem_map.1 hb
      have hi := List.mem_range.1 hi
      rw [ltT_app (by omega) (by omega)]; exact hs (k + i) (by omega) a (by omega)
theorem map_range_take (ts : List T3) (k : Nat) (h : k ≤ ts.length) : (List.range k).map (t3 ts) = ts.take k := by
  apply List.ext_getElem?
  intro i
  by_cases hi : i < k
  · have : i < ts.length := by omega
    simp [hi, this, t3]
  · rw [List.getElem?_eq_none (by simp; omega), List.getElem?_eq_none (by simp; omega)]
theorem map_range_drop (ts : List T3) (k : Nat) : (List.range (ts.length - k)).map (fun i => t3 ts (k + i)) = ts.drop k := by
  apply List.ext_getElem?
  intro i
  by_cases hi : i < ts.length - k
  · have : k + i < ts.length := by omega
    simp [hi, this, t3]
  · rw [List.getElem?_eq_none (by simp; omega), List.getElem?_eq_none (by simp; omega)]
theorem insS_map (ts : List T3) (t : T3) : (insS ts.length (insK ts t.2.1)).map (t3 (ts ++ [t])) = insT ts t := by
  obtain ⟨hk, _, _⟩ := insK_ins ts t.2.1
  unfold insT
  generalize insK ts t.2.1 = k at *
  unfold insS
  rw [List.map_append, List.map_cons, t3_app_r, List.map_map]
  congr 1
  · rw [← map_range_take ts k hk]
    apply List.map_congr_left
    intro i hi; exact t3_app_l (by have := List.mem_range.1 hi; omega)
  · congr 1
    rw [← map_range_drop ts k]
    apply List.map_congr_left
    intro i hi
    have hi := List.mem_range.1 hi
    exact t3_app_l (t := t) (i := k + i) (by omega)
end Go.Proofs.Ytpbgkkemaioidaa.Old
