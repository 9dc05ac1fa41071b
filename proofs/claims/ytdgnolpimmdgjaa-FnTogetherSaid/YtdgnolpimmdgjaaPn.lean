
/- Plain facts: what AddTo, GiveRoom and CancelScope answer is good. No conditions but those written. -/
import Derived.Test.YtdgnolpimmdgjaaPMhMi
import Derived.Test.YtdgnolpimmdgjaaPMjOk
import Derived.Test.YtdgnolpimmdgjaaPGfXa
import Derived.Test.YtdgnolpimmdgjaaPSbSl
namespace Go.Proofs.Ytdgnolpimmdgjaa
open Go.RowKit

theorem letR_all {s1 : Int} : ∀ (l : List (Int × Int)) (u : Int), (∀ x ∈ l, manyB s1 x = true) → 0 ≤ u → u ≤ s1 →
    (0 ≤ (letR s1 u l).1 ∧ (letR s1 u l).1 ≤ s1) ∧ firstB s1 (letR s1 u l).1 (letR s1 u l).2.1 = false ∧ ∃ j, j ≤ l.length ∧ (letR s1 u l).2.1 = l.drop j ∧ (letR s1 u l).2.2 = tasksOf (l.take j)
  | [], u, _, h0, h1 => ⟨⟨h0, h1⟩, rfl, 0, by simp, rfl, rfl⟩
  | (t, m) :: r, u, hm, h0, h1 => by
    by_cases h : m ≤ s1 - u
    · rw [letR_yes h]
      have hmm := hm (t, m) (by simp)
      simp [manyB] at hmm
      obtain ⟨a, b, j, hj, e1, e2⟩ := letR_all r (u + m) (fun x hx => hm x (by simp [hx])) (by omega) (by omega)
      refine ⟨a, b, j + 1, by simp; omega, ?_, ?_⟩
      · simpa using e1
      · simp only [List.take_succ_cons, tasksOf, List.map_cons]
        rw [e2]; rfl
    · rw [letR, if_neg h]
      refine ⟨⟨h0, h1⟩, ?_, 0, by simp, rfl, rfl⟩
      simp [firstB, el]; omega
theorem lineB_drop {q : List Int} (j : Nat) (h : lineB q = true) : lineB (q.drop j) = true := by
  simp only [lineB, Bool.and_eq_true, decide_eq_true_eq, List.all_eq_true] at h ⊢
  exact ⟨by simp; omega, fun x hx => h.2.1 x (List.mem_of_mem_drop hx), h.2.2.sublist (List.drop_sublist _ _)⟩
theorem room_all {s1 : Int} {l : List (Int × Int)} (h : ∀ j, j < l.length → manyB s1 (el l j) = true) : ∀ x ∈ l, manyB s1 x = true := by
  intro x hx
  obtain ⟨j, hj, e⟩ := mem_el hx
  rw [← e]; exact h j hj
theorem giveR_good {s1 s2 : Int} {l : List (Int × Int)} {k : Int} (h : (giveR s1 s2 l k).2.2.2.2 = 0) : roomB (giveR s1 s2 l k).1 (giveR s1 s2 l k).2.1 (giveR s1 s2 l k).2.2.1 = true ∧ (giveR s1 s2 l k).2.2.1.length + (giveR s1 s2 l k).2.2.2.1.length = l.length ∧ (giveR s1 s2 l k).1 = s1 := by
  unfold giveR at h ⊢
  split at h
  · next hc =>
    split at h
    · simp at h
    · next hk =>
      rw [if_pos hc, if_neg hk]
      obtain ⟨hg, hk0, hk1⟩ := hc
      obtain ⟨g1, g2, g3, g4⟩ := roomB_good hg
      obtain ⟨q1, q2, q3, q4⟩ := sizesB_ok g1
      obtain ⟨⟨a1, a2⟩, b, j, hj, e1, e2⟩ := letR_all (s1 := s1) l (s2 - k) (room_all g2) (by omega) (by omega)
      dsimp only
      refine ⟨?_, ?_, rfl⟩
      · rw [roomB_tail (by simp [sizesB]; omega) ?_ ?_, b]; rfl
        · intro i hi
          rw [e1] at hi ⊢
          rw [el_drop]
          exact g2 _ (by simp at hi; omega)
        · rw [e1]
          have : tasksOf (l.drop j) = (tasksOf l).drop j := by simp [tasksOf, List.map_drop]
          rw [this]; exact lineB_drop j g3
      · rw [e1, e2]
        simp [tasksOf]; omega
  · simp at h
theorem takeR_size {s1 s2 : Int} {l : List (Int × Int)} {t m : Int} (h : (takeR s1 s2 l t m).2.2.2 < 2) : (takeR s1 s2 l t m).1 = s1 ∧ (0 ≤ (takeR s1 s2 l t m).2.1 ∧ (takeR s1 s2 l t m).2.1 ≤ s1) ∧ (takeR s1 s2 l t m).2.2.1.length ≤ 31 := by
  unfold takeR at h ⊢
  split at h
  · next hc =>
    obtain ⟨q1, q2, q3, q4⟩ := sizesB_ok (roomB_good hc.1).1
    have hl := roomB_len hc.1
    rw [if_pos hc]
    repeat' split at h
    all_goals simp at h
    · next h1 h2 h3 => rw [if_neg h1, if_neg h2, if_pos h3]; refine ⟨rfl, ⟨?_, ?_⟩, ?_⟩ <;> dsimp only <;> omega
    · next h1 h2 h3 => rw [if_neg h1, if_neg h2, if_neg h3]; refine ⟨rfl, ⟨?_, ?_⟩, ?_⟩ <;> simp <;> omega
  · simp at h
theorem giveR_size {s1 s2 : Int} {l : List (Int × Int)} {k : Int} (h : (giveR s1 s2 l k).2.2.2.2 < 2) : (giveR s1 s2 l k).1 = s1 ∧ (0 ≤ (giveR s1 s2 l k).2.1 ∧ (giveR s1 s2 l k).2.1 ≤ s1) ∧ (giveR s1 s2 l k).2.2.1.length ≤ 31 := by
  have h0 : (giveR s1 s2 l k).2.2.2.2 = 0 := by
    unfold giveR at h ⊢
    split at h
    · next hc => split at h
                 · simp at h
                 · next hk => rw [if_pos hc, if_neg hk]
    · simp at h
  obtain ⟨a, b, c⟩ := giveR_good h0
  obtain ⟨q1, q2, q3, q4⟩ := sizesB_ok (roomB_good a).1
  exact ⟨c, ⟨q3, by omega⟩, by have := roomB_len a; omega⟩
theorem addR_good {cnt : Int} {q : List Int} {k : Int} (h : (addR cnt q k).2.2.2 = 0) : groupB (addR cnt q k).1 (addR cnt q k).2.1 = true ∧ ((addR cnt q k).1 = 0 → (addR cnt q k).2.2.1 = q) := by
  unfold addR at h ⊢
  split at h
  · next hc =>
    rw [if_pos hc]
    split at h
    · next h1 =>
      rw [if_pos h1]
      split at h
      · next h2 => rw [if_pos h2]; exact ⟨by simp [groupB, lineB], fun _ => rfl⟩
      · next h2 =>
        rw [if_neg h2]
        refine ⟨?_, fun e => absurd e h2⟩
        obtain ⟨_, _, g3, _⟩ := groupB_good hc.1
        rw [groupB_tail (by simp; omega) g3]; simp; omega
    · simp at h
  · simp at h
section
variable {f : Nat → Sc → Bool} {l : List Sc}
theorem endTo_same : ∀ (j i : Nat), (el (endTo f 1 l j).1 i).1 = (el l i).1 ∧ (el (endTo f 1 l j).1 i).2.1 = (el l i).2.1 ∧ ((el l i).2.2 ≠ 0 → (el (endTo f 1 l j).1 i).2.2 = (el l i).2.2) ∧ ((el l i).2.2 = 0 → (el (endTo f 1 l j).1 i).2.2 = 0 ∨ (el (endTo f 1 l j).1 i).2.2 = 1)
  | 0, i => ⟨rfl, rfl, fun _ => rfl, fun h => .inl h⟩
  | j + 1, i => by
    have ih := endTo_same j i
    rw [endTo]
    split
    · next hc =>
      by_cases e : i = j
      · subst e
        by_cases hl : i < (endTo f 1 l i).1.length
        · have es : el ((endTo f 1 l i).1.set i ((el (endTo f 1 l i).1 i).1, (el (endTo f 1 l i).1 i).2.1, 1)) i = ((el (endTo f 1 l i).1 i).1, (el (endTo f 1 l i).1 i).2.1, 1) := by simp [el, hl]
          rw [es]
          simp only [Bool.and_eq_true, beq_iff_eq] at hc
          refine ⟨ih.1, ih.2.1, fun h => ?_, fun _ => .inr rfl⟩
          have := ih.2.2.1 h
          rw [hc.2] at this; exact absurd this.symm h
        · rw [List.set_eq_of_length_le (by omega)]; exact ih
      · rw [el_set_other (by omega)]; exact ih
    · exact ih
theorem endTo_mem {j : Nat} {x : Int} : ∀ i, x ∈ (endTo f 1 l j).2 → x ∈ (endTo f 1 l (j + i)).2
  | 0, h => h
  | i + 1, h => by
    have ih := endTo_mem i h
    rw [← Nat.add_assoc, endTo]
    split
    · simp [ih]
    · exact ih
theorem endTo_to (j : Nat) (i : Nat) (hi : i < j) : ∀ d, el (endTo f 1 l (j + d)).1 i = el (endTo f 1 l j).1 i
  | 0 => rfl
  | d + 1 => by rw [← Nat.add_assoc, endTo_before f 1 l (j + d) i (by omega)]; exact endTo_to j i hi d
theorem endTo_above (hs : ∀ j, j < l.length → scB l j = true) (i : Nat) (hi : i < l.length) : ¬ (aboveB (endTo f 1 l l.length).1 (el l i).1 = true ∧ (el (endTo f 1 l l.length).1 i).2.2 = 0) := by
  rintro ⟨ha, h0⟩
  obtain ⟨d, hd⟩ : ∃ d, l.length = (i + 1) + d := ⟨l.length - (i + 1), by omega⟩
  have hsc := hs i hi
  simp only [scB, Bool.and_eq_true] at hsc
  have hup := hsc.1.2
  have hlt : (el l i).1 = -1 ∨ (0 ≤ (el l i).1 ∧ (el l i).1.toNat < i) := by
    simp only [upB] at hup
    split at hup
    · exact .inl (by simpa using hup)
    · simp at hup; omega
  rcases hlt with hm | ⟨hu0, hul⟩
  · rw [hm] at ha; simp [aboveB] at ha
  · have e1 : el (endTo f 1 l l.length).1 (el l i).1.toNat = el (endTo f 1 l i).1 (el l i).1.toNat := by
      rw [hd, endTo_to (i + 1) _ (by omega) d, endTo_before f 1 l i _ hul]
    have e2 : el (endTo f 1 l l.length).1 i = el (endTo f 1 l (i + 1)).1 i := by
      rw [hd, endTo_to (i + 1) i (by omega) d]
    have ha' : aboveB (endTo f 1 l i).1 (el l i).1 = true := by
      simp only [aboveB] at ha ⊢
      rw [e1] at ha; exact ha
    rw [e2, endTo, endTo_rest f 1 l i i (Nat.le_refl _)] at h0
    split at h0
    · have hl' : i < (endTo f 1 l i).1.length := by rw [endTo_len]; exact hi
      simp [el, hl'] at h0
    · next hc =>
      rw [endTo_rest f 1 l i i (Nat.le_refl _)] at h0
      apply hc
      rw [ha', h0]; simp
end
theorem cancelR_good {l : List Sc} {k : Int} (h : (cancelR l k).2.2 = 0) : scopesB (cancelR l k).1 = true ∧ hasB (cancelR l k).2.1 k = true ∧ (cancelR l k).1.length = l.length ∧ l.length ≤ 20 ∧
    ∀ i, i < l.length → (-1 ≤ (el (cancelR l k).1 i).1 ∧ (el (cancelR l k).1 i).1 < i) ∧ ¬ (0 ≤ (el (cancelR l k).1 i).1 ∧ (el (cancelR l k).1 (el (cancelR l k).1 i).1.toNat).2.2 ≠ 0 ∧ (el (cancelR l k).1 i).2.2 = 0) ∧ ¬ ((el l i).2.2 ≠ 0 ∧ (el (cancelR l k).1 i).2.2 ≠ (el l i).2.2) := by
  unfold cancelR at h ⊢
  split at h
  · next hc =>
    rw [if_pos hc]
    obtain ⟨hs, hk0, hk1⟩ := hc
    obtain ⟨h20, hsc⟩ := scopesB_good hs
    split at h
    · next hw =>
      rw [if_pos hw]
      obtain ⟨u, rfl⟩ : ∃ u : Nat, k = u := ⟨k.toNat, by omega⟩
      have hul : u < l.length := by omega
      dsimp only
      have hab := fun i hi => endTo_above (f := isB (u : Int)) hsc i hi
      have hsm := fun i => endTo_same (f := isB (u : Int)) (l := l) l.length i
      have hup : ∀ i, i < l.length → (-1 ≤ (el l i).1 ∧ (el l i).1 < i) ∧ upB i (el l i).1 = true := by
        intro i hi
        have := hsc i hi
        simp only [scB, Bool.and_eq_true] at this
        refine ⟨?_, this.1.2⟩
        have h2 := this.1.2
        simp only [upB] at h2
        split at h2
        · simp at h2; omega
        · simp at h2; omega
      refine ⟨scopesB_end (by rw [endTo_len]; exact h20) ?_, ?_, endTo_len _ _ _ _, h20, ?_⟩
      · intro j hj
        rw [endTo_len] at hj
        obtain ⟨e1, e2, e3, e4⟩ := hsm j
        have hj2 := hsc j hj
        simp only [scB, Bool.and_eq_true] at hj2 ⊢
        rw [e1, e2]
        refine ⟨⟨?_, hj2.1.2⟩, ?_⟩
        · have hb := hj2.1.1
          simp only [endB, Bool.and_eq_true, decide_eq_true_eq] at hb ⊢
          by_cases hz : (el l j).2.2 = 0
          · rcases e4 hz with e | e <;> rw [e] <;> omega
          · rw [e3 hz]; omega
        · have := hab j hj
          cases hA : aboveB (endTo (isB (u : Int)) 1 l l.length).1 (el l j).1
          · rfl
          · simp only [hA, true_and] at this
            simpa using this
      · simp only [hasB, decide_eq_true_eq]
        obtain ⟨d, hd⟩ : ∃ d, l.length = (u + 1) + d := ⟨l.length - (u + 1), by omega⟩
        rw [hd]
        apply endTo_mem
        rcases hy : el l u with ⟨y1, y2, y3⟩
        have hw' : (el l u).2.2 = 0 := hw
        rw [hy] at hw'
        dsimp only at hw'
        subst hw'
        rw [endTo_yes hy (by simp [isB])]
        simp
      · intro i hi
        obtain ⟨e1, e2, e3, e4⟩ := hsm i
        rw [e1]
        refine ⟨(hup i hi).1, ?_, ?_⟩
        · rintro ⟨a, b, c⟩
          exact hab i hi ⟨by simp only [aboveB]; simp [b]; omega, c⟩
        · rintro ⟨a, b⟩; exact b (e3 a)
    · simp at h
  · simp at h
end Go.Proofs.Ytdgnolpimmdgjaa
