
/- Plain facts: what fires in pieces is what fires at once. No conditions but those written. -/
import Derived.Test.YtpbgkkemaioidaaOJa
namespace Go.Proofs.Ytpbgkkemaioidaa.Old
open Go.RowKit

theorem t3_drop (ts : List T3) (k j : Nat) : t3 (ts.drop k) j = t3 ts (k + j) := by simp [t3]
theorem row_clash {now sq : Int} {ts : List T3} {k : Nat} (h : rowB now sq ts k = true) : ∀ j, j < k → clashB (t3 ts j) (t3 ts k) = false := by
  unfold rowB at h
  simp only [Bool.and_eq_true, List.all_eq_true, List.mem_range] at h
  intro j hj
  simpa using h.2.1 j hj
theorem insK_add : ∀ (ts : List T3) {a b : Int}, a ≤ b → insK ts b = insK ts a + insK (ts.drop (insK ts a)) b
  | [], a, b, _ => by simp [insK]
  | t :: r, a, b, h => by
    by_cases h1 : t.2.1 ≤ a
    · have h2 : t.2.1 ≤ b := by omega
      have ih := insK_add r h
      simp only [insK, if_pos h1, if_pos h2, List.drop_succ_cons]
      omega
    · have e : insK (t :: r) a = 0 := by simp only [insK, if_neg h1]
      rw [e]; simp
/-- What is left behind a time is a good clock at that time. -/
theorem good_drop {now sq : Int} {ts : List T3} {a : Int} (h : goodB now sq ts = true) (ha : now ≤ a) : goodB a sq (ts.drop (insK ts a)) = true := by
  obtain ⟨h0, h1, h2, h3, h4⟩ := good_parts h
  obtain ⟨k1, k2, k3⟩ := insK_ins ts a
  have hs := good_sorted h
  generalize insK ts a = k at *
  refine goodB_end a sq _ (by omega) h1 h2 (by simp; omega) fun j hj => ?_
  have hj' : k + j < ts.length := by simp at hj; omega
  obtain ⟨r1, r2, r3, r4⟩ := row_parts (h4 _ hj')
  have rc := row_clash (h4 _ hj')
  refine rowB_end a sq _ j ?_ (by rw [t3_drop]; exact r2) (by rw [t3_drop]; exact r3) (fun i hi => by rw [t3_drop, t3_drop]; exact rc _ (by omega)) ?_
  · rw [t3_drop]
    have hk := k3 (by omega)
    rcases Nat.eq_zero_or_pos j with e | e
    · subst e; rw [Nat.add_zero]; omega
    · have := lt_at (hs (k + j) hj' k (by omega)); omega
  · rcases Nat.eq_zero_or_pos j with e | e
    · exact .inl e
    · refine .inr ?_
      rw [t3_drop, t3_drop]
      rcases r4 with r4 | r4
      · omega
      · rw [show k + (j - 1) = k + j - 1 from by omega]; exact r4
theorem adv_zero {now sq : Int} {ts : List T3} {t : Int} (h : (advR now sq ts t).2.2.2.2 = 0) : goodB now sq ts = true ∧ now ≤ t ∧ advR now sq ts t = (t, sq, ts.drop (insK ts t), idsT (ts.take (insK ts t)), 0) := by
  unfold advR at h ⊢
  by_cases hg : goodB now sq ts = true
  case neg => rw [if_neg hg] at h; simp at h
  rw [if_pos hg] at h ⊢
  by_cases hn : t < now
  case pos => rw [if_pos hn] at h; simp at h
  rw [if_neg hn]
  exact ⟨hg, by omega, rfl⟩
theorem adv_is {now sq : Int} {ts : List T3} {t : Int} (hg : goodB now sq ts = true) (hn : now ≤ t) : advR now sq ts t = (t, sq, ts.drop (insK ts t), idsT (ts.take (insK ts t)), 0) := by
  unfold advR; rw [if_pos hg, if_neg (by omega)]
/-- All that the law asks of what fires. -/
theorem fired_all {now sq : Int} {ts : List T3} {t mid N : Int} {S : Int} {L : List T3} {l : List Int} (h : advR now sq ts t = (N, S, L, l, 0)) (h1 : now ≤ mid) (h2 : mid ≤ t) :
    ∃ (L1 L2 : List T3) (l1 l2 : List Int), advR now sq ts mid = (mid, sq, L1, l1, 0) ∧ advR mid sq L1 t = (t, sq, L2, l2, 0) ∧ l1 ++ l2 = l ∧ L2.length = L.length ∧ L1.length ≤ ts.length ∧ N = t ∧ S = sq ∧ goodB t sq L = true ∧ (∀ x r, L = x :: r → t < x.2.1) ∧ l.length ≤ ts.length ∧ L.length ≤ ts.length := by
  obtain ⟨hg, hn, e⟩ := adv_zero (now := now) (sq := sq) (ts := ts) (t := t) (by rw [h])
  rw [h] at e
  simp only [Prod.mk.injEq, and_true] at e
  obtain ⟨rfl, rfl, rfl, rfl⟩ := e
  have hk := insK_add ts h2
  have hg1 := good_drop hg h1
  refine ⟨_, _, _, _, adv_is hg h1, adv_is hg1 h2, ?_, ?_, by simp, rfl, rfl, good_drop hg hn, ?_, by simp [idsT]; omega, by simp⟩
  · rw [hk, List.take_add]; simp [idsT]
  · rw [hk]; simp
  · intro x r e
    obtain ⟨_, _, k3⟩ := insK_ins ts N
    have hl : insK ts N < ts.length := by
      have := congrArg List.length e; simp at this; omega
    have := k3 hl
    have hx : t3 (ts.drop (insK ts N)) 0 = x := by rw [e]; simp [t3]
    rw [t3_drop, Nat.add_zero] at hx
    rw [← hx]; exact this
end Go.Proofs.Ytpbgkkemaioidaa.Old
