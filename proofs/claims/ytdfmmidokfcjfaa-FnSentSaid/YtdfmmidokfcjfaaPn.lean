
/- Plain facts: what is sent is received in its order. No conditions but those written. -/
import Derived.Test.YtdfmmidokfcjfaaOKb
namespace Go.Proofs.Ytdfmmidokfcjfaa.Old
open Go.RowKit

/-- All that a channel has to give, in its order. -/
def vals (b : List Int) (s : List T3) : List Int := b ++ s.map (fun t => t.2.2)
theorem good_open {kap : Int} {b : List Int} {s : List T3} : goodC kap false b s [] = true ↔ (0 ≤ kap ∧ kap ≤ 10) ∧ (b.length : Int) ≤ kap ∧ (s.length ≤ 40 ∧ ∀ t ∈ s, wtB t = true) ∧ (s.length = 0 ∨ kap ≤ (b.length : Int)) := by
  simp only [goodC, rowB, Bool.and_eq_true, Bool.or_eq_true, decide_eq_true_eq, List.all_eq_true]
  constructor
  · rintro ⟨⟨⟨⟨⟨h1, h2⟩, h3⟩, ⟨h4, h5⟩, _⟩, h6⟩, _⟩
    refine ⟨⟨h1, h2⟩, h3, ⟨h4, h5⟩, ?_⟩
    rcases h6 with h6 | h6
    · exact .inl h6
    · exact .inr h6.2
  · rintro ⟨⟨h1, h2⟩, h3, ⟨h4, h5⟩, h6⟩
    refine ⟨⟨⟨⟨⟨h1, h2⟩, h3⟩, ⟨h4, h5⟩, ?_⟩, ?_⟩, ?_⟩
    · simp
    · rcases h6 with h6 | h6
      · exact .inl h6
      · exact .inr ⟨by simp, h6⟩
    · simp
/-- A send that is done, or waits, on a channel where nobody waits to receive. -/
theorem send_open {kap : Int} {cl : Bool} {b : List Int} {s : List T3} {t : T3} {K : Int} {CL : Bool} {B : List Int} {S R : List T3} {W : List T4} {c : Int} (h : sendR kap cl b s [] t = (K, CL, B, S, R, W, c)) (hc : c ≤ 1) :
    cl = false ∧ K = kap ∧ CL = false ∧ R = [] ∧ goodC kap false B S [] = true ∧ vals B S = vals b s ++ [t.2.2] := by
  unfold sendR at h
  by_cases hg : (goodC kap cl b s [] && wtB t) = true
  case neg => rw [if_neg hg] at h; simp at h; omega
  rw [if_pos hg] at h
  simp only [Bool.and_eq_true] at hg
  cases cl
  case true => simp at h; omega
  obtain ⟨hk, hb, ⟨hs, hw⟩, h6⟩ := good_open.1 hg.1
  simp only [Bool.false_eq_true, if_false, List.length_nil, ne_eq, not_true_eq_false] at h
  by_cases hlt : (b.length : Int) < kap
  · rw [if_pos hlt] at h
    simp only [Prod.mk.injEq] at h
    obtain ⟨rfl, rfl, rfl, rfl, rfl, _, _⟩ := h
    have hs0 : s = [] := List.length_eq_zero_iff.1 (by omega)
    subst hs0
    refine ⟨rfl, rfl, rfl, rfl, good_open.2 ⟨hk, by simp; omega, ⟨by simp, by simp⟩, .inl rfl⟩, by simp [vals]⟩
  · rw [if_neg hlt] at h
    unfold moreW at h
    by_cases h40 : s.length = 40
    · simp only [if_pos h40, Prod.mk.injEq] at h
      omega
    · simp only [if_neg h40, Prod.mk.injEq] at h
      obtain ⟨rfl, rfl, rfl, rfl, rfl, _, _⟩ := h
      refine ⟨rfl, rfl, rfl, rfl, good_open.2 ⟨hk, hb, ⟨by simp; omega, ?_⟩, .inr (by omega)⟩, by simp [vals]⟩
      intro x hx
      rcases List.mem_append.1 hx with hx | hx
      · exact hw x hx
      · simp at hx; subst hx; exact hg.2
theorem w29 : (true && (wtB (29, 0, 0) && decide (((29, 0, 0) : T3).2.2 = 0))) = true := by decide
/-- What is received is the first of what there is. -/
theorem recv_step {kap : Int} {b : List Int} {s : List T3} {v : Int} {l : List Int} (hg : goodC kap false b s [] = true) (hv : vals b s = v :: l) :
    ∃ B S K, recvR kap false b s [] (29, 0, 0) = (kap, false, B, S, [], (29, 0, v, true) :: K, 0) ∧ goodC kap false B S [] = true ∧ vals B S = l := by
  rw [recvR_good (by rw [hg]; exact w29)]
  obtain ⟨hk, hb, ⟨hs, hw⟩, h6⟩ := good_open.1 hg
  unfold recvI
  cases b with
  | nil =>
    cases s with
    | nil => simp [vals] at hv
    | cons x r =>
      simp [vals] at hv
      obtain ⟨rfl, rfl⟩ := hv
      have hk0 : kap = 0 := by simp at h6 hb; omega
      refine ⟨[], r, [(x.1, x.2.1, 0, true)], by simp [t3], good_open.2 ⟨hk, by simp; omega, ⟨by simp at hs; omega, fun t ht => hw t (by simp [ht])⟩, .inr (by simp; omega)⟩, by simp [vals]⟩
  | cons y b =>
    cases s with
    | nil =>
      simp [vals] at hv
      obtain ⟨rfl, rfl⟩ := hv
      refine ⟨b, [], [], by simp [z0], good_open.2 ⟨hk, by simp at hb; omega, ⟨by simp, by simp⟩, .inl rfl⟩, by simp [vals]⟩
    | cons x r =>
      simp [vals] at hv
      obtain ⟨rfl, rfl⟩ := hv
      simp at h6 hb
      refine ⟨b ++ [x.2.2], r, [(x.1, x.2.1, 0, true)], by simp [t3, z0], good_open.2 ⟨hk, by simp; omega, ⟨by simp at hs; omega, fun t ht => hw t (by simp [ht])⟩, .inr (by simp; omega)⟩, by simp [vals]⟩
theorem recv_last {kap : Int} {b : List Int} {s : List T3} (hg : goodC kap false b s [] = true) (hv : vals b s = []) :
    recvR kap false b s [] (29, 0, 0) = (kap, false, [], [], [(29, 0, 0)], [], 1) := by
  rw [recvR_good (by rw [hg]; exact w29)]
  simp [vals] at hv
  obtain ⟨rfl, rfl⟩ := hv
  simp [recvI, moreW]
end Go.Proofs.Ytdfmmidokfcjfaa.Old
