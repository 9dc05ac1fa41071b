
/- What becomes of letters: plain facts. No conditions but those written. -/
import Derived.Test.YtnnlbnbamhkcaaaXl
import Derived.Test.YtnnlbnbamhkcaaaEb
import Derived.Test.YtnnlbnbamhkcaaaEf
import Derived.Test.YtnnlbnbamhkcaaaEk
namespace Go.Proofs.Ytnnlbnbamhkcaaa
open Go.RowKit

theorem goodX_mk {kap : Int} {b : List Int} {s r : List (Int × Int × Int)} (h1 : 1 ≤ kap) (h2 : kap ≤ 30) (h3 : b.length ≤ 30) (h4 : (s.length : Int) + r.length ≤ kap) (h5 : (idsOf s ++ idsOf r).Nodup) (h6 : triesB 0 s = true) (h7 : triesB 1 r = true) : goodX kap b s r = true := by
  simp [goodX, onceB, h1, h2, h3, h4, h5, h6, h7]
theorem triesB_mem {n : Int} {l : List (Int × Int × Int)} : triesB n l = true ↔ ∀ t ∈ l, n ≤ t.2.2 ∧ t.2.2 ≤ 1000 := by
  simp [triesB, List.all_eq_true]
theorem tryV_is {t : Int} (h0 : 0 ≤ t) (h1 : t ≤ 1000) : 1 ≤ tryV t ∧ tryV t ≤ 1000 := by
  unfold tryV; split <;> omega
section
variable {kap : Int} {b : List Int} {t0 : Int × Int × Int} {P r : List (Int × Int × Int)}
/-- A letter as it is handed out. -/
def handed (t : Int × Int × Int) : Int × Int × Int := (t.1, t.2.1, tryV t.2.2)
theorem ids_cons : idsOf (t0 :: P) = t0.1 :: idsOf P := rfl
theorem ids_snoc : idsOf (r ++ [handed t0]) = idsOf r ++ [t0.1] := by simp [idsOf, handed]
theorem perm_take : ((t0.1 :: idsOf P) ++ idsOf r).Perm (idsOf P ++ (idsOf r ++ [t0.1])) := by
  rw [List.cons_append, ← List.append_assoc]
  exact (List.perm_append_singleton _ _).symm
theorem fst_off (hg : goodX kap b (t0 :: P) r = true) : t0.1 ∉ idsOf P ++ idsOf r := by
  have h := (goodX_good hg).2.2.2.2.1
  rw [ids_cons, List.cons_append, List.nodup_cons] at h
  exact h.1
theorem taken_good (hg : goodX kap b (t0 :: P) r = true) : goodX kap b P (r ++ [handed t0]) = true := by
  obtain ⟨h1, h2, h3, h4, h5, h6, h7⟩ := goodX_good hg
  refine goodX_mk h1 h2 h3 (by simp at h4 ⊢; omega) ?_ ?_ ?_
  · rw [ids_snoc]
    exact perm_take.nodup_iff.1 h5
  · rw [triesB_mem] at h6 ⊢
    exact fun t ht => h6 t (List.mem_cons_of_mem _ ht)
  · rw [triesB_mem] at h6 h7 ⊢
    intro t ht
    rcases List.mem_append.1 ht with ht | ht
    · exact h7 t ht
    · rw [List.mem_singleton] at ht
      subst ht
      have := h6 t0 (List.mem_cons_self)
      exact tryV_is this.1 this.2
theorem taken_ids (v : Int) (hv : v ∈ idsOf (t0 :: P) ++ idsOf r) : hasB (idsOf P ++ idsOf (r ++ [handed t0])) v = true := by
  rw [ids_snoc]
  simp only [hasB, decide_eq_true_eq]
  exact perm_take.mem_iff.1 hv
theorem taken_len : (idsOf P ++ idsOf (r ++ [handed t0])).length = (idsOf (t0 :: P) ++ idsOf r).length := by
  simp [idsOf]; omega
theorem back_good (hg : goodX kap b P r = true) : goodX kap b (r ++ P) [] = true := by
  obtain ⟨h1, h2, h3, h4, h5, h6, h7⟩ := goodX_good hg
  refine goodX_mk h1 h2 h3 (by simp; omega) ?_ ?_ (by rfl)
  · have e : idsOf (r ++ P) ++ idsOf [] = idsOf r ++ idsOf P := by simp [idsOf]
    rw [e]
    exact (List.perm_append_comm).nodup_iff.1 h5
  · rw [triesB_mem] at h6 h7 ⊢
    intro t ht
    rcases List.mem_append.1 ht with ht | ht
    · have := h7 t ht; omega
    · exact h6 t ht
theorem done_has : hasB (idsOf (r ++ [handed t0])) t0.1 = true := by
  rw [ids_snoc]; simp [hasB]
theorem done_filter (hg : goodX kap b (t0 :: P) r = true) : (r ++ [handed t0]).filter (fun t => t.1 != t0.1) = r := by
  have h := fst_off hg
  have e : r.filter (fun t => t.1 != t0.1) = r := by
    rw [List.filter_eq_self]
    intro t ht
    have : t.1 ≠ t0.1 := fun e => h (List.mem_append_right _ (by rw [← e]; exact List.mem_map_of_mem ht))
    simpa using this
  rw [List.filter_append, e]
  simp [handed]
theorem done_good (hg : goodX kap b (t0 :: P) r = true) : goodX kap b P r = true := by
  obtain ⟨h1, h2, h3, h4, h5, h6, h7⟩ := goodX_good hg
  refine goodX_mk h1 h2 h3 (by simp at h4 ⊢; omega) ?_ ?_ h7
  · rw [ids_cons, List.cons_append, List.nodup_cons] at h5; exact h5.2
  · rw [triesB_mem] at h6 ⊢
    exact fun t ht => h6 t (List.mem_cons_of_mem _ ht)
theorem done_off (hg : goodX kap b (t0 :: P) r = true) : hasB (idsOf P ++ idsOf r) t0.1 = false := by
  simp only [hasB, decide_eq_false_iff_not]; exact fst_off hg
theorem done_len : (idsOf P ++ idsOf r).length + 1 = (idsOf (t0 :: P) ++ idsOf r).length := by
  simp [idsOf] <;> omega
theorem take_was {cl : Bool} {s : List (Int × Int × Int)} (hc : (takeR kap cl b s r).2.2.2.2.2.2.2.2.2 = 0) (hb : b.length = 0) : ∃ t0 P, s = t0 :: P ∧ goodX kap b (t0 :: P) r = true ∧ takeR kap cl b s r = (kap, cl, b, P, r ++ [handed t0], 0, t0.1, t0.2.1, tryV t0.2.2, 0) := by
  unfold takeR at hc ⊢
  split at hc
  · rename_i hg
    rw [if_neg (by omega)] at hc
    split at hc
    · rename_i hs
      cases s with
      | nil => simp at hs
      | cons t0 P => exact ⟨t0, P, rfl, hg, by rw [if_pos hg, if_neg (by omega), if_pos hs]; rfl⟩
    · simp at hc
  · simp at hc
end
theorem lettersR_of {kap : Int} {b : List Int} {s r : List (Int × Int × Int)} (h : goodX kap b s r = true) : lettersR kap b s r = (idsOf s ++ idsOf r, true) := by rw [lettersR, if_pos h]
theorem giveR_of {kap : Int} {cl : Bool} {b : List Int} {s r : List (Int × Int × Int)} (h : goodX kap b s r = true) : giveR kap cl b s r = (kap, cl, b, r ++ s, [], 0) := by rw [giveR, if_pos h]
theorem doneR_of {kap : Int} {cl : Bool} {b : List Int} {t0 : Int × Int × Int} {P r : List (Int × Int × Int)} (h : goodX kap b (t0 :: P) r = true) : doneR kap cl b P (r ++ [handed t0]) t0.1 = (kap, cl, b, P, r, 0) := by
  rw [doneR, if_pos (taken_good h), if_pos done_has, done_filter h]
end Go.Proofs.Ytnnlbnbamhkcaaa
