
/- Merging, in plain words. No conditions but those written. -/
import Derived.Test.YtnjnnilmelmmgaaNd
namespace Go.Proofs.Ytnjnnilmelmmgaa
open Go.RowKit

/-- The lists that have something; the draw of a turn. -/
def nonE (ls : List (List Int)) : List (List Int) := ls.filter fun l => decide (0 < l.length)
def dr (ds : List Int) (m : Nat) : Int := if m < ds.length then el ds m else 0
def mplace (ds : List Int) (s : List Int × List (List Int)) : Nat := (dr ds s.1.length % (s.2.length : Int)).toNat
def mstep (ds : List Int) (s : List Int × List (List Int)) : List Int × List (List Int) :=
  (s.1 ++ [el (el s.2 (mplace ds s)) 0], nonE (s.2.set (mplace ds s) ((el s.2 (mplace ds s)).drop 1)))
def mrun (ds : List Int) (s : List Int × List (List Int)) : Nat → List Int × List (List Int)
  | 0 => s
  | n + 1 => mstep ds (mrun ds s n)
def mgOk (ls : List (List Int)) : Bool := decide (ls.length ≤ 10) && decide (tot ls ≤ 100)
def mg (ls : List (List Int)) (ds : List Int) : List Int := (mrun ds ([], nonE ls) (tot ls)).1
def mgR (ls : List (List Int)) (ds : List Int) : List Int × Bool := if mgOk ls then (mg ls ds, true) else ([], false)
theorem tot_cons (l : List Int) (r : List (List Int)) : tot (l :: r) = l.length + tot r := by simp [tot]
theorem nonE_tot (ls : List (List Int)) : tot (nonE ls) = tot ls := by
  induction ls with
  | nil => rfl
  | cons l r ih =>
    unfold nonE at ih ⊢
    by_cases h : 0 < l.length
    · rw [List.filter_cons_of_pos (by simpa using h), tot_cons, tot_cons, ih]
    · rw [List.filter_cons_of_neg (by simpa using h), tot_cons, ih]; omega
theorem nonE_all {ls : List (List Int)} {l : List Int} (h : l ∈ nonE ls) : 0 < l.length := by simpa using (List.mem_filter.1 h).2
theorem nonE_le (ls : List (List Int)) : (nonE ls).length ≤ ls.length := List.length_filter_le _ _
theorem nonE_nonE (ls : List (List Int)) : nonE (nonE ls) = nonE ls := by simp [nonE]
theorem tot_drop1 : ∀ (ls : List (List Int)) (k : Nat), k < ls.length → 0 < (el ls k).length → tot (ls.set k ((el ls k).drop 1)) + 1 = tot ls
  | [], k, h, _ => by simp at h
  | l :: r, 0, _, h0 => by
    rw [el_zero] at h0 ⊢
    rw [List.set_cons_zero, tot_cons, tot_cons, List.length_drop]; omega
  | l :: r, k + 1, h, h0 => by
    rw [el_cons] at h0 ⊢
    have := tot_drop1 r k (by simpa using h) h0
    rw [List.set_cons_succ, tot_cons, tot_cons]; omega
theorem mplace_lt {ds : List Int} {s : List Int × List (List Int)} (h : 0 < s.2.length) : mplace ds s < s.2.length := by
  unfold mplace
  have h1 := Int.emod_nonneg (dr ds s.1.length) (b := (s.2.length : Int)) (by omega)
  have h2 := Int.emod_lt_of_pos (dr ds s.1.length) (b := (s.2.length : Int)) (by omega)
  omega
theorem mplace_cast {ds : List Int} {s : List Int × List (List Int)} (h : 0 < s.2.length) : ((mplace ds s : Nat) : Int) = dr ds s.1.length % (s.2.length : Int) := by
  unfold mplace
  have h1 := Int.emod_nonneg (dr ds s.1.length) (b := (s.2.length : Int)) (by omega)
  omega
theorem mrun_len (ds : List Int) (ls : List (List Int)) : ∀ n, (mrun ds ([], ls) n).1.length = n
  | 0 => rfl
  | n + 1 => by simp [mrun, mstep, mrun_len ds ls n]
theorem mrun_all (ds : List Int) (ls : List (List Int)) : ∀ n, ∀ l ∈ (mrun ds ([], nonE ls) n).2, 0 < l.length
  | 0 => fun _ h => nonE_all h
  | _ + 1 => fun _ h => nonE_all h
theorem tot_pos {ls : List (List Int)} (h : 0 < tot ls) : 0 < ls.length := by
  cases ls with
  | nil => simp [tot] at h
  | cons _ _ => simp
theorem tot_zero {ls : List (List Int)} (h : ls.length = 0) : tot ls = 0 := by
  cases ls with
  | nil => rfl
  | cons _ _ => simp at h
theorem mstep_tot {ds : List Int} {s : List Int × List (List Int)} (h : 0 < s.2.length) (ha : ∀ l ∈ s.2, 0 < l.length) : tot (mstep ds s).2 + 1 = tot s.2 := by
  have hp := mplace_lt (ds := ds) h
  show tot (nonE _) + 1 = _
  rw [nonE_tot, tot_drop1 _ _ hp (ha _ (el_mem hp))]
theorem mrun_tot (ds : List Int) (ls : List (List Int)) : ∀ n, n ≤ tot ls → tot (mrun ds ([], nonE ls) n).2 + n = tot ls
  | 0, _ => by simp [mrun, nonE_tot]
  | n + 1, h => by
    have ih := mrun_tot ds ls n (by omega)
    have := mstep_tot (ds := ds) (s := mrun ds ([], nonE ls) n) (tot_pos (by omega)) (mrun_all ds ls n)
    rw [mrun]; omega
theorem mrun_short (ds : List Int) (ls : List (List Int)) : ∀ n, (mrun ds ([], nonE ls) n).2.length ≤ ls.length
  | 0 => nonE_le ls
  | n + 1 => by
    have h1 := nonE_le ((mrun ds ([], nonE ls) n).2.set (mplace ds (mrun ds ([], nonE ls) n)) ((el (mrun ds ([], nonE ls) n).2 (mplace ds (mrun ds ([], nonE ls) n))).drop 1))
    rw [List.length_set] at h1
    exact Nat.le_trans h1 (mrun_short ds ls n)
theorem mg_len (ls : List (List Int)) (ds : List Int) : (mg ls ds).length = tot ls := mrun_len ds (nonE ls) (tot ls)
theorem mgR_len (ls : List (List Int)) (ds : List Int) : (mgR ls ds).1.length ≤ 100 := by
  unfold mgR
  split
  · rename_i h
    simp [mgOk] at h
    rw [mg_len]; omega
  · simp
theorem mgOk_of {ls : List (List Int)} (h1 : ls.length ≤ 10) (h2 : tot ls ≤ 100) : mgOk ls = true := by simp [mgOk, h1, h2]
theorem mgOk_all {ls : List (List Int)} (h : mgOk ls = true) : ls.length ≤ 10 ∧ tot ls ≤ 100 := by simpa [mgOk] using h
theorem mgOk_not {ls : List (List Int)} (h : ¬ (ls.length ≤ 10 ∧ tot ls ≤ 100)) : mgOk ls = false := by
  rcases hc : mgOk ls with _ | _
  · rfl
  · exact absurd (mgOk_all hc) h
theorem mgR_no {ls : List (List Int)} {ds : List Int} (h : mgOk ls = false) : mgR ls ds = ([], false) := by simp [mgR, h]
theorem mgR_yes {ls : List (List Int)} {ds : List Int} (h : mgOk ls = true) : mgR ls ds = (mg ls ds, true) := by simp [mgR, h]
/-- Where the p-th list that has something stands. -/
def posN : List (List Int) → Nat → Nat
  | [], _ => 0
  | l :: r, p => if 0 < l.length then (match p with | 0 => 0 | p + 1 => posN r p + 1) else posN r p + 1
theorem posN_at : ∀ (ls : List (List Int)) (p : Nat), p < (nonE ls).length → posN ls p < ls.length ∧ el ls (posN ls p) = el (nonE ls) p
  | [], p, h => by simp [nonE] at h
  | l :: r, p, h => by
    unfold nonE at h ⊢
    unfold posN
    by_cases hl : 0 < l.length
    · rw [List.filter_cons_of_pos (by simpa using hl)] at h ⊢
      rw [if_pos hl]
      cases p with
      | zero => exact ⟨by simp, by rw [el_zero, el_zero]⟩
      | succ p =>
        obtain ⟨h1, h2⟩ := posN_at r p (by simpa [nonE] using h)
        exact ⟨by simpa using h1, by dsimp only; rw [el_cons, el_cons, h2]; rfl⟩
    · rw [List.filter_cons_of_neg (by simpa using hl)] at h ⊢
      rw [if_neg hl]
      obtain ⟨h1, h2⟩ := posN_at r p h
      exact ⟨by simpa using h1, by rw [el_cons, h2]; rfl⟩
theorem posN_set : ∀ (ls : List (List Int)) (p : Nat) (t : List Int), p < (nonE ls).length → nonE (ls.set (posN ls p) t) = nonE ((nonE ls).set p t)
  | [], p, t, h => by simp [nonE] at h
  | l :: r, p, t, h => by
    have hcons : nonE (l :: r) = if 0 < l.length then l :: nonE r else nonE r := by
      unfold nonE
      by_cases hl : 0 < l.length
      · rw [List.filter_cons_of_pos (by simpa using hl), if_pos hl]
      · rw [List.filter_cons_of_neg (by simpa using hl), if_neg hl]
    have hc2 : ∀ (a : List Int) (b : List (List Int)), nonE (a :: b) = if 0 < a.length then a :: nonE b else nonE b := by
      intro a b
      unfold nonE
      by_cases hl : 0 < a.length
      · rw [List.filter_cons_of_pos (by simpa using hl), if_pos hl]
      · rw [List.filter_cons_of_neg (by simpa using hl), if_neg hl]
    by_cases hl : 0 < l.length
    · rw [hcons, if_pos hl] at h ⊢
      unfold posN
      rw [if_pos hl]
      cases p with
      | zero => rw [List.set_cons_zero, List.set_cons_zero, hc2, hc2, nonE_nonE]
      | succ p =>
        dsimp only
        rw [List.set_cons_succ, List.set_cons_succ, hc2, hc2, posN_set r p t (by simpa using h)]
    · rw [hcons, if_neg hl] at h ⊢
      unfold posN
      rw [if_neg hl, List.set_cons_succ, hc2, if_neg hl, posN_set r p t h]
/-- The places of the lists that have something, in order. -/
def idxN (ls : List (List Int)) (k : Nat) : List Nat := (List.range k).filter fun i => decide (0 < (el ls i).length)
theorem idxN_succ (ls : List (List Int)) (k : Nat) : idxN ls (k + 1) = idxN ls k ++ (if 0 < (el ls k).length then [k] else []) := by
  unfold idxN
  rw [List.range_succ, List.filter_append]
  by_cases h : 0 < (el ls k).length
  · simp [h]
  · simp [h]
theorem idxN_cons (l : List Int) (r : List (List Int)) : idxN (l :: r) (r.length + 1) = (if 0 < l.length then [0] else []) ++ (idxN r r.length).map (· + 1) := by
  unfold idxN
  rw [List.range_succ_eq_map, List.filter_cons]
  rw [List.filter_map]
  have : (List.range r.length).filter ((fun i => decide (0 < (el (l :: r) i).length)) ∘ Nat.succ) = (List.range r.length).filter (fun i => decide (0 < (el r i).length)) := by
    congr 1
  rw [this, el_zero]
  by_cases h : 0 < l.length <;> simp [h]
theorem idxN_at : ∀ (ls : List (List Int)), (idxN ls ls.length).length = (nonE ls).length ∧ ∀ p, p < (nonE ls).length → el (idxN ls ls.length) p = posN ls p
  | [] => by simp [idxN, nonE]
  | l :: r => by
    obtain ⟨h1, h2⟩ := idxN_at r
    have hcons : nonE (l :: r) = if 0 < l.length then l :: nonE r else nonE r := by
      unfold nonE
      by_cases hl : 0 < l.length
      · rw [List.filter_cons_of_pos (by simpa using hl), if_pos hl]
      · rw [List.filter_cons_of_neg (by simpa using hl), if_neg hl]
    rw [List.length_cons, idxN_cons, hcons]
    have hm : ∀ p, p < (idxN r r.length).length → el ((idxN r r.length).map (· + 1)) p = el (idxN r r.length) p + 1 := fun p hp => el_map _ hp
    by_cases hl : 0 < l.length
    · rw [if_pos hl, if_pos hl]
      refine ⟨by simp [h1], fun p hp => ?_⟩
      unfold posN
      rw [if_pos hl]
      cases p with
      | zero => simp [el]
      | succ p =>
        rw [show ([0] ++ (idxN r r.length).map (· + 1) : List Nat) = 0 :: (idxN r r.length).map (· + 1) from rfl, el_cons]
        have hp' : p < (nonE r).length := by simpa using hp
        rw [hm p (by omega), h2 p hp']
    · rw [if_neg hl, if_neg hl, List.nil_append]
      refine ⟨by simp [h1], fun p hp => ?_⟩
      unfold posN
      rw [if_neg hl, hm p (by omega), h2 p hp]
end Go.Proofs.Ytnjnnilmelmmgaa
