
/- Plain facts of pools. No conditions but those written. -/
import Derived.Test.YtmijibgfdhjbfaaWp
namespace Go.Proofs.Ytmijibgfdhjbfaa
open Go.RowKit

/-- A work. -/
abbrev Wo := Int × Int × Int
/-- The ids of works. -/
def idsOf (l : List Wo) : List Int := l.map (·.1)
theorem idsOf_len (l : List Wo) : (idsOf l).length = l.length := by simp [idsOf]
theorem idsOf_succ {l : List Wo} {k : Nat} (h : k < l.length) : idsOf (l.take (k + 1)) = idsOf (l.take k) ++ [(el l k).1] := by rw [take_succ_el h]; simp [idsOf]
theorem idsOf_el {l : List Wo} {j : Nat} (h : j < l.length) : el (idsOf l) j = (el l j).1 := by simp [el, idsOf, h]
theorem idsOf_take (l : List Wo) (k : Nat) : idsOf (l.take k) = (idsOf l).take k := by simp [idsOf, List.map_take]
/-- A row of ints in its own memory, as an ending. -/
def AnsI (w : World) (q : List Int) (e : Ending) (w' : World) : Prop := (∃ go qc, e = .returned (.slice go q.length qc) ∧ kI.Fresh w.heap.size w'.heap.size w' go qc q) ∧ Below w.heap.size w w'
/-- A row of works in its own memory, as an ending. -/
def AnsW (w : World) (q : List Wo) (e : Ending) (w' : World) : Prop := (∃ go qc, e = .returned (.slice go q.length qc) ∧ kW.Fresh w.heap.size w'.heap.size w' go qc q) ∧ Below w.heap.size w w'
/-- None twice. -/
def onceB (q : List Int) : Bool := decide q.Nodup
theorem nodup_take {q : List Int} {k : Nat} (hk : k < q.length) (h : q.Nodup) : el q k ∉ q.take k := by
  have h2 := h
  rw [← List.take_append_drop k q, List.nodup_append] at h2
  intro hm
  refine h2.2.2 _ hm _ ?_ rfl
  rw [el_at hk, List.drop_eq_getElem_cons hk]; exact List.mem_cons_self
theorem nodup_succ {q : List Int} {k : Nat} (hk : k < q.length) (h : (q.take k).Nodup) (hn : el q k ∉ q.take k) : (q.take (k + 1)).Nodup := by
  rw [take_succ_el hk, List.nodup_append]
  exact ⟨h, by simp, fun a ha b hb e => hn (by simp at hb; rw [← hb, ← e]; exact ha)⟩
theorem onceB_no {q : List Int} (k : Nat) (hk : k < q.length) (h : hasB (q.take k) (el q k) = true) : onceB q = false := by
  simp only [onceB, decide_eq_false_iff_not]; intro hn
  exact nodup_take hk hn (by simpa [hasB] using h)
theorem onceB_yes {q : List Int} (h : (q.take q.length).Nodup) : onceB q = true := by
  rw [List.take_length] at h; simpa [onceB] using h
/-- A fault. -/
def faultB (f : Int) : Bool := decide (0 < f) && decide (f ≤ 1000000)
/-- A work is good. -/
def workB (t : Wo) : Bool := if t.2.1 = 4 then faultB t.2.2 else (decide (1 ≤ t.2.1) && decide (t.2.1 ≤ 5)) && decide (t.2.2 = 0)
/-- The works in a state. -/
def atL (s : Int) (l : List Wo) : List Wo := l.filter (fun t => t.2.1 == s)
theorem atL_le (s : Int) (l : List Wo) : (atL s l).length ≤ l.length := List.length_filter_le _ _
theorem atL_in {s : Int} {l : List Wo} {k : Nat} (h : k < l.length) (he : ((el l k).2.1 == s) = true) : atL s (l.take (k + 1)) = atL s (l.take k) ++ [el l k] := by rw [take_succ_el h, atL, List.filter_append]; simp [atL, he]
theorem atL_out {s : Int} {l : List Wo} {k : Nat} (h : k < l.length) (he : ((el l k).2.1 == s) = false) : atL s (l.take (k + 1)) = atL s (l.take k) := by rw [take_succ_el h, atL, List.filter_append]; simp [atL, he]
/-- Some work is in a state. -/
def hasL (s : Int) (l : List Wo) : Bool := decide (0 < ((atL s l).length : Int))
theorem hasL_any (s : Int) (l : List Wo) : hasL s l = l.any (fun t => t.2.1 == s) := by
  rw [hasL, Bool.eq_iff_iff, decide_eq_true_iff, List.any_eq_true]
  constructor
  · intro h
    obtain ⟨x, hx⟩ := List.exists_mem_of_length_pos (l := atL s l) (by omega)
    rw [atL, List.mem_filter] at hx
    exact ⟨x, hx⟩
  · rintro ⟨x, hx⟩
    have := List.length_pos_of_mem (l := atL s l) (by rw [atL, List.mem_filter]; exact hx)
    omega
/-- Some work tells the fault. -/
def tellsB (fa : Int) (l : List Wo) : Bool := l.any (fun t => t.2.2 == fa)
/-- The works are such as the pool's fault leaves them. -/
def fitsB (fa : Int) (l : List Wo) : Bool := if fa = 0 then !hasL 4 l && !hasL 5 l else tellsB fa (atL 4 l) && !hasL 1 l
/-- The sizes are good. -/
def sizeB (mo fa : Int) : Bool := (decide (1 ≤ mo) && decide (mo ≤ 20)) && (decide (0 ≤ fa) && decide (fa ≤ 1000000))
/-- The works are good. -/
def worksB (l : List Wo) : Bool := l.all workB && onceB (idsOf l)
/-- A pool is good. -/
def poolB (mo fa : Int) (l : List Wo) : Bool := sizeB mo fa && (decide (l.length ≤ 40) && (worksB l && (decide (((atL 2 l).length : Int) ≤ mo) && fitsB fa l)))
theorem poolB_size {mo fa : Int} {l : List Wo} (h : sizeB mo fa = false) : poolB mo fa l = false := by rw [poolB, h]; rfl
theorem poolB_long {mo fa : Int} {l : List Wo} (h : 40 < l.length) : poolB mo fa l = false := by rw [poolB, decide_eq_false (by omega)]; simp
theorem poolB_works {mo fa : Int} {l : List Wo} (h : worksB l = false) : poolB mo fa l = false := by rw [poolB, h]; simp
theorem poolB_runs {mo fa : Int} {l : List Wo} (h : ¬ ((atL 2 l).length : Int) ≤ mo) : poolB mo fa l = false := by rw [poolB, decide_eq_false h]; simp
theorem poolB_tail {mo fa : Int} {l : List Wo} (h1 : sizeB mo fa = true) (h2 : l.length ≤ 40) (h3 : worksB l = true) (h4 : ((atL 2 l).length : Int) ≤ mo) : poolB mo fa l = fitsB fa l := by rw [poolB, h1, decide_eq_true h2, h3, decide_eq_true h4]; rfl
theorem poolB_good {mo fa : Int} {l : List Wo} (h : poolB mo fa l = true) : sizeB mo fa = true ∧ l.length ≤ 40 ∧ worksB l = true ∧ ((atL 2 l).length : Int) ≤ mo ∧ fitsB fa l = true := by
  simp only [poolB, Bool.and_eq_true, decide_eq_true_eq] at h
  exact ⟨h.1, h.2.1, h.2.2.1, h.2.2.2.1, h.2.2.2.2⟩
theorem worksB_no {l : List Wo} (k : Nat) (hk : k < l.length) (h : workB (el l k) = false) : worksB l = false := by
  have : l.all workB = false := by rw [List.all_eq_false]; exact ⟨_, el_mem hk, by rw [h]; simp⟩
  rw [worksB, this]; rfl
theorem worksB_all {l : List Wo} (h : ∀ j, j < l.length → workB (el l j) = true) : worksB l = onceB (idsOf l) := by
  have : l.all workB = true := by
    rw [List.all_eq_true]; intro x hx
    obtain ⟨j, hj, rfl⟩ := mem_el hx
    exact h j hj
  rw [worksB, this]; rfl
/-- What the specification asks of one work beside that it is good. -/
def lieB (fa : Int) (t : Wo) : Bool := if fa = 0 then !(t.2.1 == 4) && !(t.2.1 == 5) else !(t.2.1 == 1)
theorem fitsB_lie {fa : Int} {l : List Wo} (k : Nat) (hk : k < l.length) (h : lieB fa (el l k) = false) : fitsB fa l = false := by
  have hm := el_mem hk
  unfold lieB at h
  unfold fitsB
  rw [hasL_any, hasL_any, hasL_any]
  by_cases h0 : fa = 0
  · rw [if_pos h0] at h ⊢
    rw [Bool.and_eq_false_iff, Bool.not_eq_false', Bool.not_eq_false'] at h ⊢
    exact h.imp (fun e => List.any_eq_true.2 ⟨_, hm, e⟩) (fun e => List.any_eq_true.2 ⟨_, hm, e⟩)
  · rw [if_neg h0] at h ⊢
    rw [Bool.not_eq_false'] at h
    have : l.any (fun t => t.2.1 == 1) = true := List.any_eq_true.2 ⟨_, hm, h⟩
    rw [this]; simp
theorem poolB_lie {mo fa : Int} {l : List Wo} (k : Nat) (hk : k < l.length) (h : lieB fa (el l k) = false) : poolB mo fa l = false := by rw [poolB, fitsB_lie k hk h]; simp
theorem any_no {l : List Wo} {s : Int} (h : ∀ j, j < l.length → ((el l j).2.1 == s) = false) : l.any (fun t => t.2.1 == s) = false := by
  rw [List.any_eq_false]; intro x hx
  obtain ⟨j, hj, rfl⟩ := mem_el hx
  rw [h j hj]; simp
theorem fitsB_all {fa : Int} {l : List Wo} (hw : worksB l = true) (h : ∀ j, j < l.length → lieB fa (el l j) = true) : fitsB fa l = (decide (fa = 0) || tellsB fa l) := by
  unfold fitsB
  rw [hasL_any, hasL_any, hasL_any]
  by_cases h0 : fa = 0
  · have e4 := any_no (l := l) (s := 4) fun j hj => by have := h j hj; rw [lieB, if_pos h0] at this; simp at this; simpa using this.1
    have e5 := any_no (l := l) (s := 5) fun j hj => by have := h j hj; rw [lieB, if_pos h0] at this; simp at this; simpa using this.2
    rw [if_pos h0, e4, e5, decide_eq_true h0]; rfl
  · have e1 := any_no (l := l) (s := 1) fun j hj => by have := h j hj; rw [lieB, if_neg h0] at this; simpa using this
    rw [if_neg h0, e1, decide_eq_false h0, Bool.false_or, Bool.not_false, Bool.and_true, Bool.eq_iff_iff, tellsB, tellsB, List.any_eq_true, List.any_eq_true]
    constructor
    · rintro ⟨x, hx, e⟩
      rw [atL, List.mem_filter] at hx
      exact ⟨x, hx.1, e⟩
    · rintro ⟨x, hx, e⟩
      refine ⟨x, ?_, e⟩
      rw [atL, List.mem_filter]
      refine ⟨hx, ?_⟩
      rw [worksB, Bool.and_eq_true, List.all_eq_true] at hw
      have hwx := hw.1 x hx
      by_cases h4 : x.2.1 = 4
      · simpa using h4
      · rw [workB, if_neg h4] at hwx
        simp at hwx e
        omega
theorem poolB_end {mo fa : Int} {l : List Wo} (h1 : sizeB mo fa = true) (h2 : l.length ≤ 40) (hw : worksB l = true) (h : ∀ j, j < l.length → lieB fa (el l j) = true) : poolB mo fa l = (decide (((atL 2 l).length : Int) ≤ mo) && (decide (fa = 0) || tellsB fa l)) := by
  rw [poolB, h1, decide_eq_true h2, hw, fitsB_all hw h]; rfl
theorem tellsB_succ {fa : Int} {l : List Wo} {k : Nat} (h : k < l.length) : tellsB fa (l.take (k + 1)) = (tellsB fa (l.take k) || ((el l k).2.2 == fa)) := by rw [take_succ_el h, tellsB, List.any_append]; simp [tellsB]
/-- A work is good, as the specification asks it. -/
theorem workB_spec (t : Wo) : workB t = ((decide (1 ≤ t.2.1) && decide (t.2.1 ≤ 5)) && (((t.2.1 == 4) == (t.2.2 != 0)) && (decide (0 ≤ t.2.2) && decide (t.2.2 ≤ 1000000)))) := by
  obtain ⟨a, s, f⟩ := t
  unfold workB faultB
  dsimp only
  by_cases h4 : s = 4
  · subst h4
    by_cases h0 : f = 0
    · subst h0; rfl
    · rw [if_pos rfl, Bool.eq_iff_iff]; simp [h0] <;> omega
  · rw [if_neg h4, Bool.eq_iff_iff]
    have : (s == 4) = false := by simpa using h4
    rw [this]
    by_cases h0 : f = 0
    · subst h0; simp
    · simp [h0]
end Go.Proofs.Ytmijibgfdhjbfaa
