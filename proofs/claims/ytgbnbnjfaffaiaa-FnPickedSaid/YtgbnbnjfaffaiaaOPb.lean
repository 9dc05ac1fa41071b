
/- Plain mathematics: the program's look at a board and the specification's are the same. No conditions. -/
import Derived.Test.YtgbnbnjfaffaiaaOPa
namespace Go.Proofs.Ytgbnbnjfaffaiaa.Old

/-- impl.goodQueue says yes. -/
def QueueOk (ts : List (Int × Int)) (q : List Int) : Prop := q.length ≤ ts.length ∧ (∀ id, id ∈ q → 0 ≤ id ∧ id < ts.length) ∧ q.Nodup ∧ ∀ j : Nat, j < ts.length → ((j : Int) ∈ q ↔ (ts[j]?.getD (0, 0)).1 = 1)

theorem sub_perm : ∀ (l1 l2 : List Int), l1.Nodup → (∀ x, x ∈ l1 → x ∈ l2) → ∃ r, List.Perm l2 (l1 ++ r)
  | [], l2, _, _ => ⟨l2, List.Perm.refl _⟩
  | a :: t, l2, hn, hs => by
    have ha : a ∈ l2 := hs a (by simp)
    have hp := List.perm_cons_erase ha
    obtain ⟨hat, htn⟩ := List.nodup_cons.1 hn
    obtain ⟨r, hr⟩ := sub_perm t (l2.erase a) htn (fun x hx => by
      have hne : x ≠ a := fun e => hat (e ▸ hx)
      exact (List.mem_erase_of_ne hne).2 (hs x (by simp [hx])))
    exact ⟨r, hp.trans (List.Perm.cons a hr)⟩
theorem perm_of_sub {l1 l2 : List Int} (hn : l1.Nodup) (hs : ∀ x, x ∈ l1 → x ∈ l2) (hl : l2.length = l1.length) : List.Perm l2 l1 := by
  obtain ⟨r, hr⟩ := sub_perm l1 l2 hn hs
  have := hr.length_eq
  simp at this
  have h0 : r = [] := List.length_eq_zero_iff.1 (by omega)
  subst h0; simpa using hr
theorem len_le_of_sub {l1 l2 : List Int} (hn : l1.Nodup) (hs : ∀ x, x ∈ l1 → x ∈ l2) : l1.length ≤ l2.length := by
  obtain ⟨r, hr⟩ := sub_perm l1 l2 hn hs
  have := hr.length_eq
  simp at this; omega

def readyTo (ts : List (Int × Int)) (k : Nat) : List Int := ((List.range k).filter (fun j => decide ((ts[j]?.getD (0, 0)).1 = 1))).map (fun j : Nat => (j : Int))
theorem readyTo_len (ts : List (Int × Int)) : ∀ k, k ≤ ts.length → (readyTo ts k).length = readyN (ts.take k)
  | 0, _ => by simp [readyTo, readyN]
  | k + 1, h => by
    rw [readyN_snoc ts k (by omega), ← readyTo_len ts k (by omega)]
    unfold readyTo
    rw [List.range_succ, List.filter_append, List.map_append, List.length_append]
    congr 1
    by_cases e : (ts[k]?.getD (0, 0)).1 = 1 <;> simp [e]
theorem mem_readyTo (ts : List (Int × Int)) (k : Nat) (x : Int) : x ∈ readyTo ts k ↔ ∃ j : Nat, j < k ∧ (ts[j]?.getD (0, 0)).1 = 1 ∧ x = j := by
  simp only [readyTo, List.mem_map, List.mem_filter, List.mem_range, decide_eq_true_eq]
  constructor
  · rintro ⟨j, ⟨h1, h2⟩, h3⟩; exact ⟨j, h1, h2, h3.symm⟩
  · rintro ⟨j, h1, h2, h3⟩; exact ⟨j, ⟨h1, h2⟩, h3.symm⟩
theorem nodup_readyTo (ts : List (Int × Int)) (k : Nat) : (readyTo ts k).Nodup := by
  unfold readyTo
  refine List.Pairwise.map _ (fun a b h e => h (by omega)) (List.Pairwise.filter _ List.nodup_range)

theorem queue_iff (ts : List (Int × Int)) (q : List Int) : QueueOk ts q ↔ ((∀ j : Nat, j < ts.length → (ts[j]?.getD (0, 0)).1 = 1 → (j : Int) ∈ q) ∧ q.length = readyN ts) := by
  have hlen : (readyTo ts ts.length).length = readyN ts := by rw [readyTo_len ts _ (Nat.le_refl _), List.take_length]
  constructor
  · rintro ⟨h1, h2, h3, h4⟩
    refine ⟨fun j hj hs => (h4 j hj).2 hs, ?_⟩
    have a : ∀ x, x ∈ q → x ∈ readyTo ts ts.length := fun x hx => by
      obtain ⟨p1, p2⟩ := h2 x hx
      rw [mem_readyTo]
      refine ⟨x.toNat, by omega, ?_, by omega⟩
      exact (h4 x.toNat (by omega)).1 (by rw [Int.toNat_of_nonneg p1]; exact hx)
    have b : ∀ x, x ∈ readyTo ts ts.length → x ∈ q := fun x hx => by
      obtain ⟨j, hj, hs, rfl⟩ := (mem_readyTo _ _ _).1 hx
      exact (h4 j hj).2 hs
    have := len_le_of_sub h3 a
    have := len_le_of_sub (nodup_readyTo ts ts.length) b
    omega
  · rintro ⟨h1, h2⟩
    have b : ∀ x, x ∈ readyTo ts ts.length → x ∈ q := fun x hx => by
      obtain ⟨j, hj, hs, rfl⟩ := (mem_readyTo _ _ _).1 hx
      exact h1 j hj hs
    have hp := perm_of_sub (nodup_readyTo ts ts.length) b (by omega)
    refine ⟨by have := readyN_le ts; omega, fun x hx => ?_, hp.nodup_iff.2 (nodup_readyTo ts ts.length), fun j hj => ⟨fun hx => ?_, h1 j hj⟩⟩
    · obtain ⟨j, hj, _, rfl⟩ := (mem_readyTo _ _ _).1 (hp.mem_iff.1 hx)
      omega
    · obtain ⟨i, _, hs, e⟩ := (mem_readyTo _ _ _).1 (hp.mem_iff.1 hx)
      have : j = i := by omega
      subst this; exact hs

theorem task_same (s p : Int) : goodTaskB s p = specTaskB s p := by
  unfold goodTaskB specTaskB
  rw [Bool.eq_iff_iff]
  by_cases h1 : s = 1
  · subst h1; simp
  · by_cases h2 : s = 2 ∨ s = 3 ∨ s = 4
    · simp [h1, h2]
      omega
    · simp [h1, h2]
      omega

theorem good_iff (ts : List (Int × Int)) (q : List Int) : (ts.length ≤ 30 ∧ goodTasksB ts = true ∧ QueueOk ts q) ↔ specGoodB ts q = true := by
  rw [queue_iff]
  unfold goodTasksB specGoodB
  simp only [Bool.and_eq_true, decide_eq_true_eq, List.all_eq_true, List.mem_range]
  constructor
  · rintro ⟨h1, ⟨h2, h3⟩, h4, h5⟩
    refine ⟨⟨h1, fun j hj => ?_⟩, by omega, h5⟩
    unfold specRowB
    rw [Bool.and_eq_true, ← task_same]
    refine ⟨?_, ?_⟩
    · have := h2 (ts[j]) (List.getElem_mem hj); simpa [hj] using this
    · by_cases e : (ts[j]?.getD (0, 0)).1 = 1
      · have := h4 j hj e; simp [hasB, this]
      · simp [e]
  · rintro ⟨⟨h1, h2⟩, h3, h4⟩
    refine ⟨h1, ⟨fun t ht => ?_, by omega⟩, fun j hj hs => ?_, h4⟩
    · obtain ⟨j, hj, rfl⟩ := List.mem_iff_getElem.1 ht
      have := h2 j hj
      unfold specRowB at this
      rw [Bool.and_eq_true, ← task_same] at this
      simpa [hj] using this.1
    · have := h2 j hj
      unfold specRowB at this
      rw [Bool.and_eq_true] at this
      simpa [hs, hasB] using this.2
end Go.Proofs.Ytgbnbnjfaffaiaa.Old
