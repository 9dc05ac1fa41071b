
/- Plain facts: what is published is heard last by each. No conditions but those written. -/
import Derived.Test.YtimkadnnhfllnaaYb
import Derived.Test.YtimkadnnhfllnaaSa
namespace Go.Proofs.Ytimkadnnhfllnaa
open Go.RowKit

/-- Few hearers with short queues. -/
def Neat (ps : List PSub) : Prop := ps.length ≤ 10 ∧ ∀ p ∈ ps, p.2.2.2.2.length ≤ 20
theorem mem_elP {α : Type} [Inhabited α] {ps : List α} {p : α} (h : p ∈ ps) : ∃ k, k < ps.length ∧ el ps k = p := by
  obtain ⟨k, hk, e⟩ := List.mem_iff_getElem.1 h
  exact ⟨k, hk, by simp [el, hk, e]⟩
theorem good_neat {sd : Int} {ps : List PSub} (h : topicB sd ps = true) : Neat ps := by
  refine ⟨(topicB_good h).2.1, fun p hp => ?_⟩
  obtain ⟨k, hk, rfl⟩ := mem_elP hp
  obtain ⟨h1, h2, h3, _⟩ := sub_el h hk
  omega
theorem sub_neat {sd : Int} {ps : List PSub} {id sz : Int} {dr : Bool} (h : (subR sd ps id sz dr).2.2 = 0) : Neat (subR sd ps id sz dr).2.1 ∧ (subR sd ps id sz dr).2.1 ≠ [] := by
  unfold subR at h ⊢
  by_cases hg : (topicB sd ps && sizeB sz) = true
  case neg => rw [if_neg hg] at h; simp at h
  rw [if_pos hg] at h ⊢
  simp only [Bool.and_eq_true] at hg
  obtain ⟨n1, n2⟩ := good_neat hg.1
  by_cases ht : thB ps id = true
  · rw [if_pos ht] at h; simp at h
  rw [if_neg ht] at h ⊢
  by_cases h10 : ps.length = 10
  · rw [if_pos h10] at h; simp at h
  rw [if_neg h10]
  refine ⟨⟨by simp; omega, fun p hp => ?_⟩, by simp⟩
  simp only [List.mem_append, List.mem_singleton] at hp
  rcases hp with (hp | rfl) | hp
  · exact n2 p (List.mem_of_mem_take hp)
  · simp
  · exact n2 p (List.mem_of_mem_drop hp)
theorem uns_neat {sd : Int} {ps : List PSub} {id : Int} (h : (unsR sd ps id).2.2.2 = 0) : Neat (unsR sd ps id).2.1 := by
  unfold unsR at h ⊢
  by_cases hg : topicB sd ps = true
  case neg => rw [if_neg hg] at h; simp at h
  rw [if_pos hg] at h ⊢
  obtain ⟨n1, n2⟩ := good_neat hg
  by_cases ht : thB ps id = true
  case neg => rw [if_neg ht] at h; simp at h
  rw [if_pos ht]
  refine ⟨by simp; omega, fun p hp => ?_⟩
  rcases List.mem_append.1 hp with hp | hp
  · exact n2 p (List.mem_of_mem_take hp)
  · exact n2 p (List.mem_of_mem_drop hp)
theorem hear_neat {sd : Int} {ps : List PSub} {id : Int} (h : (hearR sd ps id).2.2.2 = 0) : Neat (hearR sd ps id).2.1 ∧ (hearR sd ps id).2.1 ≠ [] := by
  unfold hearR at h ⊢
  by_cases hg : topicB sd ps = true
  case neg => rw [if_neg hg] at h; simp at h
  rw [if_pos hg] at h ⊢
  obtain ⟨n1, n2⟩ := good_neat hg
  by_cases ht : thB ps id = true
  case neg => rw [if_neg ht] at h; simp at h
  rw [if_pos ht] at h ⊢
  have hk := thB_lt ht
  have hq := n2 _ (el_mem hk)
  split at h
  · simp at h
  · rename_i x r e
    rw [e] at hq
    simp at hq
    refine ⟨⟨by simpa using n1, fun p hp => ?_⟩, by simp; intro e0; rw [e0] at hk; simp at hk⟩
    rcases List.mem_or_eq_of_mem_set hp with hp | rfl
    · exact n2 p hp
    · simp; omega
theorem pub_neat {sd : Int} {ps : List PSub} {v : Int} (h : (pubR sd ps v).2.2.2 = 0) : Neat (pubR sd ps v).2.1 ∧ ((pubR sd ps v).2.1 = [] → ps = []) := by
  unfold pubR at h ⊢
  by_cases hg : topicB sd ps = true
  case neg => rw [if_neg hg] at h; simp at h
  rw [if_pos hg] at h ⊢
  by_cases hs : sd = 1000000
  · rw [if_pos hs] at h; simp at h
  rw [if_neg hs] at h ⊢
  by_cases hw : (waitI ps).length = 0
  case neg => rw [if_neg hw] at h; simp at h
  rw [if_pos hw]
  refine ⟨⟨by simpa using (topicB_good hg).2.1, fun p hp => ?_⟩, fun e => by simpa using e⟩
  obtain ⟨a, ha, rfl⟩ := List.mem_map.1 hp
  obtain ⟨k, hk, rfl⟩ := mem_elP ha
  obtain ⟨h1, h2, h3, _⟩ := sub_el hg hk
  have := sayP_len (v := v) h3 h1
  omega
theorem el_map {ps : List PSub} {f : PSub → PSub} {j : Nat} (h : j < ps.length) : el (ps.map f) j = f (el ps j) := by simp [el, h]
theorem say_id (v : Int) (p : PSub) : (sayP v p).1 = p.1 ∧ (sayP v p).2.1 = p.2.1 ∧ (sayP v p).2.2.1 = p.2.2.1 := by
  unfold sayP; split <;> exact ⟨rfl, rfl, rfl⟩
theorem subB_say {v : Int} {p : PSub} (h : subB p = true) (hw : waitsB p = false) : subB (sayP v p) = true := by
  unfold subB sizeB at h ⊢
  simp only [Bool.and_eq_true, decide_eq_true_eq] at h
  obtain ⟨⟨h1, h2⟩, h3, h4⟩ := h
  obtain ⟨e1, e2, e3⟩ := say_id v p
  have hl := sayP_len (v := v) h3 h1
  simp only [e2, e3, Bool.and_eq_true, decide_eq_true_eq]
  refine ⟨⟨h1, h2⟩, hl, ?_⟩
  by_cases hf : fullB p = true
  · have hd : p.2.2.1 = true := by
      unfold waitsB at hw; unfold fullB at hf
      rw [hf] at hw
      simpa using hw
    rw [if_pos hd] at h4 ⊢
    simp only [Bool.and_eq_true, decide_eq_true_eq] at h4 ⊢
    unfold sayP
    rw [if_pos hf]
    dsimp only
    split <;> omega
  · have e : (sayP v p).2.2.2.1 = p.2.2.2.1 := by unfold sayP; rw [if_neg hf]
    rw [e]
    exact h4
theorem wait_none {ps : List PSub} (h : (waitI ps).length = 0) : ∀ k, k < ps.length → waitsB (el ps k) = false := by
  intro k hk
  have h0 : ps.filter waitsB = [] := by simpa [waitI] using h
  have := List.filter_eq_nil_iff.1 h0 _ (el_mem hk)
  simpa using this
/-- All that the law asks of what is published. -/
theorem pub_all {sd : Int} {ps : List PSub} {v : Int} {S : Int} {P : List PSub} {l : List Int} (h : pubR sd ps v = (S, P, l, 0)) :
    topicB S P = true ∧ P.length = ps.length ∧ ps.length ≤ 10 ∧ l.length ≤ 10 ∧ ∀ i, i < ps.length → hasB l (el ps i).1 = fullB (el ps i) ∧ (el ps i).2.2.2.2.length ≤ 20 ∧ (el P i).1 = (el ps i).1 ∧ (el P i).2.2.2.2 = (if fullB (el ps i) then ((el ps i).2.2.2.2 ++ [v]).tail else (el ps i).2.2.2.2 ++ [v]) := by
  unfold pubR at h
  by_cases hg : topicB sd ps = true
  case neg => rw [if_neg hg] at h; simp at h
  rw [if_pos hg] at h
  by_cases hs : sd = 1000000
  · rw [if_pos hs] at h; simp at h
  rw [if_neg hs] at h
  by_cases hw : (waitI ps).length = 0
  case neg => rw [if_neg hw] at h; simp at h
  rw [if_pos hw] at h
  simp only [Prod.mk.injEq, and_true] at h
  obtain ⟨rfl, rfl, rfl⟩ := h
  obtain ⟨h1, h2, h3⟩ := topicB_good hg
  have hr := rising h3
  refine ⟨topicB_yes (by omega) (by simpa using h2) fun j hj => ?_, by simp, h2, Nat.le_trans (losI_le ps) h2, fun i hi => ⟨?_, (good_neat hg).2 _ (el_mem hi), ?_, ?_⟩⟩
  · have hj' : j < ps.length := by simpa using hj
    have hst := h3 j hj'
    unfold stepB at hst ⊢
    simp only [Bool.and_eq_true, Bool.or_eq_true, decide_eq_true_eq, beq_iff_eq] at hst ⊢
    rw [el_map hj']
    refine ⟨subB_say hst.1 (wait_none hw j hj'), ?_⟩
    rcases hst.2 with h | h
    · exact .inl h
    · rcases Nat.eq_zero_or_pos j with e | e
      · exact .inl e
      · rw [el_map (show j - 1 < ps.length by omega), (say_id v _).1, (say_id v _).1]
        exact .inr h
  · rw [Bool.eq_iff_iff]
    simp only [hasB, losI]
    constructor
    · intro hh
      have hh := of_decide_eq_true hh
      simp only [List.mem_map, List.mem_filter] at hh
      obtain ⟨p, ⟨hp, hf⟩, e⟩ := hh
      obtain ⟨k, hk, rfl⟩ := mem_elP hp
      have : k = i := by
        rcases Nat.lt_trichotomy k i with hlt | heq | hlt
        · have := hr i k hlt hi; omega
        · exact heq
        · have := hr k i hlt hk; omega
      subst this
      exact hf
    · intro hf
      refine decide_eq_true ?_
      simp only [List.mem_map, List.mem_filter]
      exact ⟨_, ⟨el_mem hi, hf⟩, rfl⟩
  · rw [el_map hi]; exact (say_id v _).1
  · rw [el_map hi]
    unfold sayP
    split
    · rename_i hf
      dsimp only
      have hne : (el ps i).2.2.2.2 ≠ [] := by
        intro e
        unfold fullB at hf
        rw [e] at hf
        have := (sub_el hg hi).1
        simp at hf
        omega
      cases hq : (el ps i).2.2.2.2 with
      | nil => exact absurd hq hne
      | cons x r => simp
    · rfl
/-- Who hears next takes the first of its queue; the rest stays as it is. -/
theorem hear_step {S : Int} {Y : List PSub} {i : Nat} {x : Int} {r : List Int} (hg : topicB S Y = true) (hi : i < Y.length) (hq : (el Y i).2.2.2.2 = x :: r) :
    hearR S Y (el Y i).1 = (S, Y.set i ((el Y i).1, (el Y i).2.1, (el Y i).2.2.1, (el Y i).2.2.2.1, r), x, 0) ∧ topicB S (Y.set i ((el Y i).1, (el Y i).2.1, (el Y i).2.2.1, (el Y i).2.2.2.1, r)) = true ∧ el (Y.set i ((el Y i).1, (el Y i).2.1, (el Y i).2.2.1, (el Y i).2.2.2.1, r)) i = ((el Y i).1, (el Y i).2.1, (el Y i).2.2.1, (el Y i).2.2.2.1, r) := by
  obtain ⟨h1, h2, h3⟩ := topicB_good hg
  have hr := rising h3
  have hp : pl Y (el Y i).1 = i := by
    refine ((pl_is Y (el Y i).1).is (Nat.le_of_lt hi) (fun j hj => hr i j hj hi) (fun _ => Int.le_refl _)).symm
  have ht : thB Y (el Y i).1 = true := by
    unfold thB; rw [hp]; simp [hi]
  have hs : el (Y.set i ((el Y i).1, (el Y i).2.1, (el Y i).2.2.1, (el Y i).2.2.2.1, r)) i = ((el Y i).1, (el Y i).2.1, (el Y i).2.2.1, (el Y i).2.2.2.1, r) := by simp [el, hi]
  have ho : ∀ j, j ≠ i → el (Y.set i ((el Y i).1, (el Y i).2.1, (el Y i).2.2.1, (el Y i).2.2.2.1, r)) j = el Y j := fun j hj => by simp [el, Ne.symm hj]
  refine ⟨?_, topicB_yes h1 (by simpa using h2) fun j hj => ?_, hs⟩
  · unfold hearR
    rw [if_pos hg, if_pos ht, hp, hq]
  · have hj' : j < Y.length := by simpa using hj
    have hst := h3 j hj'
    have hid : ∀ k, (el (Y.set i ((el Y i).1, (el Y i).2.1, (el Y i).2.2.1, (el Y i).2.2.2.1, r)) k).1 = (el Y k).1 := fun k => by
      by_cases e : k = i
      · subst e; rw [hs]
      · rw [ho k e]
    unfold stepB at hst ⊢
    rw [hid, hid]
    simp only [Bool.and_eq_true] at hst ⊢
    refine ⟨?_, hst.2⟩
    by_cases e : j = i
    · subst e
      rw [hs]
      have := hst.1
      unfold subB at this ⊢
      simp only [Bool.and_eq_true, decide_eq_true_eq] at this ⊢
      refine ⟨this.1, ?_, this.2.2⟩
      have h5 := this.2.1
      rw [hq] at h5
      simp at h5 ⊢
      omega
    · rw [ho j e]; exact hst.1
end Go.Proofs.Ytimkadnnhfllnaa
