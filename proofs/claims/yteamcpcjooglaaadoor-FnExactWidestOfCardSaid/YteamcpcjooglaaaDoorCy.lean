
/- Orders and rounds, plainly. No conditions but those written. -/
import Derived.Test.YteamcpcjooglaaaDoorBf
namespace Go.Proofs.YteamcpcjooglaaaDoor
open Go.RowKit

/-- No more different numbers than there are. -/
theorem pigeon : ∀ (n : Nat) (l : List Int), l.Nodup → (∀ x ∈ l, 0 ≤ x ∧ x < (n : Int)) → l.length ≤ n
  | 0, l, _, h => by
    cases l with
    | nil => simp
    | cons x r => have := h x (by simp); omega
  | n + 1, l, hn, h => by
    have h1 := pigeon n (l.erase (n : Int)) (hn.erase _) (fun x hx => by
      rw [List.Nodup.mem_erase_iff hn] at hx
      have := h x hx.2
      omega)
    have h2 := List.length_erase (a := (n : Int)) (l := l)
    split at h2 <;> omega
theorem Rch.trans {gs : List PNode} {a b c : Nat} (h1 : Rch gs a b) (h2 : Rch gs b c) : Rch gs a c := by
  induction h2 with
  | one h => exact .more h1 h
  | more _ h ih => exact .more ih h
theorem leadsP_iff {gs : List PNode} {a b : Nat} : leadsP gs (a : Int) (b : Int) = true ↔ ((b : Nat) : Int) ∈ nxP gs a := by
  simp [leadsP, hasB, nxP]
theorem numsI_has {n k : Nat} (h : k < n) : (k : Int) ∈ numsI n := by
  simp only [numsI, List.mem_map, List.mem_range]; exact ⟨k, h, rfl⟩
theorem mem_cut {l : List Int} {k : Nat} {x : Int} (hx : x ∈ l) (hk : k < l.length) (hne : x ≠ el l k) : x ∈ l.take k ++ l.drop (k + 1) := by
  rw [← List.take_append_drop k l, List.drop_eq_getElem_cons hk] at hx
  rcases List.mem_append.1 hx with h | h
  · exact List.mem_append.2 (.inl h)
  · rcases List.mem_cons.1 h with h | h
    · rw [el_at hk] at hne; exact absurd h hne
    · exact List.mem_append.2 (.inr h)
theorem cut_mem {l : List Int} {k : Nat} {x : Int} (hx : x ∈ l.take k ++ l.drop (k + 1)) : x ∈ l := by
  rcases List.mem_append.1 hx with h | h
  · exact List.mem_of_mem_take h
  · exact List.mem_of_mem_drop h
theorem cut_len {l : List Int} {k : Nat} (hk : k < l.length) : (l.take k ++ l.drop (k + 1)).length + 1 = l.length := by simp; omega
/-- What the order comes to. -/
theorem behindP_facts (gs : List PNode) : ∀ (n : Nat) (o l : List Int), l.length ≤ n →
    (behindP gs n o l).1.length + (behindP gs n o l).2.length = o.length + l.length ∧
    (∀ x ∈ (behindP gs n o l).2, x ∈ l ∧ ledP gs (behindP gs n o l).2 x = true)
  | 0, o, l, h => by
    have : l = [] := List.length_eq_zero_iff.1 (by omega)
    subst this
    exact ⟨rfl, fun x hx => by simp [behindP] at hx⟩
  | n + 1, o, l, h => by
    rw [behindP]
    cases hp : l.findIdx? (fun b => !ledP gs l b) with
    | none =>
      refine ⟨rfl, fun x hx => ⟨hx, ?_⟩⟩
      rw [List.findIdx?_eq_none_iff] at hp
      have := hp x hx
      simpa using this
    | some k =>
      have hk : k < l.length := by rw [List.findIdx?_eq_some_iff_getElem] at hp; exact hp.1
      have hc := cut_len hk
      have ih := behindP_facts gs n (o ++ [el l k]) (l.take k ++ l.drop (k + 1)) (by omega)
      refine ⟨?_, fun x hx => ⟨cut_mem (ih.2 x hx).1, (ih.2 x hx).2⟩⟩
      have := ih.1
      simp only [List.length_append, List.length_singleton] at this hc ⊢
      omega
/-- Those of a round stay. -/
theorem behindP_round (gs : List PNode) {i : Nat} (hi : Rch gs i i) : ∀ (n : Nat) (o l : List Int), (∀ c, Rch gs i c → Rch gs c i → (c : Int) ∈ l) → (∀ x ∈ l, ∃ k : Nat, x = (k : Int)) → ∀ c, Rch gs i c → Rch gs c i → (c : Int) ∈ (behindP gs n o l).2
  | 0, o, l, h, _ => h
  | n + 1, o, l, h, hv => by
    rw [behindP]
    cases hp : l.findIdx? (fun b => !ledP gs l b) with
    | none => exact h
    | some k =>
      rw [List.findIdx?_eq_some_iff_getElem] at hp
      obtain ⟨hk, hb, _⟩ := hp
      refine behindP_round gs hi n (o ++ [el l k]) (l.take k ++ l.drop (k + 1)) (fun c h1 h2 => mem_cut (h c h1 h2) hk fun e => ?_) (fun x hx => hv x (cut_mem hx))
      -- it is led by one of the round
      rw [← el_at hk, ← e] at hb
      have hled : ledP gs l (c : Int) = true := by
        obtain ⟨b, hib, hbi, hbc⟩ : ∃ b, Rch gs i b ∧ Rch gs b i ∧ ((c : Nat) : Int) ∈ nxP gs b := by
          cases h1 with
          | one h3 => exact ⟨i, hi, hi, h3⟩
          | more h3 h4 => exact ⟨_, h3, (Rch.one h4).trans h2, h4⟩
        rw [ledP, List.any_eq_true]
        exact ⟨(b : Int), h b hib hbi, leadsP_iff.2 hbc⟩
      rw [hled] at hb
      cases hb
/-- A way back along what leads. -/
theorem way_back {gs : List PNode} {s : Nat → Nat} (hs : ∀ k, ((s k : Nat) : Int) ∈ nxP gs (s (k + 1))) : ∀ (d k : Nat), Rch gs (s (k + d + 1)) (s k)
  | 0, k => .one (hs k)
  | d + 1, k => by
    have h := way_back hs d (k + 1)
    rw [show k + 1 + d + 1 = k + (d + 1) + 1 by omega] at h
    exact h.trans (.one (hs k))
theorem round_of_led {gs : List PNode} {l : List Int} (hne : l ≠ []) (hv : ∀ x ∈ l, ∃ k : Nat, k < gs.length ∧ x = (k : Int)) (hl : ∀ x ∈ l, ledP gs l x = true) : ∃ i, i < gs.length ∧ Rch gs i i := by
  have hpred : ∀ k : Nat, (k : Int) ∈ l → ∃ a : Nat, (a : Int) ∈ l ∧ ((k : Nat) : Int) ∈ nxP gs a := fun k hk => by
    have h := hl _ hk
    rw [ledP, List.any_eq_true] at h
    obtain ⟨x, hx, h⟩ := h
    obtain ⟨a, _, rfl⟩ := hv x hx
    exact ⟨a, hx, leadsP_iff.1 h⟩
  obtain ⟨x0, hx0⟩ : ∃ x0, x0 ∈ l := by
    cases l with
    | nil => exact absurd rfl hne
    | cons x r => exact ⟨x, by simp⟩
  obtain ⟨k0, hk0, rfl⟩ := hv x0 hx0
  have hch : ∀ k : Nat, ∃ a : Nat, (k : Int) ∈ l → ((a : Int) ∈ l ∧ ((k : Nat) : Int) ∈ nxP gs a) := fun k => by
    by_cases h : (k : Int) ∈ l
    · obtain ⟨a, ha⟩ := hpred k h
      exact ⟨a, fun _ => ha⟩
    · exact ⟨0, fun h' => absurd h' h⟩
  obtain ⟨s, hs0, hs1⟩ : ∃ s : Nat → Nat, s 0 = k0 ∧ ∀ k, s (k + 1) = Classical.choose (hch (s k)) := ⟨fun n => Nat.rec k0 (fun _ x => Classical.choose (hch x)) n, rfl, fun _ => rfl⟩
  have hsl : ∀ k, ((s k : Nat) : Int) ∈ l := fun k => by
    induction k with
    | zero => rw [hs0]; exact hx0
    | succ k ih => rw [hs1]; exact (Classical.choose_spec (hch (s k)) ih).1
  have hse : ∀ k, ((s k : Nat) : Int) ∈ nxP gs (s (k + 1)) := fun k => by rw [hs1]; exact (Classical.choose_spec (hch (s k)) (hsl k)).2
  have hlt : ∀ k, s k < gs.length := fun k => by
    obtain ⟨a, ha, e⟩ := hv _ (hsl k)
    omega
  have hnd : ¬ ((List.range (gs.length + 1)).map fun k => ((s k : Nat) : Int)).Nodup := fun h => by
    have := pigeon gs.length _ h (fun x hx => by
      obtain ⟨k, _, rfl⟩ := List.mem_map.1 hx
      have := hlt k
      omega)
    rw [List.length_map, List.length_range] at this
    omega
  have hex : ∃ i j, i < j ∧ s i = s j := by
    refine Classical.byContradiction fun hno => hnd ?_
    rw [List.Nodup, List.pairwise_map, List.pairwise_iff_getElem]
    intro i j hi hj hij e
    simp only [List.getElem_range] at e
    exact hno ⟨i, j, hij, by omega⟩
  obtain ⟨i, j, hij, e⟩ := hex
  have hw := way_back hse (j - i - 1) i
  rw [show i + (j - i - 1) + 1 = j by omega, ← e] at hw
  exact ⟨s i, hlt i, hw⟩
theorem order_short {gs : List PNode} (hE : EdgesIn gs) : (orderP gs).length < gs.length ↔ ∃ i, i < gs.length ∧ Rch gs i i := by
  have hf := behindP_facts gs gs.length [] (numsI gs.length) (by rw [numsI_len]; exact Nat.le_refl _)
  have hlen := hf.1
  rw [numsI_len] at hlen
  simp only [List.length_nil] at hlen
  constructor
  · intro h
    refine round_of_led (l := (behindP gs gs.length [] (numsI gs.length)).2) (fun e => ?_) (fun x hx => numsI_mem (hf.2 x hx).1) (fun x hx => (hf.2 x hx).2)
    rw [e] at hlen
    unfold orderP at h
    simp at hlen
    omega
  · rintro ⟨i, hi, hr⟩
    have h := behindP_round gs hr gs.length [] (numsI gs.length) (fun c h1 _ => numsI_has (h1.lt hE hi)) (fun x hx => by obtain ⟨k, _, e⟩ := numsI_mem hx; exact ⟨k, e⟩) i hr hr
    have : 0 < (behindP gs gs.length [] (numsI gs.length)).2.length := List.length_pos_of_mem h
    unfold orderP
    omega
end Go.Proofs.YteamcpcjooglaaaDoor
