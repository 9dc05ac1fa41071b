
/- Plain facts on heaps of places whose order is strict and weak. No conditions but those written. -/
import Derived.Test.YtpbgkkemaioidaaOPa
namespace Go.Proofs.Ytpbgkkemaioidaa.Old

/-- A strict weak order. -/
structure SW (lt : Nat → Nat → Bool) : Prop where
  asymm : ∀ a b, lt a b = true → lt b a = false
  trans : ∀ a b c, lt a b = true → lt b c = true → lt a c = true
  neg : ∀ a b c, lt a b = false → lt b c = false → lt a c = false
theorem SW.irrefl {lt : Nat → Nat → Bool} (h : SW lt) (a : Nat) : lt a a = false := by
  cases e : lt a a
  · rfl
  · have := h.asymm a a e; rw [e] at this; cases this

def ltT (ts : List T3) (a b : Nat) : Bool := beforeB (t3 ts a) (t3 ts b)
theorem before_iff (a b : T3) : beforeB a b = true ↔ (a.2.1 < b.2.1 ∨ (a.2.1 = b.2.1 ∧ a.2.2 < b.2.2)) := by
  unfold beforeB
  by_cases h : a.2.1 = b.2.1
  · rw [if_pos h, decide_eq_true_eq]; omega
  · rw [if_neg h, decide_eq_true_eq]; omega
theorem before_not (a b : T3) : beforeB a b = false ↔ ¬ (a.2.1 < b.2.1 ∨ (a.2.1 = b.2.1 ∧ a.2.2 < b.2.2)) := by
  rw [← before_iff]; simp
theorem ltT_sw (ts : List T3) : SW (ltT ts) := by
  refine ⟨fun a b h => ?_, fun a b c h k => ?_, fun a b c h k => ?_⟩
  · unfold ltT at *; rw [before_iff] at h; rw [before_not]; omega
  · unfold ltT at *; rw [before_iff] at *; omega
  · unfold ltT at *; rw [before_not] at *; omega

def pl (xs : List Nat) (i : Nat) : Nat := xs[i]?.getD 0
def swapL (xs : List Nat) (a b : Nat) : List Nat := (xs.set a (pl xs b)).set b (pl xs a)
theorem swapL_len (xs : List Nat) (a b : Nat) : (swapL xs a b).length = xs.length := by simp [swapL]
theorem swapL_perm (xs : List Nat) (a b : Nat) (ha : a < xs.length) (hb : b < xs.length) : (swapL xs a b).Perm xs := by
  have := List.set_set_perm (as := xs) ha hb
  simpa [swapL, pl, ha, hb] using this
theorem pl_swap (xs : List Nat) (a b i : Nat) (ha : a < xs.length) (hb : b < xs.length) : pl (swapL xs a b) i = if i = b then pl xs a else if i = a then pl xs b else pl xs i := by
  have e1 : pl (swapL xs a b) i = ((if b = i then (if b < xs.length then some (pl xs a) else none) else if a = i then (if a < xs.length then some (pl xs b) else none) else xs[i]?) : Option Nat).getD 0 := by
    show ((xs.set a (pl xs b)).set b (pl xs a))[i]?.getD 0 = _
    rw [List.getElem?_set, List.length_set, List.getElem?_set]
  rw [e1]
  by_cases e : b = i
  · rw [if_pos e, if_pos hb, if_pos e.symm]; rfl
  · rw [if_neg e, if_neg (show ¬ i = b from fun h => e h.symm)]
    by_cases e' : a = i
    · rw [if_pos e', if_pos ha, if_pos e'.symm]; rfl
    · rw [if_neg e', if_neg (show ¬ i = a from fun h => e' h.symm)]; rfl

/-- Neither place below comes ahead of the one above it. -/
def IsHeap (lt : Nat → Nat → Bool) (xs : List Nat) : Prop := ∀ i, 0 < i → i < xs.length → lt (pl xs i) (pl xs ((i - 1) / 2)) = false
/-- A heap but for what stands at a and above. -/
def HeapUp (lt : Nat → Nat → Bool) (xs : List Nat) (a : Nat) : Prop :=
  (∀ i, 0 < i → i < xs.length → i ≠ a → lt (pl xs i) (pl xs ((i - 1) / 2)) = false) ∧ (0 < a → ∀ c, 0 < c → c < xs.length → (c - 1) / 2 = a → lt (pl xs c) (pl xs ((a - 1) / 2)) = false)
theorem HeapUp.done0 {lt : Nat → Nat → Bool} {xs : List Nat} (h : HeapUp lt xs 0) : IsHeap lt xs := fun i h0 hn => h.1 i h0 hn (by omega)
theorem HeapUp.done {lt : Nat → Nat → Bool} {xs : List Nat} {a : Nat} (h : HeapUp lt xs a) (hl : lt (pl xs a) (pl xs ((a - 1) / 2)) = false) : IsHeap lt xs := fun i h0 hn => by
  by_cases e : i = a
  · subst e; exact hl
  · exact h.1 i h0 hn e
theorem HeapUp.up {lt : Nat → Nat → Bool} (sw : SW lt) {xs : List Nat} {a : Nat} (h : HeapUp lt xs a) (ha : 0 < a) (han : a < xs.length) (hl : lt (pl xs a) (pl xs ((a - 1) / 2)) = true) : HeapUp lt (swapL xs a ((a - 1) / 2)) ((a - 1) / 2) := by
  obtain ⟨u, hu⟩ : ∃ u, u = (a - 1) / 2 := ⟨_, rfl⟩
  rw [← hu] at hl ⊢
  have hun : u < xs.length := by omega
  have hua : u ≠ a := by omega
  have P : ∀ i, pl (swapL xs a u) i = if i = u then pl xs a else if i = a then pl xs u else pl xs i := fun i => pl_swap xs a u i han hun
  refine ⟨fun i h0 hn hne => ?_, fun hu0 c h0 hn hc => ?_⟩
  · rw [swapL_len] at hn
    rw [P i, if_neg hne]
    by_cases ei : i = a
    · rw [if_pos ei, ei, ← hu, P u, if_pos rfl]
      exact sw.asymm _ _ hl
    · rw [if_neg ei]
      by_cases e1 : (i - 1) / 2 = u
      · rw [e1, P u, if_pos rfl]
        have h1 := h.1 i h0 hn ei
        rw [e1] at h1
        cases e : lt (pl xs i) (pl xs a)
        · rfl
        · have := sw.trans _ _ _ e hl; rw [h1] at this; cases this
      · rw [P, if_neg e1]
        by_cases e2 : (i - 1) / 2 = a
        · rw [if_pos e2]
          have := h.2 ha i h0 hn e2
          rw [← hu] at this; exact this
        · rw [if_neg e2]; exact h.1 i h0 hn ei
  · rw [swapL_len] at hn
    have hpu : (u - 1) / 2 ≠ u := by omega
    have hpa : (u - 1) / 2 ≠ a := by omega
    rw [P ((u - 1) / 2), if_neg hpu, if_neg hpa]
    have hup := h.1 u hu0 hun hua
    have hcu : c ≠ u := by omega
    rw [P c, if_neg hcu]
    by_cases ec : c = a
    · rw [if_pos ec]; exact hup
    · rw [if_neg ec]
      have h1 := h.1 c h0 hn ec
      rw [hc] at h1
      exact sw.neg _ _ _ h1 hup
/-- A heap but for the places right below a. -/
def HeapBut (lt : Nat → Nat → Bool) (xs : List Nat) (a : Nat) : Prop :=
  (∀ i, 0 < i → i < xs.length → (i - 1) / 2 ≠ a → lt (pl xs i) (pl xs ((i - 1) / 2)) = false) ∧ (0 < a → ∀ c, 0 < c → c < xs.length → (c - 1) / 2 = a → lt (pl xs c) (pl xs ((a - 1) / 2)) = false)
/-- f stands at a or right below it, and of these nothing before bound comes ahead of it. -/
def FirstOf (lt : Nat → Nat → Bool) (xs : List Nat) (a f bound : Nat) : Prop :=
  (f = a ∨ (f < xs.length ∧ 0 < f ∧ (f - 1) / 2 = a ∧ lt (pl xs f) (pl xs a) = true)) ∧ ∀ c, 0 < c → c < xs.length → c < bound → (c - 1) / 2 = a → lt (pl xs c) (pl xs f) = false
theorem FirstOf.same {lt : Nat → Nat → Bool} {xs : List Nat} {a bound : Nat} (hb : HeapBut lt xs a) (h : FirstOf lt xs a a bound) (hbd : 2 * a + 2 < bound ∨ xs.length ≤ bound) : IsHeap lt xs := fun i h0 hn => by
  by_cases e : (i - 1) / 2 = a
  · rw [e]; exact h.2 i h0 hn (by omega) e
  · exact hb.1 i h0 hn e
theorem FirstOf.start {lt : Nat → Nat → Bool} (xs : List Nat) (a : Nat) : FirstOf lt xs a a (2 * a + 1) := ⟨.inl rfl, fun c h0 hn hb e => by omega⟩
theorem FirstOf.keep {lt : Nat → Nat → Bool} {xs : List Nat} {a f b : Nat} (h : FirstOf lt xs a f b) (hl : lt (pl xs b) (pl xs f) = false) : FirstOf lt xs a f (b + 1) := ⟨h.1, fun c h0 hn hb e => by
  by_cases ec : c = b
  · subst ec; exact hl
  · exact h.2 c h0 hn (by omega) e⟩
theorem FirstOf.take {lt : Nat → Nat → Bool} (sw : SW lt) {xs : List Nat} {a f b : Nat} (h : FirstOf lt xs a f b) (hbn : b < xs.length) (hba : 0 < b ∧ (b - 1) / 2 = a) (hl : lt (pl xs b) (pl xs f) = true) : FirstOf lt xs a b (b + 1) := by
  refine ⟨.inr ⟨hbn, hba.1, hba.2, ?_⟩, fun c h0 hn hb e => ?_⟩
  · rcases h.1 with rfl | ⟨_, _, _, h1⟩
    · exact hl
    · exact sw.trans _ _ _ hl h1
  · by_cases ec : c = b
    · subst ec; exact sw.irrefl _
    · have h1 := h.2 c h0 hn (by omega) e
      cases e' : lt (pl xs c) (pl xs b)
      · rfl
      · have := sw.trans _ _ _ e' hl; rw [h1] at this; cases this
theorem HeapBut.down {lt : Nat → Nat → Bool} (sw : SW lt) {xs : List Nat} {a f bound : Nat} (h : HeapBut lt xs a) (hf : FirstOf lt xs a f bound) (hbd : 2 * a + 2 < bound ∨ xs.length ≤ bound) (hne : f ≠ a) (han : a < xs.length) : a < f ∧ f < xs.length ∧ HeapBut lt (swapL xs a f) f := by
  rcases hf.1 with e | ⟨hfn, hf0, hfa, hl⟩
  · exact absurd e hne
  have P : ∀ i, pl (swapL xs a f) i = if i = f then pl xs a else if i = a then pl xs f else pl xs i := fun i => pl_swap xs a f i han hfn
  refine ⟨by omega, hfn, fun i h0 hn hp => ?_, fun _ c h0 hn hc => ?_⟩
  · rw [swapL_len] at hn
    rw [P ((i - 1) / 2), if_neg hp, P i]
    by_cases e1 : i = f
    · rw [if_pos e1, e1, hfa, if_pos rfl]
      exact sw.asymm _ _ hl
    · rw [if_neg e1]
      by_cases e2 : i = a
      · rw [if_pos e2]
        have e3 : (i - 1) / 2 ≠ a := by omega
        rw [if_neg e3, e2]
        exact h.2 (by omega) f hf0 hfn hfa
      · rw [if_neg e2]
        by_cases e3 : (i - 1) / 2 = a
        · rw [if_pos e3]; exact hf.2 i h0 hn (by omega) e3
        · rw [if_neg e3]; exact h.1 i h0 hn e3
  · rw [swapL_len] at hn
    have e1 : (f - 1) / 2 ≠ f := by omega
    rw [P ((f - 1) / 2), if_neg e1, hfa, if_pos rfl]
    have e2 : c ≠ f := by omega
    have e3 : c ≠ a := by omega
    rw [P c, if_neg e2, if_neg e3]
    have := h.1 c h0 hn (by omega)
    rw [hc] at this; exact this
theorem IsHeap.least {lt : Nat → Nat → Bool} (sw : SW lt) {xs : List Nat} (h : IsHeap lt xs) : ∀ i, i < xs.length → lt (pl xs i) (pl xs 0) = false := by
  intro i
  induction i using Nat.strongRecOn with
  | ind i ih =>
    intro hn
    by_cases e : i = 0
    · subst e; exact sw.irrefl _
    · exact sw.neg _ _ _ (h i (by omega) hn) (ih ((i - 1) / 2) (by omega) (by omega))
end Go.Proofs.Ytpbgkkemaioidaa.Old
