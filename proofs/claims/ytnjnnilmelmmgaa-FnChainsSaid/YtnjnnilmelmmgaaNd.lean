
/- Hands: rows of ints of their own behind one row of heads. No conditions but those written. -/
import Derived.Test.YtnjnnilmelmmgaaNc
import Derived.Test.YtnjnnilmelmmgaaAo
namespace Go.Proofs.Ytnjnnilmelmmgaa
open Go.RowKit

/-- At g lie the heads xs of the rows ls; each row is nil or lies in a block of its own behind g. -/
structure Hands (g : Nat) (W : World) (xs : List Value) (ls : List (List Int)) : Prop where
  len : xs.length = ls.length
  head : W.ownsRow g 28 1 (.slice (some ⟨g, 0, none⟩) ls.length ls.length) ls.length xs
  row : ∀ j, j < ls.length → kI.Own (g + 1) W (el xs j) (el ls j)
  off : ∀ i j, i < j → j < ls.length → ∀ b, (el xs i).ownBlock = some b → (el xs j).ownBlock ≠ some b
theorem el_set_same {α : Type} [Inhabited α] {l : List α} {k : Nat} {x : α} (h : k < l.length) : el (l.set k x) k = x := by simp [el, h]
theorem el_set_far {α : Type} [Inhabited α] {l : List α} {k j : Nat} {x : α} (h : j ≠ k) : el (l.set k x) j = el l j := by simp [el, Ne.symm h]
theorem own_block_lt {lo : Nat} {W : World} {v : Value} {xs : List Int} (h : kI.Own lo W v xs) {b : Nat} (hb : v.ownBlock = some b) : lo ≤ b ∧ b < W.heap.size := by
  rcases h.2 with ⟨e, _⟩ | ⟨g, cap, cur, e, hg, hh, _⟩
  · subst e; simp [Value.ownBlock] at hb
  · subst e; simp [Value.ownBlock] at hb; subst hb; exact ⟨hg, (Array.getElem?_eq_some_iff.1 hh).1⟩
theorem own_keep {lo : Nat} {W W' : World} {v : Value} {xs : List Int} (h : kI.Own lo W v xs) (hk : ∀ b, v.ownBlock = some b → W'.heap[b]? = W.heap[b]?) : kI.Own lo W' v xs := by
  obtain ⟨h1, h2⟩ := h
  refine ⟨h1, ?_⟩
  rcases h2 with h2 | ⟨g, cap, cur, e, hg, hh, r⟩
  · exact .inl h2
  · refine .inr ⟨g, cap, cur, e, hg, ?_, r⟩
    rw [hk g (by subst e; rfl)]; exact hh
theorem Hands.later {g : Nat} {W W' : World} {xs : List Value} {ls : List (List Int)} (h : Hands g W xs ls) (hb : Below W.heap.size W W') : Hands g W' xs ls :=
  ⟨h.len, ownsRow_below h.head hb, fun j hj => (h.row j hj).below hb, h.off⟩
theorem Hands.size {g : Nat} {W : World} {xs : List Value} {ls : List (List Int)} (h : Hands g W xs ls) : g < W.heap.size := (owns_lt h.head).2
/-- One row has grown; its head is written. -/
theorem Hands.put {g t : Nat} {W W' : World} {xs : List Value} {ls : List (List Int)} {v : Value} {x : List Int} (h : Hands g W xs ls) (ht : t < ls.length) (hO : kI.Own (g + 1) W' v x) (hG : W.grownBy W' (el xs t).ownBlock) (hw : ∀ b, v.ownBlock = some b → (el xs t).ownBlock = some b ∨ W.heap.size ≤ b) :
    Hands g (W'.setCell ⟨g, t, none⟩ v) (xs.set t v) (ls.set t x) := by
  have hx : t < xs.length := by rw [h.len]; exact ht
  have hkeep : ∀ b, b < W.heap.size → (el xs t).ownBlock ≠ some b → W'.heap[b]? = W.heap[b]? := fun b hb hne => hG.block b hb (fun e => hne e.symm)
  have hgne : (el xs t).ownBlock ≠ some g := fun e => by have := (own_block_lt (h.row t ht) e).1; omega
  have hset : ∀ b, b ≠ g → (W'.setCell ⟨g, t, none⟩ v).heap[b]? = W'.heap[b]? := fun b hb => Below.heap_setCell _ _ _ _ hb
  have hhead : W'.ownsRow g 28 1 (.slice (some ⟨g, 0, none⟩) ls.length ls.length) ls.length xs := owns_block h.head (hkeep g h.size hgne)
  refine ⟨by simp [h.len], ?_, ?_, ?_⟩
  · rw [List.length_set]
    exact (hhead.stored t v).1
  · intro j hj
    rw [List.length_set] at hj
    by_cases e : j = t
    · subst e
      rw [el_set_same hx, el_set_same ht]
      exact own_keep hO fun b hb => hset b (by have := (own_block_lt hO hb).1; omega)
    · rw [el_set_far e, el_set_far e]
      refine own_keep (h.row j hj) fun b hb => ?_
      have hbl := own_block_lt (h.row j hj) hb
      rw [hset b (by omega)]
      refine hkeep b hbl.2 fun e' => ?_
      rcases Nat.lt_or_ge j t with hjt | hjt
      · exact h.off j t hjt ht b hb e'
      · exact h.off t j (by omega) hj b e' hb
  · intro i j hij hj b hi
    rw [List.length_set] at hj
    by_cases e1 : i = t
    · subst e1
      rw [el_set_same hx] at hi
      rw [el_set_far (by omega)]
      intro hjb
      rcases hw b hi with h1 | h1
      · exact h.off i j hij hj b h1 hjb
      · have := (own_block_lt (h.row j hj) hjb).2; omega
    · rw [el_set_far e1] at hi
      by_cases e2 : j = t
      · subst e2
        rw [el_set_same hx]
        intro hjb
        rcases hw b hjb with h1 | h1
        · exact h.off i j hij hj b hi h1
        · have := (own_block_lt (h.row i (by omega)) hi).2; omega
      · rw [el_set_far e2]
        exact h.off i j hij hj b hi
/-- One row has grown: the heads stand. -/
theorem Hands.mid {g t : Nat} {W W' : World} {xs : List Value} {ls : List (List Int)} (h : Hands g W xs ls) (ht : t < ls.length) (hG : W.grownBy W' (el xs t).ownBlock) : W'.ownsRow g 28 1 (.slice (some ⟨g, 0, none⟩) ls.length ls.length) ls.length xs :=
  owns_block h.head (hG.block g h.size fun e => by have := (own_block_lt (h.row t ht) e.symm).1; omega)
/-- The heads are read out of the values. -/
def hdr : Value → Option Addr × Nat × Nat
  | .slice o n c => (o, n, c)
  | _ => (none, 0, 0)
theorem Hands.slice {g j : Nat} {W : World} {xs : List Value} {ls : List (List Int)} (h : Hands g W xs ls) (hj : j < ls.length) : ∃ o c, el xs j = .slice o (el ls j).length c ∧ (o = none → c = 0) ∧ kI.Fresh (g + 1) W.heap.size W o c (el ls j) := (h.row j hj).fresh
theorem el_map {α β : Type} [Inhabited α] [Inhabited β] (f : α → β) {l : List α} {j : Nat} (h : j < l.length) : el (l.map f) j = f (el l j) := by simp [el, h]
theorem Hands.flat {g : Nat} {W : World} {xs : List Value} {ls : List (List Int)} (h : Hands g W xs ls) : kR.flat (xs.map hdr) = xs := by
  refine (kR.flat_of xs (xs.map hdr) (by simp [kR]) fun j hj i hi => ?_).symm
  have e : i = 0 := by have : i < 1 := hi; omega
  subst e
  rw [List.length_map] at hj
  obtain ⟨o, c, hs, _, _⟩ := h.slice (j := j) (by rw [← h.len]; exact hj)
  rw [el_map hdr hj, hs]
  show xs[j * 1 + 0]? = _
  rw [Nat.mul_one, Nat.add_zero]
  have : xs[j]? = some (el xs j) := by simp [el, hj]
  rw [this, hs]
  rfl
theorem Hands.fr {g : Nat} {W : World} {xs : List Value} {ls : List (List Int)} (h : Hands g W xs ls) : FrRR g W.heap.size W (some ⟨g, 0, none⟩) ls.length (xs.map hdr) ls := by
  refine ⟨.inr ⟨g, rfl, h.size, ?_⟩, by simp [h.len], fun j hj => ?_, fun i j hij hj => ?_⟩
  · rw [List.length_map, h.len, h.flat]; exact h.head
  · obtain ⟨o, c, hs, _, hF⟩ := h.slice hj
    rw [el_map hdr (by rw [h.len]; exact hj), hs]
    exact ⟨rfl, hF.wide (by omega) (Nat.le_refl _)⟩
  · obtain ⟨o, c, hs, _, hF⟩ := h.slice (j := i) (by omega)
    obtain ⟨o', c', hs', _, hF'⟩ := h.slice hj
    have hoff := h.off i j hij hj
    rw [el_map hdr (by rw [h.len]; omega), el_map hdr (by rw [h.len]; exact hj), hs, hs']
    rw [hs, hs'] at hoff
    rcases hF with e | ⟨b, rfl, _⟩
    · rw [e]; exact .inl rfl
    · refine .inr (.inr fun e => ?_)
      dsimp only [hdr] at e
      subst e
      exact hoff b rfl rfl
theorem hands_made {g n : Nat} {W : World} (h : W.ownsRow g 28 1 (.slice (some ⟨g, 0, none⟩) n n) n (madeCells (Value.slice none 0 0).cells (n * 1)).toList) : ∃ xs, Hands g W xs (List.replicate n []) := by
  have e : (madeCells (Value.slice none 0 0).cells (n * 1)).toList = List.replicate (n * 1) (.slice none 0 0) := toList_madeCells_one _ _
  rw [e, Nat.mul_one] at h
  have hel : ∀ j, j < n → el (List.replicate n (Value.slice none 0 0)) j = .slice none 0 0 := fun j hj => by simp [el, hj]
  refine ⟨List.replicate n (.slice none 0 0), by simp, by simpa using h, fun j hj => ?_, fun i j hij hj b hb => ?_⟩
  · simp at hj
    rw [hel j hj, show el (List.replicate n ([] : List Int)) j = [] from by simp [el, hj]]
    exact Kind.Own.nil _ _ _
  · simp at hj
    rw [hel i (by omega)] at hb
    simp [Value.ownBlock] at hb
end Go.Proofs.Ytnjnnilmelmmgaa
