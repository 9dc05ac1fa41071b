
/- Reaching in a graph, plainly. No conditions but those written. -/
import Derived.Test.YteamcpcjooglaaaDoorFp
namespace Go.Proofs.YteamcpcjooglaaaDoor
open Go.RowKit

/-- What a node leads to. -/
def nxP (gs : List PNode) (a : Nat) : List Int := (el gs a).2.2.2.2.2
/-- One is reached from another by one step at least. -/
inductive Rch (gs : List PNode) : Nat → Nat → Prop
  | one {a b : Nat} : ((b : Nat) : Int) ∈ nxP gs a → Rch gs a b
  | more {a b c : Nat} : Rch gs a b → ((c : Nat) : Int) ∈ nxP gs b → Rch gs a c
/-- All that nodes lead to are nodes, and not too many. -/
structure EdgesIn (gs : List PNode) : Prop where
  rng : ∀ a, a < gs.length → ∀ x ∈ nxP gs a, ∃ j : Nat, j < gs.length ∧ x = (j : Int)
  few : ∀ a, a < gs.length → (nxP gs a).length ≤ 10
  many : gs.length ≤ 10
/-- How far a search has come. -/
structure Bfs (gs : List PNode) (f : Nat) (t : Int) (todo : List Int) (sn : List Bool) : Prop where
  len : sn.length = gs.length
  way : ∀ x ∈ todo, ∃ j : Nat, j < gs.length ∧ x = (j : Int) ∧ Rch gs f j
  ns : ∀ j, el sn j = true → (j : Int) ≠ t
  fst : ∀ x ∈ nxP gs f, x ∈ todo ∨ el sn x.toNat = true
  nxt : ∀ j, j < gs.length → el sn j = true → ∀ x ∈ nxP gs j, x ∈ todo ∨ el sn x.toNat = true
theorem Bfs.start {gs : List PNode} {f : Nat} {t : Int} (hE : EdgesIn gs) (hf : f < gs.length) : Bfs gs f t (nxP gs f) (List.replicate gs.length false) where
  len := by simp
  way x hx := by
    obtain ⟨j, hj, rfl⟩ := hE.rng f hf x hx
    exact ⟨j, hj, rfl, .one hx⟩
  ns j hj := by
    simp only [el, List.getElem?_replicate] at hj
    split at hj <;> simp at hj
  fst x hx := .inl hx
  nxt j _ hj := by
    simp only [el, List.getElem?_replicate] at hj
    split at hj <;> simp at hj
theorem Bfs.hit {gs : List PNode} {f j : Nat} {t : Int} {r : List Int} {sn : List Bool} (h : Bfs gs f t (t :: r) sn) (e : t = (j : Int)) : Rch gs f j := by
  obtain ⟨k, _, e2, hr⟩ := h.way t (by simp)
  have : k = j := by omega
  subst this; exact hr
theorem Bfs.skip {gs : List PNode} {f : Nat} {t x : Int} {r : List Int} {sn : List Bool} (h : Bfs gs f t (x :: r) sn) (hx : el sn x.toNat = true) : Bfs gs f t r sn where
  len := h.len
  way y hy := h.way y (by simp [hy])
  ns := h.ns
  fst y hy := by
    rcases h.fst y hy with h1 | h1
    · rcases List.mem_cons.1 h1 with rfl | h2
      · exact .inr hx
      · exact .inl h2
    · exact .inr h1
  nxt j hj hs y hy := by
    rcases h.nxt j hj hs y hy with h1 | h1
    · rcases List.mem_cons.1 h1 with rfl | h2
      · exact .inr hx
      · exact .inl h2
    · exact .inr h1
theorem el_setB {l : List Bool} {i j : Nat} (h : i < l.length) : el (l.set i true) j = if j = i then true else el l j := by
  by_cases e : j = i
  · subst e; simp [el, h]
  · rw [if_neg e]; simp [el, Ne.symm e]
theorem Bfs.mark {gs : List PNode} {f k : Nat} {t : Int} {r : List Int} {sn : List Bool} (hE : EdgesIn gs) (h : Bfs gs f t ((k : Int) :: r) sn) (hk : k < gs.length) (hne : (k : Int) ≠ t) : Bfs gs f t (r ++ nxP gs k) (sn.set k true) where
  len := by rw [List.length_set]; exact h.len
  way y hy := by
    rcases List.mem_append.1 hy with h1 | h1
    · exact h.way y (by simp [h1])
    · obtain ⟨j, hj, rfl⟩ := hE.rng k hk y h1
      obtain ⟨k', _, e, hr⟩ := h.way (k : Int) (by simp)
      have : k' = k := by omega
      subst this
      exact ⟨j, hj, rfl, .more hr h1⟩
  ns j hj := by
    rw [el_setB (by rw [h.len]; exact hk)] at hj
    split at hj
    · subst_vars; exact hne
    · exact h.ns j hj
  fst y hy := by
    rw [el_setB (by rw [h.len]; exact hk)]
    rcases h.fst y hy with h1 | h1
    · rcases List.mem_cons.1 h1 with rfl | h2
      · right; simp
      · left; simp [h2]
    · right; split
      · rfl
      · exact h1
  nxt j hj hs y hy := by
    rw [el_setB (by rw [h.len]; exact hk)] at hs ⊢
    by_cases e : j = k
    · subst e; left; simp [hy]
    · rw [if_neg e] at hs
      rcases h.nxt j hj hs y hy with h1 | h1
      · rcases List.mem_cons.1 h1 with rfl | h2
        · right; simp
        · left; simp [h2]
      · right; split
        · rfl
        · exact h1
theorem Rch.lt {gs : List PNode} {a b : Nat} (hE : EdgesIn gs) (h : Rch gs a b) (ha : a < gs.length) : b < gs.length := by
  induction h with
  | one h => obtain ⟨j, hj, e⟩ := hE.rng _ ha _ h; omega
  | more _ h ih => obtain ⟨j, hj, e⟩ := hE.rng _ ih _ h; omega
theorem Bfs.done {gs : List PNode} {f : Nat} {j : Nat} {sn : List Bool} (hE : EdgesIn gs) (hf : f < gs.length) (h : Bfs gs f (j : Int) [] sn) : ¬ Rch gs f j := by
  have hall : ∀ b, Rch gs f b → el sn b = true := by
    intro b hb
    induction hb with
    | one h1 =>
      rcases h.fst _ h1 with h2 | h2
      · cases h2
      · simpa using h2
    | more h1 h2 ih =>
      rcases h.nxt _ (h1.lt hE hf) ih _ h2 with h3 | h3
      · cases h3
      · simpa using h3
  intro hr
  exact h.ns j (hall j hr) rfl
/-- How much is still to be done. -/
def leftB (todo : List Int) (sn : List Bool) : Nat := todo.length + 11 * sn.count false
theorem count_mark {sn : List Bool} {k : Nat} (hk : k < sn.length) (h : el sn k = false) : (sn.set k true).count false + 1 = sn.count false := by
  induction sn generalizing k with
  | nil => simp at hk
  | cons x r ih =>
    cases k with
    | zero => rw [el_zero] at h; subst h; simp
    | succ k =>
      rw [el_cons] at h
      have := ih (by simpa using hk) h
      simp only [List.set_cons_succ, List.count_cons]; omega
end Go.Proofs.YteamcpcjooglaaaDoor
