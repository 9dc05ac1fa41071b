
/- How rows of rows that come in are read. No conditions but those written. -/
import Derived.Test.YtnjnnilmelmmgaaRab
import Derived.Test.YtnjnnilmelmmgaaNa
namespace Go.Proofs.Ytnjnnilmelmmgaa
open Go.ChangeShapes Go.WideShapes Go.ChangeAt Go.RowKit Go.Joins Go.Deep

theorem Try.cells28 : Try.prog.cellsOf 28 = 1 := by kernel_rfl
theorem el_range_map {α : Type} [Inhabited α] (f : Nat → α) {n j : Nat} (h : j < n) : el ((List.range n).map f) j = f j := by simp [el, h]
set_option maxRecDepth 100000 in
theorem read_kII {H : Type} {enc : TypeId × Value → H} {W : World} {spare : Nat → Bool} {held : Bool} {fuel : Nat} {c : Value} {x : DataW H × List MemPlace}
    (h : DataW.trod enc Try.prog W 0 spare held fuel 43 [c] = some x) : ∃ (ao : Option Addr) (cap : Nat) (hs : List (Option Addr × Nat × Nat)) (ts : List (List Int)), c = .slice ao ts.length cap ∧ ts.length ≤ 9223372036854775807 ∧ (∀ l ∈ ts, l.length ≤ 9223372036854775807) ∧ InRR W.heap.size W ao hs ts := by
  rcases open_slice1 Try.underlying43 Try.cells28 h with ⟨hcs, _⟩ | ⟨a, len, cap, m, n, V, D, Pl, hcs, hb, hl, hm, hmm, hx, hel⟩
  · simp at hcs; subst hcs; exact ⟨none, 0, [], [], rfl, by simp, by simp, InRR.nil _ _ _⟩
  · simp at hcs; subst hcs
    have hlm : len ≤ m := by rw [hmm]; split <;> omega
    have each : ∀ i, i < m → ∃ q : Option Addr × Nat × List Int, V i = .slice q.1 q.2.2.length q.2.1 ∧ q.2.2.length ≤ 9223372036854775807 ∧ kI.In W.heap.size W q.1 q.2.2 := by
      intro i hi
      obtain ⟨qo, qc, zs, h1, h2, h3⟩ := read_kI (hel i hi).2
      exact ⟨(qo, qc, zs), h1, h2, h3⟩
    obtain ⟨q, hq⟩ := choose_lt each
    refine ⟨some a, cap, (List.range len).map (fun i => ((q i).1, (q i).2.2.length, (q i).2.1)), (List.range len).map (fun i => (q i).2.2), by simp, by simp; unfold maxLen at hm; omega, ?_, ?_, by simp, ?_⟩
    · intro l hl'
      obtain ⟨i, hi, rfl⟩ := List.mem_map.1 hl'
      exact (hq i (by have := List.mem_range.1 hi; omega)).2.1
    · by_cases h0 : len = 0
      · subst h0; exact .inl (by simp)
      · obtain ⟨b, off, spot⟩ := a
        have hs : spot = none := addr_none (hel 0 (by omega)).1
        subst hs
        refine .inr ⟨b, off, rfl, ?_, fun j hj i hi => ?_⟩
        · have := World.block_lt_of_cell? _ _ (hel 0 (by omega)).1
          simpa [Addr.add] using this
        · have e : i = 0 := by have : i < 1 := hi; omega
          subst e
          simp only [List.length_map, List.length_range] at hj
          have h1 := (hel j (by omega)).1
          rw [add_none, (hq j (by omega)).1] at h1
          rw [el_range_map _ hj]
          simpa [kR] using h1
    · intro j hj
      simp only [List.length_map, List.length_range] at hj
      rw [el_range_map _ hj, el_range_map _ hj]
      exact ⟨rfl, (hq j (by omega)).2.2⟩
set_option maxRecDepth 100000 in
theorem read_kII0 {H : Type} {enc : TypeId × Value → H} {W : World} {spare : Nat → Bool} {held : Bool} {rr : Reach} {b0 : Nat} {v : Value} {d : DataW H} {p : List MemPlace}
    (hv : Value.okWide Try.prog W rr b0 43 v) (h : DataW.Trod enc Try.prog W 0 spare held 43 v d p) :
    ∃ (ao : Option Addr) (cap : Nat) (hs : List (Option Addr × Nat × Nat)) (ts : List (List Int)), v = .slice ao ts.length cap ∧ ts.length ≤ 9223372036854775807 ∧ (∀ l ∈ ts, l.length ≤ 9223372036854775807) ∧ InRR W.heap.size W ao hs ts := by
  obtain ⟨fuel, hf⟩ := h
  have hc : v.cells.toList = [v] := by
    obtain ⟨x, y, z, rfl⟩ : ∃ x y z, v = .slice x y z := okWide_slice Try.underlying43 hv
    rfl
  rw [hc] at hf
  exact read_kII hf
end Go.Proofs.Ytnjnnilmelmmgaa
