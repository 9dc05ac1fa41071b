/- How a board that comes in is read as two lists. No conditions but those written. -/
import Derived.Test.YtemmjkmaiedadaaWd
import Derived.ProofKit
import Derived.Deep.SlicePairs
import Derived.Lib.SmallJoins
namespace Go.Proofs.Ytemmjkmaiedadaa
open Go.ChangeShapes Go.WideShapes Go.ChangeAt Go.RowKit Go.Joins Go.Deep

theorem Try.own : ownKnob Try.prog.godebug = none := by kernel_rfl
theorem Try.laidOut : laidOutB Try.prog = true := by kernel_rfl
theorem Try.cells25 : Try.prog.cellsOf 25 = 2 := by kernel_rfl
theorem Try.cells77 : Try.prog.cellsOf 77 = 2 := by kernel_rfl
theorem Try.cells3 : Try.prog.cellsOf 3 = 1 := by kernel_rfl

theorem addr_none {W : World} {b off : Nat} {spot : Option _} {v : Value} (h : W.cell? ((⟨b, off, spot⟩ : Addr).add 0) = some v) : spot = none := by
  simpa [Addr.add] using World.cell?_spot h
theorem add_none (b off i : Nat) : (⟨b, off, none⟩ : Addr).add i = ⟨b, off + i, none⟩ := by
  by_cases h : i = 0 <;> simp [Addr.add, h]

theorem read_ints {H : Type} {enc : TypeId × Value → H} {W : World} {spare : Nat → Bool} {held : Bool} {fuel : Nat} {c : Value} {x : DataW H × List MemPlace}
    (h : DataW.trod enc Try.prog W 0 spare held fuel 23 [c] = some x) : ∃ ao cap zs, c = .slice ao (zs : List Int).length cap ∧ zs.length ≤ 9223372036854775807 ∧ IntsIn W.heap.size W ao zs := by
  rcases open_slice1 Try.underlying23 Try.cells3 h with ⟨hcs, _⟩ | ⟨a, len, cap, m, n, V, D, Pl, hcs, hb, hl, hm, hmm, hx, hel⟩
  · simp at hcs; subst hcs; exact ⟨none, 0, [], rfl, by simp, .inl rfl⟩
  · simp at hcs; subst hcs
    have hlm : len ≤ m := by rw [hmm]; split <;> omega
    refine ⟨some a, cap, (List.range len).map (fun i => intOf (V i)), by simp, by simp; unfold maxLen at hm; omega, ?_⟩
    by_cases h0 : len = 0
    · subst h0; exact .inl (by simp)
    · obtain ⟨b, off, spot⟩ := a
      have hs : spot = none := addr_none (hel 0 (by omega)).1
      subst hs
      refine .inr ⟨b, off, rfl, ?_, fun j hj => ?_⟩
      · have := World.block_lt_of_cell? _ _ (hel 0 (by omega)).1
        simpa [Addr.add] using this
      · simp at hj
        obtain ⟨h1, h2⟩ := hel j (by omega)
        obtain ⟨z, e, _, _⟩ := DataW.trod_int Try.underlying3 h2
        simp at e
        rw [e, add_none] at h1
        simpa [hj, e, intOf] using h1

theorem read_tasks {H : Type} {enc : TypeId × Value → H} {W : World} {spare : Nat → Bool} {held : Bool} {fuel : Nat} {c : Value} {x : DataW H × List MemPlace}
    (h : DataW.trod enc Try.prog W 0 spare held fuel 22 [c] = some x) : ∃ ao cap ts, c = .slice ao (ts : List (Int × Int)).length cap ∧ ts.length ≤ 9223372036854775807 ∧ TasksIn W.heap.size W ao ts := by
  rcases open_slice_pairs Try.underlying22 Try.underlying77 Try.cells77 rfl rfl Try.cells3 Try.cells3 h with ⟨hcs, _⟩ | ⟨a, len, cap, m, n, V0, V1, D0, D1, P0, P1, hcs, hb, hl, hm, hmm, hx, hel⟩
  · simp at hcs; subst hcs; exact ⟨none, 0, [], rfl, by simp, .inl rfl⟩
  · simp at hcs; subst hcs
    have hlm : len ≤ m := by rw [hmm]; split <;> omega
    refine ⟨some a, cap, (List.range len).map (fun i => (intOf (V0 i), intOf (V1 i))), by simp, by simp; unfold maxLen at hm; omega, ?_⟩
    by_cases h0 : len = 0
    · subst h0; exact .inl (by simp)
    · obtain ⟨b, off, spot⟩ := a
      have hs : spot = none := addr_none (hel 0 (by omega)).1
      subst hs
      refine .inr ⟨b, off, rfl, ?_, fun j hj => ?_⟩
      · have := World.block_lt_of_cell? _ _ (hel 0 (by omega)).1
        simpa [Addr.add] using this
      · simp at hj
        obtain ⟨h1, h2, h3, h4⟩ := hel j (by omega)
        obtain ⟨z, e, _, _⟩ := DataW.trod_int Try.underlying3 h3
        obtain ⟨y, e', _, _⟩ := DataW.trod_int Try.underlying3 h4
        simp at e e'
        rw [e, add_none] at h1
        rw [e', add_none] at h2
        refine ⟨?_, ?_⟩
        · simpa [hj, e, intOf] using h1
        · simpa [hj, e', intOf, Nat.add_assoc] using h2
end Go.Proofs.Ytemmjkmaiedadaa
