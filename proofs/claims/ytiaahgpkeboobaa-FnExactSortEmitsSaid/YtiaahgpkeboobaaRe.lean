
/- How rows of emits that come in are read. No conditions but those written. -/
import Derived.Test.YtiaahgpkeboobaaEm
import Derived.ProofKit
import Derived.Deep.SlicePairs
import Derived.Lib.SmallJoins
namespace Go.Proofs.Ytiaahgpkeboobaa
open Go.ChangeShapes Go.WideShapes Go.ChangeAt Go.RowKit Go.Joins Go.Deep

theorem Try.own : ownKnob Try.prog.godebug = none := by kernel_rfl
theorem Try.laidOut : laidOutB Try.prog = true := by kernel_rfl
theorem Try.cells35 : Try.prog.cellsOf 35 = 2 := by kernel_rfl
theorem Try.cells3 : Try.prog.cellsOf 3 = 1 := by kernel_rfl
theorem addr_none {W : World} {b off : Nat} {spot : Option _} {v : Value} (h : W.cell? ((⟨b, off, spot⟩ : Addr).add 0) = some v) : spot = none := by
  simpa [Addr.add] using World.cell?_spot h
theorem add_none (b off i : Nat) : (⟨b, off, none⟩ : Addr).add i = ⟨b, off + i, none⟩ := by
  by_cases h : i = 0 <;> simp [Addr.add, h]
set_option maxRecDepth 100000 in
theorem read_kE {H : Type} {enc : TypeId × Value → H} {W : World} {spare : Nat → Bool} {held : Bool} {fuel : Nat} {c : Value} {x : DataW H × List MemPlace}
    (h : DataW.trod enc Try.prog W 0 spare held fuel 22 [c] = some x) : ∃ ao cap ts, c = .slice ao (ts : List (Int × Int)).length cap ∧ ts.length ≤ 9223372036854775807 ∧ kE.In W.heap.size W ao ts := by
  rcases open_slice Try.underlying22 h with ⟨hcs, _⟩ | ⟨a, len, cap, m, n, D, Pl, hcs, hb, hl, hm, hmm, hx0, hx⟩
  · simp at hcs; subst hcs; exact ⟨none, 0, [], rfl, by simp, .inl rfl⟩
  · simp at hcs; subst hcs
    have hlm : len ≤ m := by rw [hmm]; split <;> omega
    have each : ∀ i, i < m → ∃ q : Int × Int, W.cell? (a.add (i * 2)) = some (.int .i64 q.1) ∧ W.cell? (a.add (i * 2 + 1)) = some (.int .i64 q.2) := by
      intro i hi
      obtain ⟨cs', h1, h2⟩ := hx i hi
      rw [Try.cells35] at h1
      obtain ⟨_, hlen, hcell⟩ := World.cells?_some h1
      obtain ⟨xs, k, hk, hxy, _, hxl, hf⟩ := DataW.trod_struct Try.underlying35 h2
      match xs, hxl, cs', hlen with
      | [y0, y1], _, [v0, v1], _ =>
        have g0 := hf 0 _ rfl
        have g1 := hf 1 _ rfl
        simp [Try.cells3] at g0 g1
        have e0 := hcell 0 (by omega)
        have e1 := hcell 1 (by omega)
        rw [add_add] at e0 e1
        obtain ⟨z0, p0, _, _⟩ := DataW.trod_int Try.underlying3 g0
        obtain ⟨z1, p1, _, _⟩ := DataW.trod_int Try.underlying3 g1
        simp at p0 p1
        subst p0 p1
        exact ⟨(z0, z1), by simpa using e0, by simpa using e1⟩
    obtain ⟨q, hq⟩ := choose_lt each
    have hat : ∀ j, j < len → el ((List.range len).map q) j = q j := fun j hj => by simp [el, hj]
    refine ⟨some a, cap, (List.range len).map q, by simp, by simp; unfold maxLen at hm; omega, ?_⟩
    by_cases h0 : len = 0
    · subst h0; exact .inl (by simp)
    · obtain ⟨b, off, spot⟩ := a
      have hs : spot = none := addr_none (by simpa using (hq 0 (by omega)).1)
      subst hs
      refine .inr ⟨b, off, rfl, ?_, fun j hj i hi => ?_⟩
      · have := World.block_lt_of_cell? _ _ (hq 0 (by omega)).1
        simpa [Addr.add] using this
      · simp at hj
        rw [hat j hj]
        obtain ⟨h0, h1⟩ := hq j (by omega)
        rw [add_none] at h0 h1
        have hi' : i < 2 := hi
        rcases (show i = 0 ∨ i = 1 from by omega) with rfl | rfl
        · have e : (⟨b, off + j * kE.sz + 0, none⟩ : Addr) = ⟨b, off + (j * 2), none⟩ := by show (⟨b, off + j * 2 + 0, none⟩ : Addr) = _; simp <;> omega
          rw [e]; exact h0
        · have e : (⟨b, off + j * kE.sz + 1, none⟩ : Addr) = ⟨b, off + (j * 2 + 1), none⟩ := by show (⟨b, off + j * 2 + 1, none⟩ : Addr) = _; simp <;> omega
          rw [e]; exact h1
set_option maxRecDepth 100000 in
theorem read_Emits {H : Type} {enc : TypeId × Value → H} {W : World} {spare : Nat → Bool} {held : Bool} {rr : Reach} {b0 : Nat} {v : Value} {d : DataW H} {p : List MemPlace}
    (hv : Value.okWide Try.prog W rr b0 22 v) (h : DataW.Trod enc Try.prog W 0 spare held 22 v d p) :
    ∃ (ao : Option Addr) (cap : Nat) (ts : List (Int × Int)), v = .slice ao ts.length cap ∧ ts.length ≤ 9223372036854775807 ∧ kE.In W.heap.size W ao ts := by
  obtain ⟨fuel, hf⟩ := h
  have hc : v.cells.toList = [v] := by
    obtain ⟨x, y, z, rfl⟩ : ∃ x y z, v = .slice x y z := okWide_slice Try.underlying22 hv
    rfl
  rw [hc] at hf
  exact read_kE hf
end Go.Proofs.Ytiaahgpkeboobaa
