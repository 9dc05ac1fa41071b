
/- How a hub and cases that come in are read. No conditions but those written. -/
import Derived.Test.YtlnjhajdbofhlaaRhb
import Derived.Test.YtlnjhajdbofhlaaKq
namespace Go.Proofs.Ytlnjhajdbofhlaa
open Go.ChangeShapes Go.WideShapes Go.ChangeAt Go.RowKit Go.Joins Go.Deep

theorem Try.cells120 : Try.prog.cellsOf 120 = 3 := by kernel_rfl
set_option maxRecDepth 100000 in
theorem read_kQ {H : Type} {enc : TypeId × Value → H} {W : World} {spare : Nat → Bool} {held : Bool} {fuel : Nat} {c : Value} {x : DataW H × List MemPlace}
    (h : DataW.trod enc Try.prog W 0 spare held fuel 60 [c] = some x) : ∃ ao cap ts, c = .slice ao (ts : List (Int × Bool × Int)).length cap ∧ ts.length ≤ 9223372036854775807 ∧ kQ.In W.heap.size W ao ts := by
  rcases open_slice Try.underlying60 h with ⟨hcs, _⟩ | ⟨a, len, cap, m, n, D, Pl, hcs, hb, hl, hm, hmm, hx0, hx⟩
  · simp at hcs; subst hcs; exact ⟨none, 0, [], rfl, by simp, .inl rfl⟩
  · simp at hcs; subst hcs
    have hlm : len ≤ m := by rw [hmm]; split <;> omega
    have each : ∀ i, i < m → ∃ q : Int × Bool × Int, W.cell? (a.add (i * 3)) = some (.int .i64 q.1) ∧ W.cell? (a.add (i * 3 + 1)) = some (.bool q.2.1) ∧ W.cell? (a.add (i * 3 + 2)) = some (.int .i64 q.2.2) := by
      intro i hi
      obtain ⟨cs', h1, h2⟩ := hx i hi
      rw [Try.cells120] at h1
      obtain ⟨_, hlen, hcell⟩ := World.cells?_some h1
      obtain ⟨xs, k, hk, hxy, _, hxl, hf⟩ := DataW.trod_struct Try.underlying120 h2
      match xs, hxl, cs', hlen with
      | [y0, y1, y2], _, [v0, v1, v2], _ =>
        have g0 := hf 0 _ rfl
        have g1 := hf 1 _ rfl
        have g2 := hf 2 _ rfl
        simp [Try.cells3, Try.cells4] at g0 g1 g2
        have e0 := hcell 0 (by omega)
        have e1 := hcell 1 (by omega)
        have e2 := hcell 2 (by omega)
        rw [add_add] at e0 e1 e2
        obtain ⟨z0, p0, _, _⟩ := DataW.trod_int Try.underlying3 g0
        obtain ⟨z1, p1, _⟩ := DataW.trod_bool Try.underlying4 g1
        obtain ⟨z2, p2, _, _⟩ := DataW.trod_int Try.underlying3 g2
        simp at p0 p1 p2
        subst p0 p1 p2
        exact ⟨(z0, z1, z2), by simpa using e0, by simpa using e1, by simpa using e2⟩
    obtain ⟨q, hq⟩ := choose_lt each
    have hat : ∀ j, j < len → el ((List.range len).map q) j = q j := fun j hj => by simp [el, hj]
    refine ⟨some a, cap, (List.range len).map q, by simp, by simp; unfold maxLen at hm; omega, ?_⟩
    by_cases h0 : len = 0
    · subst h0; exact .inl (by simp)
    · obtain ⟨b, off, spot⟩ := a
      have hs : spot = none := addr_none (by simpa using (hq 0 (by omega)).1)
      subst hs
      refine .inr ⟨b, off, rfl, ?_, fun j hj i hi => ?_⟩
      · have := World.block_lt_of_cell? _ _ (hq 0 (by omega)).1
        simpa [Addr.add] using this
      · simp at hj
        rw [hat j hj]
        obtain ⟨h0, h1, h2⟩ := hq j (by omega)
        rw [add_none] at h0 h1 h2
        have hi' : i < 3 := hi
        rcases (show i = 0 ∨ i = 1 ∨ i = 2 from by omega) with rfl | rfl | rfl
        · have e : (⟨b, off + j * kQ.sz + 0, none⟩ : Addr) = ⟨b, off + (j * 3), none⟩ := by show (⟨b, off + j * 3 + 0, none⟩ : Addr) = _; simp <;> omega
          rw [e]; exact h0
        · have e : (⟨b, off + j * kQ.sz + 1, none⟩ : Addr) = ⟨b, off + (j * 3 + 1), none⟩ := by show (⟨b, off + j * 3 + 1, none⟩ : Addr) = _; simp <;> omega
          rw [e]; exact h1
        · have e : (⟨b, off + j * kQ.sz + 2, none⟩ : Addr) = ⟨b, off + (j * 3 + 2), none⟩ := by show (⟨b, off + j * 3 + 2, none⟩ : Addr) = _; simp <;> omega
          rw [e]; exact h2
set_option maxRecDepth 100000 in
theorem read_kQ0 {H : Type} {enc : TypeId × Value → H} {W : World} {spare : Nat → Bool} {held : Bool} {rr : Reach} {b0 : Nat} {v : Value} {d : DataW H} {p : List MemPlace}
    (hv : Value.okWide Try.prog W rr b0 60 v) (h : DataW.Trod enc Try.prog W 0 spare held 60 v d p) :
    ∃ (ao : Option Addr) (cap : Nat) (ts : List (Int × Bool × Int)), v = .slice ao ts.length cap ∧ ts.length ≤ 9223372036854775807 ∧ kQ.In W.heap.size W ao ts := by
  obtain ⟨fuel, hf⟩ := h
  have hc : v.cells.toList = [v] := by
    obtain ⟨x, y, z, rfl⟩ : ∃ x y z, v = .slice x y z := okWide_slice Try.underlying60 hv
    rfl
  rw [hc] at hf
  exact read_kQ hf
end Go.Proofs.Ytlnjhajdbofhlaa
