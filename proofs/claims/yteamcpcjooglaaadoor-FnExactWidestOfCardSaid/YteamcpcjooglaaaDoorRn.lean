
/- How graphs that come in are read. No conditions but those written. -/
import Derived.Test.YteamcpcjooglaaaDoorRab
import Derived.Test.YteamcpcjooglaaaDoorNd
namespace Go.Proofs.YteamcpcjooglaaaDoor
open Go.ChangeShapes Go.WideShapes Go.ChangeAt Go.RowKit Go.Joins Go.Deep

theorem Tryd.cells35 : Tryd.prog.cellsOf 35 = 6 := by kernel_rfl
theorem Tryd.cells32 : Tryd.prog.cellsOf 32 = 3 := by kernel_rfl
theorem Tryd.cells9 : Tryd.prog.cellsOf 9 = 1 := by kernel_rfl
theorem Tryd.cells33 : Tryd.prog.cellsOf 33 = 1 := by kernel_rfl
set_option maxRecDepth 100000 in
set_option maxHeartbeats 1000000 in
theorem read_kN {H : Type} {enc : TypeId × Value → H} {W : World} {spare : Nat → Bool} {held : Bool} {fuel : Nat} {c : Value} {x : DataW H × List MemPlace}
    (h : DataW.trod enc Tryd.prog W 0 spare held fuel 22 [c] = some x) : ∃ ao cap ts, c = .slice ao (ts : List LNode).length cap ∧ ts.length ≤ 9223372036854775807 ∧ (∀ a ∈ ts, a.1.size ≤ 9223372036854775807 ∧ (a.2.2.2.2.2).2.2.length ≤ 9223372036854775807) ∧ DIn dNode W.heap.size W ao ts := by
  rcases open_slice Tryd.underlying22 h with ⟨hcs, _⟩ | ⟨a, len, cap, m, n, D, Pl, hcs, hb, hl, hm, hmm, hx0, hx⟩
  · simp at hcs; subst hcs; exact ⟨none, 0, [], rfl, by simp, by simp, DIn.nil _ _ _⟩
  · simp at hcs; subst hcs
    have hlm : len ≤ m := by rw [hmm]; split <;> omega
    have each : ∀ i, i < m → ∃ q : LNode, (W.cell? (a.add (i * 6)) = some (.string q.1) ∧ W.cell? (a.add (i * 6 + 1)) = some (.int .i64 q.2.1) ∧ W.cell? (a.add (i * 6 + 2)) = some (.int .i64 q.2.2.1) ∧ W.cell? (a.add (i * 6 + 3)) = some (.int .i64 q.2.2.2.1) ∧ W.cell? (a.add (i * 6 + 4)) = some (.int .i64 q.2.2.2.2.1) ∧ W.cell? (a.add (i * 6 + 5)) = some (.slice q.2.2.2.2.2.1 q.2.2.2.2.2.2.2.length q.2.2.2.2.2.2.1)) ∧ (q.1.size ≤ 9223372036854775807 ∧ (q.2.2.2.2.2).2.2.length ≤ 9223372036854775807) ∧ InNode W.heap.size W q.2.2.2.2.2.1 q.2.2.2.2.2.2.2 := by
      intro i hi
      obtain ⟨cs', h1, h2⟩ := hx i hi
      rw [Tryd.cells35] at h1
      obtain ⟨_, hlen, hcell⟩ := World.cells?_some h1
      obtain ⟨xs, k, hk, hxy, _, hxl, hf⟩ := DataW.trod_struct Tryd.underlying35 h2
      match xs, hxl, cs', hlen with
      | [y0, y1, y2, y3], _, [v0, v1, v2, v3, v4, v5], _ =>
        have g0 := hf 0 _ rfl
        have g1 := hf 1 _ rfl
        have g2 := hf 2 _ rfl
        have g3 := hf 3 _ rfl
        simp [Tryd.cells3, Tryd.cells9, Tryd.cells33, Tryd.cells32] at g0 g1 g2 g3
        have e0 := hcell 0 (by omega)
        have e1 := hcell 1 (by omega)
        have e2 := hcell 2 (by omega)
        have e3 := hcell 3 (by omega)
        have e4 := hcell 4 (by omega)
        have e5 := hcell 5 (by omega)
        rw [add_add] at e0 e1 e2 e3 e4 e5
        obtain ⟨s0, p0, _, hs0⟩ := DataW.trod_string Tryd.underlying9 g0
        obtain ⟨ys, k2, _, _, _, hyl, hf2⟩ := DataW.trod_struct Tryd.underlying32 g1
        match ys, hyl with
        | [w0, w1, w2], _ =>
          have q0 := hf2 0 _ rfl
          have q1 := hf2 1 _ rfl
          have q2 := hf2 2 _ rfl
          simp [Tryd.cells3] at q0 q1 q2
          obtain ⟨z0, r0, _, _⟩ := DataW.trod_int Tryd.underlying3 q0
          obtain ⟨z1, r1, _, _⟩ := DataW.trod_int Tryd.underlying3 q1
          obtain ⟨z2, r2, _, _⟩ := DataW.trod_int Tryd.underlying3 q2
          obtain ⟨z3, r3, _, _⟩ := DataW.trod_int Tryd.underlying3 g2
          obtain ⟨fo, fc, f, p6, hlf, hF⟩ := read_kI g3
          simp at p0 r0 r1 r2 r3
          subst p0 r0 r1 r2 r3 p6
          exact ⟨(s0, z0, z1, z2, z3, (fo, fc, f)), ⟨by simpa using e0, by simpa using e1, by simpa using e2, by simpa using e3, by simpa using e4, by simpa using e5⟩, ⟨by unfold maxLen at hs0; omega, hlf⟩, hF⟩
    obtain ⟨q, hq⟩ := choose_lt each
    have hat : ∀ j, j < len → el ((List.range len).map q) j = q j := fun j hj => by simp [el, hj]
    refine ⟨some a, cap, (List.range len).map q, by simp, by simp; unfold maxLen at hm; omega, ?_, ?_, ?_⟩
    · intro l hl'
      obtain ⟨i, hi, rfl⟩ := List.mem_map.1 hl'
      exact (hq i (by have := List.mem_range.1 hi; omega)).2.1
    · by_cases h0 : len = 0
      · subst h0; exact .inl (by simp)
      · obtain ⟨b, off, spot⟩ := a
        have hs : spot = none := addr_none (by simpa using (hq 0 (by omega)).1.1)
        subst hs
        refine .inr ⟨b, off, rfl, ?_, fun j hj i hi => ?_⟩
        · have := World.block_lt_of_cell? _ _ (hq 0 (by omega)).1.1
          simpa [Addr.add] using this
        simp only [List.length_map, List.length_range] at hj
        rw [hat j hj]
        obtain ⟨h0, h1, h2, h3, h4, h5⟩ := (hq j (by omega)).1
        rw [add_none] at h0 h1 h2 h3 h4 h5
        have hi' : i < 6 := hi
        rcases (show i = 0 ∨ i = 1 ∨ i = 2 ∨ i = 3 ∨ i = 4 ∨ i = 5 from by omega) with rfl | rfl | rfl | rfl | rfl | rfl
        · have e : (⟨b, off + j * hNode.sz + 0, none⟩ : Addr) = ⟨b, off + (j * 6), none⟩ := by show (⟨b, off + j * 6 + 0, none⟩ : Addr) = _; simp <;> omega
          show W.cell? ⟨b, off + j * hNode.sz + 0, none⟩ = _
          rw [e]; exact h0
        · have e : (⟨b, off + j * hNode.sz + 1, none⟩ : Addr) = ⟨b, off + (j * 6 + 1), none⟩ := by show (⟨b, off + j * 6 + 1, none⟩ : Addr) = _; simp <;> omega
          show W.cell? ⟨b, off + j * hNode.sz + 1, none⟩ = _
          rw [e]; exact h1
        · have e : (⟨b, off + j * hNode.sz + 2, none⟩ : Addr) = ⟨b, off + (j * 6 + 2), none⟩ := by show (⟨b, off + j * 6 + 2, none⟩ : Addr) = _; simp <;> omega
          show W.cell? ⟨b, off + j * hNode.sz + 2, none⟩ = _
          rw [e]; exact h2
        · have e : (⟨b, off + j * hNode.sz + 3, none⟩ : Addr) = ⟨b, off + (j * 6 + 3), none⟩ := by show (⟨b, off + j * 6 + 3, none⟩ : Addr) = _; simp <;> omega
          show W.cell? ⟨b, off + j * hNode.sz + 3, none⟩ = _
          rw [e]; exact h3
        · have e : (⟨b, off + j * hNode.sz + 4, none⟩ : Addr) = ⟨b, off + (j * 6 + 4), none⟩ := by show (⟨b, off + j * 6 + 4, none⟩ : Addr) = _; simp <;> omega
          show W.cell? ⟨b, off + j * hNode.sz + 4, none⟩ = _
          rw [e]; exact h4
        · have e : (⟨b, off + j * hNode.sz + 5, none⟩ : Addr) = ⟨b, off + (j * 6 + 5), none⟩ := by show (⟨b, off + j * 6 + 5, none⟩ : Addr) = _; simp <;> omega
          show W.cell? ⟨b, off + j * hNode.sz + 5, none⟩ = _
          rw [e]; exact h5
    · intro j hj
      simp only [List.length_map, List.length_range] at hj
      rw [hat j hj]
      exact (hq j (by omega)).2.2
set_option maxRecDepth 100000 in
theorem read_kN0 {H : Type} {enc : TypeId × Value → H} {W : World} {spare : Nat → Bool} {held : Bool} {rr : Reach} {b0 : Nat} {v : Value} {d : DataW H} {p : List MemPlace}
    (hv : Value.okWide Tryd.prog W rr b0 22 v) (h : DataW.Trod enc Tryd.prog W 0 spare held 22 v d p) :
    ∃ (ao : Option Addr) (cap : Nat) (ts : List LNode), v = .slice ao ts.length cap ∧ ts.length ≤ 9223372036854775807 ∧ (∀ a ∈ ts, a.1.size ≤ 9223372036854775807 ∧ (a.2.2.2.2.2).2.2.length ≤ 9223372036854775807) ∧ DIn dNode W.heap.size W ao ts := by
  obtain ⟨fuel, hf⟩ := h
  have hc : v.cells.toList = [v] := by
    obtain ⟨x, y, z, rfl⟩ : ∃ x y z, v = .slice x y z := okWide_slice Tryd.underlying22 hv
    rfl
  rw [hc] at hf
  exact read_kN hf
end Go.Proofs.YteamcpcjooglaaaDoor
