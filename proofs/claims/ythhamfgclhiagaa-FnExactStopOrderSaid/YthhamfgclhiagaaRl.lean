
/- How rows of keepers that come in are read. No conditions but those written. -/
import Derived.Test.YthhamfgclhiagaaRk
import Derived.Test.YthhamfgclhiagaaKq
namespace Go.Proofs.Ythhamfgclhiagaa
open Go.ChangeShapes Go.WideShapes Go.ChangeAt Go.RowKit Go.Joins Go.Deep

theorem Try.cells23 : Try.prog.cellsOf 23 = 1 := by kernel_rfl
theorem Try.cells22 : Try.prog.cellsOf 22 = 1 := by kernel_rfl
set_option maxRecDepth 100000 in
set_option maxHeartbeats 1000000 in
theorem read_kK {H : Type} {enc : TypeId × Value → H} {W : World} {spare : Nat → Bool} {held : Bool} {fuel : Nat} {c : Value} {x : DataW H × List MemPlace}
    (h : DataW.trod enc Try.prog W 0 spare held fuel 32 [c] = some x) : ∃ ao cap ts, c = .slice ao (ts : List LKeeper).length cap ∧ ts.length ≤ 9223372036854775807 ∧ (∀ a ∈ ts, (a.2.2.2.2.2.1).2.2.length ≤ 9223372036854775807 ∧ (a.2.2.2.2.2.2.1).2.2.length ≤ 9223372036854775807) ∧ DIn dKeeper W.heap.size W ao ts := by
  rcases open_slice Try.underlying32 h with ⟨hcs, _⟩ | ⟨a, len, cap, m, n, D, Pl, hcs, hb, hl, hm, hmm, hx0, hx⟩
  · simp at hcs; subst hcs; exact ⟨none, 0, [], rfl, by simp, by simp, DIn.nil _ _ _⟩
  · simp at hcs; subst hcs
    have hlm : len ≤ m := by rw [hmm]; split <;> omega
    have each : ∀ i, i < m → ∃ q : LKeeper, (W.cell? (a.add (i * 8)) = some (.int .i64 q.1) ∧ W.cell? (a.add (i * 8 + 1)) = some (.int .i64 q.2.1) ∧ W.cell? (a.add (i * 8 + 2)) = some (.int .i64 q.2.2.1) ∧ W.cell? (a.add (i * 8 + 3)) = some (.int .i64 q.2.2.2.1) ∧ W.cell? (a.add (i * 8 + 4)) = some (.int .i64 q.2.2.2.2.1) ∧ W.cell? (a.add (i * 8 + 5)) = some (.slice q.2.2.2.2.2.1.1 q.2.2.2.2.2.1.2.2.length q.2.2.2.2.2.1.2.1) ∧ W.cell? (a.add (i * 8 + 6)) = some (.slice q.2.2.2.2.2.2.1.1 q.2.2.2.2.2.2.1.2.2.length q.2.2.2.2.2.2.1.2.1) ∧ W.cell? (a.add (i * 8 + 7)) = some (.bool q.2.2.2.2.2.2.2)) ∧ ((q.2.2.2.2.2.1).2.2.length ≤ 9223372036854775807 ∧ (q.2.2.2.2.2.2.1).2.2.length ≤ 9223372036854775807) ∧ InKeeper W.heap.size W (q.2.2.2.2.2.1).1 (q.2.2.2.2.2.1).2.2 (q.2.2.2.2.2.2.1).1 (q.2.2.2.2.2.2.1).2.2 := by
      intro i hi
      obtain ⟨cs', h1, h2⟩ := hx i hi
      rw [Try.cells25] at h1
      obtain ⟨_, hlen, hcell⟩ := World.cells?_some h1
      obtain ⟨xs, k, hk, hxy, _, hxl, hf⟩ := DataW.trod_struct Try.underlying25 h2
      match xs, hxl, cs', hlen with
      | [y0, y1, y2, y3, y4, y5, y6, y7], _, [v0, v1, v2, v3, v4, v5, v6, v7], _ =>
        have g0 := hf 0 _ rfl
        have g1 := hf 1 _ rfl
        have g2 := hf 2 _ rfl
        have g3 := hf 3 _ rfl
        have g4 := hf 4 _ rfl
        have g5 := hf 5 _ rfl
        have g6 := hf 6 _ rfl
        have g7 := hf 7 _ rfl
        simp [Try.cells3, Try.cells4, Try.cells23, Try.cells22] at g0 g1 g2 g3 g4 g5 g6 g7
        have e0 := hcell 0 (by omega)
        have e1 := hcell 1 (by omega)
        have e2 := hcell 2 (by omega)
        have e3 := hcell 3 (by omega)
        have e4 := hcell 4 (by omega)
        have e5 := hcell 5 (by omega)
        have e6 := hcell 6 (by omega)
        have e7 := hcell 7 (by omega)
        rw [add_add] at e0 e1 e2 e3 e4 e5 e6 e7
        obtain ⟨z0, p0, _, _⟩ := DataW.trod_int Try.underlying3 g0
        obtain ⟨z1, p1, _, _⟩ := DataW.trod_int Try.underlying3 g1
        obtain ⟨z2, p2, _, _⟩ := DataW.trod_int Try.underlying3 g2
        obtain ⟨z3, p3, _, _⟩ := DataW.trod_int Try.underlying3 g3
        obtain ⟨z4, p4, _, _⟩ := DataW.trod_int Try.underlying3 g4
        obtain ⟨ro, rc, r, p5, hlr, hR⟩ := read_kB g5
        obtain ⟨fo, fc, f, p6, hlf, hF⟩ := read_kI g6
        obtain ⟨ov, p7, _⟩ := DataW.trod_bool Try.underlying4 g7
        simp at p0 p1 p2 p3 p4 p7
        subst p0 p1 p2 p3 p4 p5 p6 p7
        exact ⟨(z0, z1, z2, z3, z4, (ro, rc, r), (fo, fc, f), ov), ⟨by simpa using e0, by simpa using e1, by simpa using e2, by simpa using e3, by simpa using e4, by simpa using e5, by simpa using e6, by simpa using e7⟩, ⟨hlr, hlf⟩, hR, hF⟩
    obtain ⟨q, hq⟩ := choose_lt each
    have hat : ∀ j, j < len → el ((List.range len).map q) j = q j := fun j hj => by simp [el, hj]
    refine ⟨some a, cap, (List.range len).map q, by simp, by simp; unfold maxLen at hm; omega, ?_, ?_, ?_⟩
    · intro l hl'
      obtain ⟨i, hi, rfl⟩ := List.mem_map.1 hl'
      exact (hq i (by have := List.mem_range.1 hi; omega)).2.1
    · by_cases h0 : len = 0
      · subst h0; exact .inl (by simp)
      · obtain ⟨b, off, spot⟩ := a
        have hs : spot = none := addr_none (by simpa using (hq 0 (by omega)).1.1)
        subst hs
        refine .inr ⟨b, off, rfl, ?_, fun j hj i hi => ?_⟩
        · have := World.block_lt_of_cell? _ _ (hq 0 (by omega)).1.1
          simpa [Addr.add] using this
        simp only [List.length_map, List.length_range] at hj
        rw [hat j hj]
        obtain ⟨h0, h1, h2, h3, h4, h5, h6, h7⟩ := (hq j (by omega)).1
        rw [add_none] at h0 h1 h2 h3 h4 h5 h6 h7
        have hi' : i < 8 := hi
        rcases (show i = 0 ∨ i = 1 ∨ i = 2 ∨ i = 3 ∨ i = 4 ∨ i = 5 ∨ i = 6 ∨ i = 7 from by omega) with rfl | rfl | rfl | rfl | rfl | rfl | rfl | rfl
        · have e : (⟨b, off + j * hKeeper.sz + 0, none⟩ : Addr) = ⟨b, off + (j * 8), none⟩ := by show (⟨b, off + j * 8 + 0, none⟩ : Addr) = _; simp <;> omega
          show W.cell? ⟨b, off + j * hKeeper.sz + 0, none⟩ = _
          rw [e]; exact h0
        · have e : (⟨b, off + j * hKeeper.sz + 1, none⟩ : Addr) = ⟨b, off + (j * 8 + 1), none⟩ := by show (⟨b, off + j * 8 + 1, none⟩ : Addr) = _; simp <;> omega
          show W.cell? ⟨b, off + j * hKeeper.sz + 1, none⟩ = _
          rw [e]; exact h1
        · have e : (⟨b, off + j * hKeeper.sz + 2, none⟩ : Addr) = ⟨b, off + (j * 8 + 2), none⟩ := by show (⟨b, off + j * 8 + 2, none⟩ : Addr) = _; simp <;> omega
          show W.cell? ⟨b, off + j * hKeeper.sz + 2, none⟩ = _
          rw [e]; exact h2
        · have e : (⟨b, off + j * hKeeper.sz + 3, none⟩ : Addr) = ⟨b, off + (j * 8 + 3), none⟩ := by show (⟨b, off + j * 8 + 3, none⟩ : Addr) = _; simp <;> omega
          show W.cell? ⟨b, off + j * hKeeper.sz + 3, none⟩ = _
          rw [e]; exact h3
        · have e : (⟨b, off + j * hKeeper.sz + 4, none⟩ : Addr) = ⟨b, off + (j * 8 + 4), none⟩ := by show (⟨b, off + j * 8 + 4, none⟩ : Addr) = _; simp <;> omega
          show W.cell? ⟨b, off + j * hKeeper.sz + 4, none⟩ = _
          rw [e]; exact h4
        · have e : (⟨b, off + j * hKeeper.sz + 5, none⟩ : Addr) = ⟨b, off + (j * 8 + 5), none⟩ := by show (⟨b, off + j * 8 + 5, none⟩ : Addr) = _; simp <;> omega
          show W.cell? ⟨b, off + j * hKeeper.sz + 5, none⟩ = _
          rw [e]; exact h5
        · have e : (⟨b, off + j * hKeeper.sz + 6, none⟩ : Addr) = ⟨b, off + (j * 8 + 6), none⟩ := by show (⟨b, off + j * 8 + 6, none⟩ : Addr) = _; simp <;> omega
          show W.cell? ⟨b, off + j * hKeeper.sz + 6, none⟩ = _
          rw [e]; exact h6
        · have e : (⟨b, off + j * hKeeper.sz + 7, none⟩ : Addr) = ⟨b, off + (j * 8 + 7), none⟩ := by show (⟨b, off + j * 8 + 7, none⟩ : Addr) = _; simp <;> omega
          show W.cell? ⟨b, off + j * hKeeper.sz + 7, none⟩ = _
          rw [e]; exact h7
    · intro j hj
      simp only [List.length_map, List.length_range] at hj
      rw [hat j hj]
      exact (hq j (by omega)).2.2
set_option maxRecDepth 100000 in
theorem read_kK0 {H : Type} {enc : TypeId × Value → H} {W : World} {spare : Nat → Bool} {held : Bool} {rr : Reach} {b0 : Nat} {v : Value} {d : DataW H} {p : List MemPlace}
    (hv : Value.okWide Try.prog W rr b0 32 v) (h : DataW.Trod enc Try.prog W 0 spare held 32 v d p) :
    ∃ (ao : Option Addr) (cap : Nat) (ts : List LKeeper), v = .slice ao ts.length cap ∧ ts.length ≤ 9223372036854775807 ∧ (∀ a ∈ ts, (a.2.2.2.2.2.1).2.2.length ≤ 9223372036854775807 ∧ (a.2.2.2.2.2.2.1).2.2.length ≤ 9223372036854775807) ∧ DIn dKeeper W.heap.size W ao ts := by
  obtain ⟨fuel, hf⟩ := h
  have hc : v.cells.toList = [v] := by
    obtain ⟨x, y, z, rfl⟩ : ∃ x y z, v = .slice x y z := okWide_slice Try.underlying32 hv
    rfl
  rw [hc] at hf
  exact read_kK hf
end Go.Proofs.Ythhamfgclhiagaa
