
/- How the arguments that come in are read. No conditions but those written. -/
import Derived.Test.YtdjdbcfcccbhpaaPKbAo
import Derived.ProofKit
import Derived.Deep.SlicePairs
import Derived.Lib.SmallJoins
namespace Go.Proofs.Ytdjdbcfcccbhpaa
open Go.ChangeShapes Go.WideShapes Go.ChangeAt Go.RowKit Go.Joins Go.Deep

theorem Try.own : ownKnob Try.prog.godebug = none := by kernel_rfl
theorem Try.laidOut : laidOutB Try.prog = true := by kernel_rfl
theorem Try.cells94 : Try.prog.cellsOf 94 = 3 := by kernel_rfl
theorem Try.cells24 : Try.prog.cellsOf 24 = 1 := by kernel_rfl
theorem Try.cells63 : Try.prog.cellsOf 63 = 5 := by kernel_rfl
theorem Try.cells4 : Try.prog.cellsOf 4 = 1 := by kernel_rfl
theorem Try.cells42 : Try.prog.cellsOf 42 = 1 := by kernel_rfl
theorem Try.cells61 : Try.prog.cellsOf 61 = 1 := by kernel_rfl
theorem Try.cells22 : Try.prog.cellsOf 22 = 1 := by kernel_rfl
theorem Try.cells3 : Try.prog.cellsOf 3 = 1 := by kernel_rfl
theorem addr_none {W : World} {b off : Nat} {spot : Option _} {v : Value} (h : W.cell? ((⟨b, off, spot⟩ : Addr).add 0) = some v) : spot = none := by
  simpa [Addr.add] using World.cell?_spot h
theorem add_none (b off i : Nat) : (⟨b, off, none⟩ : Addr).add i = ⟨b, off + i, none⟩ := by
  by_cases h : i = 0 <;> simp [Addr.add, h]
theorem read_kI {H : Type} {enc : TypeId × Value → H} {W : World} {spare : Nat → Bool} {held : Bool} {fuel : Nat} {c : Value} {x : DataW H × List MemPlace}
    (h : DataW.trod enc Try.prog W 0 spare held fuel 42 [c] = some x) : ∃ ao cap zs, c = .slice ao (zs : List Int).length cap ∧ zs.length ≤ 9223372036854775807 ∧ kI.In W.heap.size W ao zs := by
  rcases open_slice1 Try.underlying42 Try.cells3 h with ⟨hcs, _⟩ | ⟨a, len, cap, m, n, V, D, Pl, hcs, hb, hl, hm, hmm, hx, hel⟩
  · simp at hcs; subst hcs; exact ⟨none, 0, [], rfl, by simp, .inl rfl⟩
  · simp at hcs; subst hcs
    have hlm : len ≤ m := by rw [hmm]; split <;> omega
    refine ⟨some a, cap, (List.range len).map (fun i => intOf (V i)), by simp, by simp; unfold maxLen at hm; omega, ?_⟩
    by_cases h0 : len = 0
    · subst h0; exact .inl (by simp)
    · obtain ⟨b, off, spot⟩ := a
      have hs : spot = none := addr_none (hel 0 (by omega)).1
      subst hs
      refine ints_mk ?_ fun j hj => ?_
      · have := World.block_lt_of_cell? _ _ (hel 0 (by omega)).1
        simpa [Addr.add] using this
      · simp at hj
        obtain ⟨h1, h2⟩ := hel j (by omega)
        obtain ⟨z, e, _, _⟩ := DataW.trod_int Try.underlying3 h2
        simp at e
        rw [e, add_none] at h1
        simpa [hj, e, intOf, el] using h1
set_option maxRecDepth 100000 in
theorem read_kW {H : Type} {enc : TypeId × Value → H} {W : World} {spare : Nat → Bool} {held : Bool} {fuel : Nat} {c : Value} {x : DataW H × List MemPlace}
    (h : DataW.trod enc Try.prog W 0 spare held fuel 61 [c] = some x) : ∃ ao cap ts, c = .slice ao (ts : List (Int × Int × Int)).length cap ∧ ts.length ≤ 9223372036854775807 ∧ kW.In W.heap.size W ao ts := by
  rcases open_slice Try.underlying61 h with ⟨hcs, _⟩ | ⟨a, len, cap, m, n, D, Pl, hcs, hb, hl, hm, hmm, hx0, hx⟩
  · simp at hcs; subst hcs; exact ⟨none, 0, [], rfl, by simp, .inl rfl⟩
  · simp at hcs; subst hcs
    have hlm : len ≤ m := by rw [hmm]; split <;> omega
    have each : ∀ i, i < m → ∃ q : Int × Int × Int, W.cell? (a.add (i * 3)) = some (.int .i64 q.1) ∧ W.cell? (a.add (i * 3 + 1)) = some (.int .i64 q.2.1) ∧ W.cell? (a.add (i * 3 + 2)) = some (.int .i64 q.2.2) := by
      intro i hi
      obtain ⟨cs', h1, h2⟩ := hx i hi
      rw [Try.cells94] at h1
      obtain ⟨_, hlen, hcell⟩ := World.cells?_some h1
      obtain ⟨xs, k, hk, hxy, _, hxl, hf⟩ := DataW.trod_struct Try.underlying94 h2
      match xs, hxl, cs', hlen with
      | [y0, y1, y2], _, [v0, v1, v2], _ =>
        have g0 := hf 0 _ rfl
        have g1 := hf 1 _ rfl
        have g2 := hf 2 _ rfl
        simp [Try.cells3] at g0 g1 g2
        have e0 := hcell 0 (by omega)
        have e1 := hcell 1 (by omega)
        have e2 := hcell 2 (by omega)
        rw [add_add] at e0 e1 e2
        obtain ⟨z0, p0, _, _⟩ := DataW.trod_int Try.underlying3 g0
        obtain ⟨z1, p1, _, _⟩ := DataW.trod_int Try.underlying3 g1
        obtain ⟨z2, p2, _, _⟩ := DataW.trod_int Try.underlying3 g2
        simp at p0 p1 p2
        subst p0 p1 p2
        exact ⟨(z0, z1, z2), by simpa using e0, by simpa using e1, by simpa using e2⟩
    obtain ⟨q, hq⟩ := choose_lt each
    have hat : ∀ j, j < len → el ((List.range len).map q) j = q j := fun j hj => by simp [el, hj]
    refine ⟨some a, cap, (List.range len).map q, by simp, by simp; unfold maxLen at hm; omega, ?_⟩
    by_cases h0 : len = 0
    · subst h0; exact .inl (by simp)
    · obtain ⟨b, off, spot⟩ := a
      have hs : spot = none := addr_none (by simpa using (hq 0 (by omega)).1)
      subst hs
      refine .inr ⟨b, off, rfl, ?_, fun j hj i hi => ?_⟩
      · have := World.block_lt_of_cell? _ _ (hq 0 (by omega)).1
        simpa [Addr.add] using this
      · simp at hj
        rw [hat j hj]
        obtain ⟨h0, h1, h2⟩ := hq j (by omega)
        rw [add_none] at h0 h1 h2
        have hi' : i < 3 := hi
        rcases (show i = 0 ∨ i = 1 ∨ i = 2 from by omega) with rfl | rfl | rfl
        · have e : (⟨b, off + j * kW.sz + 0, none⟩ : Addr) = ⟨b, off + (j * 3), none⟩ := by show (⟨b, off + j * 3 + 0, none⟩ : Addr) = _; simp <;> omega
          rw [e]; exact h0
        · have e : (⟨b, off + j * kW.sz + 1, none⟩ : Addr) = ⟨b, off + (j * 3 + 1), none⟩ := by show (⟨b, off + j * 3 + 1, none⟩ : Addr) = _; simp <;> omega
          rw [e]; exact h1
        · have e : (⟨b, off + j * kW.sz + 2, none⟩ : Addr) = ⟨b, off + (j * 3 + 2), none⟩ := by show (⟨b, off + j * 3 + 2, none⟩ : Addr) = _; simp <;> omega
          rw [e]; exact h2
set_option maxRecDepth 100000 in
theorem read_kC {H : Type} {enc : TypeId × Value → H} {W : World} {spare : Nat → Bool} {held : Bool} {fuel : Nat} {c : Value} {x : DataW H × List MemPlace}
    (h : DataW.trod enc Try.prog W 0 spare held fuel 22 [c] = some x) : ∃ ao cap ts, c = .slice ao (ts : List LChan).length cap ∧ ts.length ≤ 9223372036854775807 ∧ (∀ a ∈ ts, a.2.2.1.2.2.length ≤ 9223372036854775807 ∧ a.2.2.2.1.2.2.length ≤ 9223372036854775807 ∧ a.2.2.2.2.2.2.length ≤ 9223372036854775807) ∧ DIn dChan W.heap.size W ao ts := by
  rcases open_slice Try.underlying22 h with ⟨hcs, _⟩ | ⟨a, len, cap, m, n, D, Pl, hcs, hb, hl, hm, hmm, hx0, hx⟩
  · simp at hcs; subst hcs; exact ⟨none, 0, [], rfl, by simp, by simp, DIn.nil _ _ _⟩
  · simp at hcs; subst hcs
    have hlm : len ≤ m := by rw [hmm]; split <;> omega
    have each : ∀ i, i < m → ∃ q : LChan, (W.cell? (a.add (i * 5)) = some (.int .i64 q.1) ∧ W.cell? (a.add (i * 5 + 1)) = some (.bool q.2.1) ∧ W.cell? (a.add (i * 5 + 2)) = some (.slice q.2.2.1.1 q.2.2.1.2.2.length q.2.2.1.2.1) ∧ W.cell? (a.add (i * 5 + 3)) = some (.slice q.2.2.2.1.1 q.2.2.2.1.2.2.length q.2.2.2.1.2.1) ∧ W.cell? (a.add (i * 5 + 4)) = some (.slice q.2.2.2.2.1 q.2.2.2.2.2.2.length q.2.2.2.2.2.1)) ∧ (q.2.2.1.2.2.length ≤ 9223372036854775807 ∧ q.2.2.2.1.2.2.length ≤ 9223372036854775807 ∧ q.2.2.2.2.2.2.length ≤ 9223372036854775807) ∧ InChan W.heap.size W q.2.2.1.1 q.2.2.1.2.2 q.2.2.2.1.1 q.2.2.2.1.2.2 q.2.2.2.2.1 q.2.2.2.2.2.2 := by
      intro i hi
      obtain ⟨cs', h1, h2⟩ := hx i hi
      rw [Try.cells63] at h1
      obtain ⟨_, hlen, hcell⟩ := World.cells?_some h1
      obtain ⟨xs, k, hk, hxy, _, hxl, hf⟩ := DataW.trod_struct Try.underlying63 h2
      match xs, hxl, cs', hlen with
      | [y0, y1, y2, y3, y4], _, [v0, v1, v2, v3, v4], _ =>
        have g0 := hf 0 _ rfl
        have g1 := hf 1 _ rfl
        have g2 := hf 2 _ rfl
        have g3 := hf 3 _ rfl
        have g4 := hf 4 _ rfl
        simp [Try.cells3, Try.cells4, Try.cells42, Try.cells61] at g0 g1 g2 g3 g4
        have e0 := hcell 0 (by omega)
        have e1 := hcell 1 (by omega)
        have e2 := hcell 2 (by omega)
        have e3 := hcell 3 (by omega)
        have e4 := hcell 4 (by omega)
        rw [add_add] at e0 e1 e2 e3 e4
        obtain ⟨kap, p0, _, _⟩ := DataW.trod_int Try.underlying3 g0
        obtain ⟨cl, p1, _⟩ := DataW.trod_bool Try.underlying4 g1
        obtain ⟨bo, bc, b, p2, hlb, hB⟩ := read_kI g2
        obtain ⟨so, sc, s, p3, hls, hS⟩ := read_kW g3
        obtain ⟨ro, rc, r, p4, hlr, hR⟩ := read_kW g4
        simp at p0 p1
        subst p0 p1 p2 p3 p4
        exact ⟨(kap, cl, (bo, bc, b), (so, sc, s), (ro, rc, r)), ⟨by simpa using e0, by simpa using e1, by simpa using e2, by simpa using e3, by simpa using e4⟩, ⟨hlb, hls, hlr⟩, hB, hS, hR⟩
    obtain ⟨q, hq⟩ := choose_lt each
    have hat : ∀ j, j < len → el ((List.range len).map q) j = q j := fun j hj => by simp [el, hj]
    refine ⟨some a, cap, (List.range len).map q, by simp, by simp; unfold maxLen at hm; omega, ?_, ?_, ?_⟩
    · intro l hl'
      obtain ⟨i, hi, rfl⟩ := List.mem_map.1 hl'
      exact (hq i (by have := List.mem_range.1 hi; omega)).2.1
    · by_cases h0 : len = 0
      · subst h0; exact .inl (by simp)
      · obtain ⟨b, off, spot⟩ := a
        have hs : spot = none := addr_none (by simpa using (hq 0 (by omega)).1.1)
        subst hs
        refine .inr ⟨b, off, rfl, ?_, fun j hj i hi => ?_⟩
        · have := World.block_lt_of_cell? _ _ (hq 0 (by omega)).1.1
          simpa [Addr.add] using this
        simp at hj
        rw [hat j hj]
        obtain ⟨h0, h1, h2, h3, h4⟩ := (hq j (by omega)).1
        rw [add_none] at h0 h1 h2 h3 h4
        have hi' : i < 5 := hi
        rcases (show i = 0 ∨ i = 1 ∨ i = 2 ∨ i = 3 ∨ i = 4 from by omega) with rfl | rfl | rfl | rfl | rfl
        · have e : (⟨b, off + j * hChan.sz + 0, none⟩ : Addr) = ⟨b, off + (j * 5), none⟩ := by show (⟨b, off + j * 5 + 0, none⟩ : Addr) = _; simp <;> omega
          show W.cell? ⟨b, off + j * hChan.sz + 0, none⟩ = _
          rw [e]; exact h0
        · have e : (⟨b, off + j * hChan.sz + 1, none⟩ : Addr) = ⟨b, off + (j * 5 + 1), none⟩ := by show (⟨b, off + j * 5 + 1, none⟩ : Addr) = _; simp <;> omega
          show W.cell? ⟨b, off + j * hChan.sz + 1, none⟩ = _
          rw [e]; exact h1
        · have e : (⟨b, off + j * hChan.sz + 2, none⟩ : Addr) = ⟨b, off + (j * 5 + 2), none⟩ := by show (⟨b, off + j * 5 + 2, none⟩ : Addr) = _; simp <;> omega
          show W.cell? ⟨b, off + j * hChan.sz + 2, none⟩ = _
          rw [e]; exact h2
        · have e : (⟨b, off + j * hChan.sz + 3, none⟩ : Addr) = ⟨b, off + (j * 5 + 3), none⟩ := by show (⟨b, off + j * 5 + 3, none⟩ : Addr) = _; simp <;> omega
          show W.cell? ⟨b, off + j * hChan.sz + 3, none⟩ = _
          rw [e]; exact h3
        · have e : (⟨b, off + j * hChan.sz + 4, none⟩ : Addr) = ⟨b, off + (j * 5 + 4), none⟩ := by show (⟨b, off + j * 5 + 4, none⟩ : Addr) = _; simp <;> omega
          show W.cell? ⟨b, off + j * hChan.sz + 4, none⟩ = _
          rw [e]; exact h4
    · intro j hj
      simp only [List.length_map, List.length_range] at hj
      rw [hat j hj]
      exact (hq j (by omega)).2.2
theorem array1 {α : Type} {cs : Array α} (h : cs.size = 1) : ∃ c0, cs = #[c0] := by
  obtain ⟨l⟩ := cs
  match l, h with
  | [c0], _ => exact ⟨c0, rfl⟩
set_option maxRecDepth 100000 in
theorem read_Hub {H : Type} {enc : TypeId × Value → H} {W : World} {spare : Nat → Bool} {held : Bool} {rr : Reach} {b0 : Nat} {v : Value} {d : DataW H} {p : List MemPlace}
    (hv : Value.okWide Try.prog W rr b0 24 v) (h : DataW.Trod enc Try.prog W 0 spare held 24 v d p) :
    ∃ ao cap ts, v = .agg #[.slice ao (ts : List LChan).length cap] ∧ ts.length ≤ 9223372036854775807 ∧ (∀ a ∈ ts, a.2.2.1.2.2.length ≤ 9223372036854775807 ∧ a.2.2.2.1.2.2.length ≤ 9223372036854775807 ∧ a.2.2.2.2.2.2.length ≤ 9223372036854775807) ∧ DIn dChan W.heap.size W ao ts := by
  obtain ⟨cs, rfl, hsz⟩ := okWide_struct Try.underlying24 hv
  obtain ⟨c0, rfl⟩ := array1 (hsz.trans Try.cells24)
  obtain ⟨fuel, hf⟩ := h
  obtain ⟨xs, n, _, hx, hl, hlen, hfs⟩ := DataW.trod_struct Try.underlying24 hf
  match xs, hlen with
  | [y0], _ =>
    have g0 := hfs 0 _ rfl
    simp [Value.cells, Try.cells22] at g0
    obtain ⟨ao, cap, ts, rfl, h1, h2, h3⟩ := read_kC g0
    exact ⟨ao, cap, ts, rfl, h1, h2, h3⟩
end Go.Proofs.Ytdjdbcfcccbhpaa
