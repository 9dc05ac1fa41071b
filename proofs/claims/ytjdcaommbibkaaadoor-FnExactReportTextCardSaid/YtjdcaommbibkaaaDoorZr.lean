
/- How a pipe that comes in is read. No conditions but those written. -/
import Derived.Test.YtjdcaommbibkaaaDoorZc
import Derived.ProofKit
import Derived.Deep.SlicePairs
import Derived.Lib.SmallJoins
import Derived.Carry
namespace Go.Proofs.YtjdcaommbibkaaaDoor
open Go.ChangeShapes Go.WideShapes Go.ChangeAt Go.RowKit Go.Joins Go.Deep

theorem Tryd.own : ownKnob Tryd.prog.godebug = none := by kernel_rfl
theorem Tryd.laidOut : laidOutB Tryd.prog = true := by kernel_rfl
theorem Tryd.cells72 : Tryd.prog.cellsOf 72 = 3 := by kernel_rfl
theorem Tryd.cells61 : Tryd.prog.cellsOf 61 = 3 := by kernel_rfl
theorem Tryd.cells65 : Tryd.prog.cellsOf 65 = 4 := by kernel_rfl
theorem Tryd.cells27 : Tryd.prog.cellsOf 27 = 7 := by kernel_rfl
theorem Tryd.cells3 : Tryd.prog.cellsOf 3 = 1 := by kernel_rfl
theorem Tryd.cells4 : Tryd.prog.cellsOf 4 = 1 := by kernel_rfl
theorem Tryd.cells54 : Tryd.prog.cellsOf 54 = 1 := by kernel_rfl
theorem addr_none {W : World} {b off : Nat} {spot : Option _} {v : Value} (h : W.cell? ((⟨b, off, spot⟩ : Addr).add 0) = some v) : spot = none := by
  simpa [Addr.add] using World.cell?_spot h
theorem add_none (b off i : Nat) : (⟨b, off, none⟩ : Addr).add i = ⟨b, off + i, none⟩ := by
  by_cases h : i = 0 <;> simp [Addr.add, h]
theorem read_kI {H : Type} {enc : TypeId × Value → H} {W : World} {spare : Nat → Bool} {held : Bool} {fuel : Nat} {c : Value} {x : DataW H × List MemPlace}
    (h : DataW.trod enc Tryd.prog W 0 spare held fuel 25 [c] = some x) : ∃ ao cap zs, c = .slice ao (zs : List Int).length cap ∧ zs.length ≤ 9223372036854775807 ∧ kI.In W.heap.size W ao zs := by
  rcases open_slice1 Tryd.underlying25 Tryd.cells3 h with ⟨hcs, _⟩ | ⟨a, len, cap, m, n, V, D, Pl, hcs, hb, hl, hm, hmm, hx, hel⟩
  · simp at hcs; subst hcs; exact ⟨none, 0, [], rfl, by simp, .inl rfl⟩
  · simp at hcs; subst hcs
    have hlm : len ≤ m := by rw [hmm]; split <;> omega
    refine ⟨some a, cap, (List.range len).map (fun i => intOf (V i)), by simp, by simp; unfold maxLen at hm; omega, ?_⟩
    by_cases h0 : len = 0
    · subst h0; exact .inl (by simp)
    · obtain ⟨b, off, spot⟩ := a
      have hs : spot = none := addr_none (hel 0 (by omega)).1
      subst hs
      refine ints_mk ?_ fun j hj => ?_
      · have := World.block_lt_of_cell? _ _ (hel 0 (by omega)).1
        simpa [Addr.add] using this
      · simp at hj
        obtain ⟨h1, h2⟩ := hel j (by omega)
        obtain ⟨z, e, _, _⟩ := DataW.trod_int Tryd.underlying3 h2
        simp at e
        rw [e, add_none] at h1
        simpa [hj, e, intOf, el] using h1
set_option maxRecDepth 100000 in
theorem read_kTk {H : Type} {enc : TypeId × Value → H} {W : World} {spare : Nat → Bool} {held : Bool} {fuel : Nat} {c : Value} {x : DataW H × List MemPlace}
    (h : DataW.trod enc Tryd.prog W 0 spare held fuel 54 [c] = some x) : ∃ ao cap ts, c = .slice ao (ts : List (Int × Int × Int)).length cap ∧ ts.length ≤ 9223372036854775807 ∧ kTk.In W.heap.size W ao ts := by
  rcases open_slice Tryd.underlying54 h with ⟨hcs, _⟩ | ⟨a, len, cap, m, n, D, Pl, hcs, hb, hl, hm, hmm, hx0, hx⟩
  · simp at hcs; subst hcs; exact ⟨none, 0, [], rfl, by simp, .inl rfl⟩
  · simp at hcs; subst hcs
    have hlm : len ≤ m := by rw [hmm]; split <;> omega
    have each : ∀ i, i < m → ∃ q : Int × Int × Int, W.cell? (a.add (i * 3)) = some (.int .i64 q.1) ∧ W.cell? (a.add (i * 3 + 1)) = some (.int .i64 q.2.1) ∧ W.cell? (a.add (i * 3 + 2)) = some (.int .i64 q.2.2) := by
      intro i hi
      obtain ⟨cs', h1, h2⟩ := hx i hi
      rw [Tryd.cells72] at h1
      obtain ⟨_, hlen, hcell⟩ := World.cells?_some h1
      obtain ⟨xs, k, hk, hxy, _, hxl, hf⟩ := DataW.trod_struct Tryd.underlying72 h2
      match xs, hxl, cs', hlen with
      | [y0, y1, y2], _, [v0, v1, v2], _ =>
        have g0 := hf 0 _ rfl
        have g1 := hf 1 _ rfl
        have g2 := hf 2 _ rfl
        simp [Tryd.cells3] at g0 g1 g2
        have e0 := hcell 0 (by omega)
        have e1 := hcell 1 (by omega)
        have e2 := hcell 2 (by omega)
        rw [add_add] at e0 e1 e2
        obtain ⟨z0, p0, _, _⟩ := DataW.trod_int Tryd.underlying3 g0
        obtain ⟨z1, p1, _, _⟩ := DataW.trod_int Tryd.underlying3 g1
        obtain ⟨z2, p2, _, _⟩ := DataW.trod_int Tryd.underlying3 g2
        simp at p0 p1 p2
        subst p0 p1 p2
        exact ⟨(z0, z1, z2), by simpa using e0, by simpa using e1, by simpa using e2⟩
    obtain ⟨q, hq⟩ := choose_lt each
    have hat : ∀ j, j < len → el ((List.range len).map q) j = q j := fun j hj => by simp [el, hj]
    refine ⟨some a, cap, (List.range len).map q, by simp, by simp; unfold maxLen at hm; omega, ?_⟩
    by_cases h0 : len = 0
    · subst h0; exact .inl (by simp)
    · obtain ⟨b, off, spot⟩ := a
      have hs : spot = none := addr_none (by simpa using (hq 0 (by omega)).1)
      subst hs
      refine .inr ⟨b, off, rfl, ?_, fun j hj i hi => ?_⟩
      · have := World.block_lt_of_cell? _ _ (hq 0 (by omega)).1
        simpa [Addr.add] using this
      · simp at hj
        rw [hat j hj]
        obtain ⟨h0, h1, h2⟩ := hq j (by omega)
        rw [add_none] at h0 h1 h2
        have hi' : i < 3 := hi
        rcases (show i = 0 ∨ i = 1 ∨ i = 2 from by omega) with rfl | rfl | rfl
        · have e : (⟨b, off + j * kTk.sz + 0, none⟩ : Addr) = ⟨b, off + (j * 3), none⟩ := by show (⟨b, off + j * 3 + 0, none⟩ : Addr) = _; simp <;> omega
          rw [e]; exact h0
        · have e : (⟨b, off + j * kTk.sz + 1, none⟩ : Addr) = ⟨b, off + (j * 3 + 1), none⟩ := by show (⟨b, off + j * 3 + 1, none⟩ : Addr) = _; simp <;> omega
          rw [e]; exact h1
        · have e : (⟨b, off + j * kTk.sz + 2, none⟩ : Addr) = ⟨b, off + (j * 3 + 2), none⟩ := by show (⟨b, off + j * 3 + 2, none⟩ : Addr) = _; simp <;> omega
          rw [e]; exact h2
set_option maxRecDepth 100000 in
theorem read_kOu {H : Type} {enc : TypeId × Value → H} {W : World} {spare : Nat → Bool} {held : Bool} {fuel : Nat} {c : Value} {x : DataW H × List MemPlace}
    (h : DataW.trod enc Tryd.prog W 0 spare held fuel 23 [c] = some x) : ∃ ao cap ts, c = .slice ao (ts : List (Int × Int × Int)).length cap ∧ ts.length ≤ 9223372036854775807 ∧ kOu.In W.heap.size W ao ts := by
  rcases open_slice Tryd.underlying23 h with ⟨hcs, _⟩ | ⟨a, len, cap, m, n, D, Pl, hcs, hb, hl, hm, hmm, hx0, hx⟩
  · simp at hcs; subst hcs; exact ⟨none, 0, [], rfl, by simp, .inl rfl⟩
  · simp at hcs; subst hcs
    have hlm : len ≤ m := by rw [hmm]; split <;> omega
    have each : ∀ i, i < m → ∃ q : Int × Int × Int, W.cell? (a.add (i * 3)) = some (.int .i64 q.1) ∧ W.cell? (a.add (i * 3 + 1)) = some (.int .i64 q.2.1) ∧ W.cell? (a.add (i * 3 + 2)) = some (.int .i64 q.2.2) := by
      intro i hi
      obtain ⟨cs', h1, h2⟩ := hx i hi
      rw [Tryd.cells61] at h1
      obtain ⟨_, hlen, hcell⟩ := World.cells?_some h1
      obtain ⟨xs, k, hk, hxy, _, hxl, hf⟩ := DataW.trod_struct Tryd.underlying61 h2
      match xs, hxl, cs', hlen with
      | [y0, y1, y2], _, [v0, v1, v2], _ =>
        have g0 := hf 0 _ rfl
        have g1 := hf 1 _ rfl
        have g2 := hf 2 _ rfl
        simp [Tryd.cells3] at g0 g1 g2
        have e0 := hcell 0 (by omega)
        have e1 := hcell 1 (by omega)
        have e2 := hcell 2 (by omega)
        rw [add_add] at e0 e1 e2
        obtain ⟨z0, p0, _, _⟩ := DataW.trod_int Tryd.underlying3 g0
        obtain ⟨z1, p1, _, _⟩ := DataW.trod_int Tryd.underlying3 g1
        obtain ⟨z2, p2, _, _⟩ := DataW.trod_int Tryd.underlying3 g2
        simp at p0 p1 p2
        subst p0 p1 p2
        exact ⟨(z0, z1, z2), by simpa using e0, by simpa using e1, by simpa using e2⟩
    obtain ⟨q, hq⟩ := choose_lt each
    have hat : ∀ j, j < len → el ((List.range len).map q) j = q j := fun j hj => by simp [el, hj]
    refine ⟨some a, cap, (List.range len).map q, by simp, by simp; unfold maxLen at hm; omega, ?_⟩
    by_cases h0 : len = 0
    · subst h0; exact .inl (by simp)
    · obtain ⟨b, off, spot⟩ := a
      have hs : spot = none := addr_none (by simpa using (hq 0 (by omega)).1)
      subst hs
      refine .inr ⟨b, off, rfl, ?_, fun j hj i hi => ?_⟩
      · have := World.block_lt_of_cell? _ _ (hq 0 (by omega)).1
        simpa [Addr.add] using this
      · simp at hj
        rw [hat j hj]
        obtain ⟨h0, h1, h2⟩ := hq j (by omega)
        rw [add_none] at h0 h1 h2
        have hi' : i < 3 := hi
        rcases (show i = 0 ∨ i = 1 ∨ i = 2 from by omega) with rfl | rfl | rfl
        · have e : (⟨b, off + j * kOu.sz + 0, none⟩ : Addr) = ⟨b, off + (j * 3), none⟩ := by show (⟨b, off + j * 3 + 0, none⟩ : Addr) = _; simp <;> omega
          rw [e]; exact h0
        · have e : (⟨b, off + j * kOu.sz + 1, none⟩ : Addr) = ⟨b, off + (j * 3 + 1), none⟩ := by show (⟨b, off + j * 3 + 1, none⟩ : Addr) = _; simp <;> omega
          rw [e]; exact h1
        · have e : (⟨b, off + j * kOu.sz + 2, none⟩ : Addr) = ⟨b, off + (j * 3 + 2), none⟩ := by show (⟨b, off + j * 3 + 2, none⟩ : Addr) = _; simp <;> omega
          rw [e]; exact h2
set_option maxRecDepth 100000 in
theorem read_kLo {H : Type} {enc : TypeId × Value → H} {W : World} {spare : Nat → Bool} {held : Bool} {fuel : Nat} {c : Value} {x : DataW H × List MemPlace}
    (h : DataW.trod enc Tryd.prog W 0 spare held fuel 24 [c] = some x) : ∃ ao cap ts, c = .slice ao (ts : List (Int × Int × Int × Int)).length cap ∧ ts.length ≤ 9223372036854775807 ∧ kLo.In W.heap.size W ao ts := by
  rcases open_slice Tryd.underlying24 h with ⟨hcs, _⟩ | ⟨a, len, cap, m, n, D, Pl, hcs, hb, hl, hm, hmm, hx0, hx⟩
  · simp at hcs; subst hcs; exact ⟨none, 0, [], rfl, by simp, .inl rfl⟩
  · simp at hcs; subst hcs
    have hlm : len ≤ m := by rw [hmm]; split <;> omega
    have each : ∀ i, i < m → ∃ q : Int × Int × Int × Int, W.cell? (a.add (i * 4)) = some (.int .i64 q.1) ∧ W.cell? (a.add (i * 4 + 1)) = some (.int .i64 q.2.1) ∧ W.cell? (a.add (i * 4 + 2)) = some (.int .i64 q.2.2.1) ∧ W.cell? (a.add (i * 4 + 3)) = some (.int .i64 q.2.2.2) := by
      intro i hi
      obtain ⟨cs', h1, h2⟩ := hx i hi
      rw [Tryd.cells65] at h1
      obtain ⟨_, hlen, hcell⟩ := World.cells?_some h1
      obtain ⟨xs, k, hk, hxy, _, hxl, hf⟩ := DataW.trod_struct Tryd.underlying65 h2
      match xs, hxl, cs', hlen with
      | [y0, y1, y2, y3], _, [v0, v1, v2, v3], _ =>
        have g0 := hf 0 _ rfl
        have g1 := hf 1 _ rfl
        have g2 := hf 2 _ rfl
        have g3 := hf 3 _ rfl
        simp [Tryd.cells3] at g0 g1 g2 g3
        have e0 := hcell 0 (by omega)
        have e1 := hcell 1 (by omega)
        have e2 := hcell 2 (by omega)
        have e3 := hcell 3 (by omega)
        rw [add_add] at e0 e1 e2 e3
        obtain ⟨z0, p0, _, _⟩ := DataW.trod_int Tryd.underlying3 g0
        obtain ⟨z1, p1, _, _⟩ := DataW.trod_int Tryd.underlying3 g1
        obtain ⟨z2, p2, _, _⟩ := DataW.trod_int Tryd.underlying3 g2
        obtain ⟨z3, p3, _, _⟩ := DataW.trod_int Tryd.underlying3 g3
        simp at p0 p1 p2 p3
        subst p0 p1 p2 p3
        exact ⟨(z0, z1, z2, z3), by simpa using e0, by simpa using e1, by simpa using e2, by simpa using e3⟩
    obtain ⟨q, hq⟩ := choose_lt each
    have hat : ∀ j, j < len → el ((List.range len).map q) j = q j := fun j hj => by simp [el, hj]
    refine ⟨some a, cap, (List.range len).map q, by simp, by simp; unfold maxLen at hm; omega, ?_⟩
    by_cases h0 : len = 0
    · subst h0; exact .inl (by simp)
    · obtain ⟨b, off, spot⟩ := a
      have hs : spot = none := addr_none (by simpa using (hq 0 (by omega)).1)
      subst hs
      refine .inr ⟨b, off, rfl, ?_, fun j hj i hi => ?_⟩
      · have := World.block_lt_of_cell? _ _ (hq 0 (by omega)).1
        simpa [Addr.add] using this
      · simp at hj
        rw [hat j hj]
        obtain ⟨h0, h1, h2, h3⟩ := hq j (by omega)
        rw [add_none] at h0 h1 h2 h3
        have hi' : i < 4 := hi
        rcases (show i = 0 ∨ i = 1 ∨ i = 2 ∨ i = 3 from by omega) with rfl | rfl | rfl | rfl
        · have e : (⟨b, off + j * kLo.sz + 0, none⟩ : Addr) = ⟨b, off + (j * 4), none⟩ := by show (⟨b, off + j * 4 + 0, none⟩ : Addr) = _; simp <;> omega
          rw [e]; exact h0
        · have e : (⟨b, off + j * kLo.sz + 1, none⟩ : Addr) = ⟨b, off + (j * 4 + 1), none⟩ := by show (⟨b, off + j * 4 + 1, none⟩ : Addr) = _; simp <;> omega
          rw [e]; exact h1
        · have e : (⟨b, off + j * kLo.sz + 2, none⟩ : Addr) = ⟨b, off + (j * 4 + 2), none⟩ := by show (⟨b, off + j * 4 + 2, none⟩ : Addr) = _; simp <;> omega
          rw [e]; exact h2
        · have e : (⟨b, off + j * kLo.sz + 3, none⟩ : Addr) = ⟨b, off + (j * 4 + 3), none⟩ := by show (⟨b, off + j * 4 + 3, none⟩ : Addr) = _; simp <;> omega
          rw [e]; exact h3
theorem el_range_map {α : Type} [Inhabited α] (f : Nat → α) {n j : Nat} (h : j < n) : el ((List.range n).map f) j = f j := by simp [el, h]
set_option maxRecDepth 100000 in
theorem read_kTT {H : Type} {enc : TypeId × Value → H} {W : World} {spare : Nat → Bool} {held : Bool} {fuel : Nat} {c : Value} {x : DataW H × List MemPlace}
    (h : DataW.trod enc Tryd.prog W 0 spare held fuel 22 [c] = some x) : ∃ (ao : Option Addr) (cap : Nat) (hs : List (Option Addr × Nat × Nat)) (ts : List (List (Int × Int × Int))), c = .slice ao ts.length cap ∧ ts.length ≤ 9223372036854775807 ∧ (∀ l ∈ ts, l.length ≤ 9223372036854775807) ∧ InRT W.heap.size W ao hs ts := by
  rcases open_slice1 Tryd.underlying22 Tryd.cells54 h with ⟨hcs, _⟩ | ⟨a, len, cap, m, n, V, D, Pl, hcs, hb, hl, hm, hmm, hx, hel⟩
  · simp at hcs; subst hcs; exact ⟨none, 0, [], [], rfl, by simp, by simp, InRT.nil _ _ _⟩
  · simp at hcs; subst hcs
    have hlm : len ≤ m := by rw [hmm]; split <;> omega
    have each : ∀ i, i < m → ∃ q : Option Addr × Nat × List (Int × Int × Int), V i = .slice q.1 q.2.2.length q.2.1 ∧ q.2.2.length ≤ 9223372036854775807 ∧ kTk.In W.heap.size W q.1 q.2.2 := by
      intro i hi
      obtain ⟨qo, qc, zs, h1, h2, h3⟩ := read_kTk (hel i hi).2
      exact ⟨(qo, qc, zs), h1, h2, h3⟩
    obtain ⟨q, hq⟩ := choose_lt each
    refine ⟨some a, cap, (List.range len).map (fun i => ((q i).1, (q i).2.2.length, (q i).2.1)), (List.range len).map (fun i => (q i).2.2), by simp, by simp; unfold maxLen at hm; omega, ?_, ?_, by simp, ?_⟩
    · intro l hl'
      obtain ⟨i, hi, rfl⟩ := List.mem_map.1 hl'
      exact (hq i (by have := List.mem_range.1 hi; omega)).2.1
    · by_cases h0 : len = 0
      · subst h0; exact .inl (by simp)
      · obtain ⟨b, off, spot⟩ := a
        have hs : spot = none := addr_none (hel 0 (by omega)).1
        subst hs
        refine .inr ⟨b, off, rfl, ?_, fun j hj i hi => ?_⟩
        · have := World.block_lt_of_cell? _ _ (hel 0 (by omega)).1
          simpa [Addr.add] using this
        · have e : i = 0 := by have : i < 1 := hi; omega
          subst e
          simp only [List.length_map, List.length_range] at hj
          have h1 := (hel j (by omega)).1
          rw [add_none, (hq j (by omega)).1] at h1
          rw [el_range_map _ hj]
          simpa [kRT] using h1
    · intro j hj
      simp only [List.length_map, List.length_range] at hj
      rw [el_range_map _ hj, el_range_map _ hj]
      exact ⟨rfl, (hq j (by omega)).2.2⟩
theorem array7 {α : Type} {cs : Array α} (h : cs.size = 7) : ∃ c0 c1 c2 c3 c4 c5 c6, cs = #[c0, c1, c2, c3, c4, c5, c6] := by
  obtain ⟨l⟩ := cs
  match l, h with
  | [c0, c1, c2, c3, c4, c5, c6], _ => exact ⟨c0, c1, c2, c3, c4, c5, c6, rfl⟩
section
variable {H : Type} {enc : TypeId × Value → H} {P : Program} {w : World} {base : Nat} {spare : Nat → Bool} {held : Bool}
theorem open_agg7 {r : Reach} {b0 : Nat} {t : TypeId} {f0 f1 f2 f3 f4 f5 f6 : Field} {v : Value} {d : DataW H} {p : List MemPlace} (hs : P.underlying t = some (.struct #[f0, f1, f2, f3, f4, f5, f6])) (hone : oneCellFields P #[f0, f1, f2, f3, f4, f5, f6] = true) (hC : P.cellsOf t = 7)
    (hv : Value.okWide P w r b0 t v) (h : DataW.Trod enc P w base spare held t v d p) :
    ∃ (v0 v1 v2 v3 v4 v5 v6 : Value) (y0 y1 y2 y3 y4 y5 y6 : DataW H × List MemPlace) (n : Nat), v = .agg #[v0, v1, v2, v3, v4, v5, v6] ∧
      DataW.trod enc P w base spare held n f0.type [v0] = some y0 ∧ DataW.trod enc P w base spare held n f1.type [v1] = some y1 ∧ DataW.trod enc P w base spare held n f2.type [v2] = some y2 ∧ DataW.trod enc P w base spare held n f3.type [v3] = some y3 ∧ DataW.trod enc P w base spare held n f4.type [v4] = some y4 ∧ DataW.trod enc P w base spare held n f5.type [v5] = some y5 ∧ DataW.trod enc P w base spare held n f6.type [v6] = some y6 := by
  obtain ⟨cs, rfl, hsz⟩ := okWide_struct hs hv
  obtain ⟨c0, c1, c2, c3, c4, c5, c6, rfl⟩ := array7 (hsz.trans hC)
  obtain ⟨fuel, hf⟩ := h
  obtain ⟨xs, n, _, hx, hl, hlen, hfs⟩ := DataW.trod_struct hs hf
  obtain ⟨o0, k0⟩ := hone_of hone 0 f0 rfl
  obtain ⟨o1, k1⟩ := hone_of hone 1 f1 rfl
  obtain ⟨o2, k2⟩ := hone_of hone 2 f2 rfl
  obtain ⟨o3, k3⟩ := hone_of hone 3 f3 rfl
  obtain ⟨o4, k4⟩ := hone_of hone 4 f4 rfl
  obtain ⟨o5, k5⟩ := hone_of hone 5 f5 rfl
  obtain ⟨o6, k6⟩ := hone_of hone 6 f6 rfl
  match xs, hlen with
  | [y0, y1, y2, y3, y4, y5, y6], _ =>
    exact ⟨c0, c1, c2, c3, c4, c5, c6, y0, y1, y2, y3, y4, y5, y6, n, rfl, by simpa [Value.cells, o0, k0] using hfs 0 f0 rfl, by simpa [Value.cells, o1, k1] using hfs 1 f1 rfl, by simpa [Value.cells, o2, k2] using hfs 2 f2 rfl, by simpa [Value.cells, o3, k3] using hfs 3 f3 rfl, by simpa [Value.cells, o4, k4] using hfs 4 f4 rfl, by simpa [Value.cells, o5, k5] using hfs 5 f5 rfl, by simpa [Value.cells, o6, k6] using hfs 6 f6 rfl⟩
end
set_option maxRecDepth 100000 in
theorem read_Pipe {H : Type} {enc : TypeId × Value → H} {W : World} {spare : Nat → Bool} {held : Bool} {rr : Reach} {b0 : Nat} {v : Value} {d : DataW H} {p : List MemPlace}
    (hv : Value.okWide Tryd.prog W rr b0 27 v) (h : DataW.Trod enc Tryd.prog W 0 spare held 27 v d p) :
    ∃ (ti it : Int) (cl : Bool) (bxo : Option Addr) (bxc : Nat) (bx : List (List (Int × Int × Int))) (emo : Option Addr) (emc : Nat) (em : List (Int × Int × Int)) (fao : Option Addr) (fac : Nat) (fa : List (Int × Int × Int × Int)) (fuo : Option Addr) (fuc : Nat) (fu : List Int),
      v = .agg #[.int .i64 ti, .int .i64 it, .bool cl, .slice bxo bx.length bxc, .slice emo em.length emc, .slice fao fa.length fac, .slice fuo fu.length fuc] ∧ (-9223372036854775808 ≤ it ∧ it ≤ 9223372036854775807) ∧ bx.length ≤ 9223372036854775807 ∧ (∀ l ∈ bx, l.length ≤ 9223372036854775807) ∧ em.length ≤ 9223372036854775807 ∧ fa.length ≤ 9223372036854775807 ∧ fu.length ≤ 9223372036854775807 ∧ InPipe W.heap.size W bxo bx emo em fao fa fuo fu := by
  obtain ⟨c0, c1, c2, c3, c4, c5, c6, y0, y1, y2, y3, y4, y5, y6, m, rfl, hy0, hy1, hy2, hy3, hy4, hy5, hy6⟩ := open_agg7 Tryd.underlying27 (by kernel_rfl) Tryd.cells27 hv h
  obtain ⟨ti, e0, _, _⟩ := DataW.trod_int Tryd.underlying3 hy0
  obtain ⟨it, e1, _, hi⟩ := DataW.trod_int Tryd.underlying3 hy1
  obtain ⟨cl, e2, _⟩ := DataW.trod_bool Tryd.underlying4 hy2
  simp at e0 e1 e2
  subst e0 e1 e2
  obtain ⟨bxo, bxc, hs, bx, rfl, hlb, hle, hB⟩ := read_kTT hy3
  obtain ⟨emo, emc, em, rfl, hlm, hM⟩ := read_kOu hy4
  obtain ⟨fao, fac, fa, rfl, hlf, hF⟩ := read_kLo hy5
  obtain ⟨fuo, fuc, fu, rfl, hlu, hU⟩ := read_kI hy6
  exact ⟨ti, it, cl, bxo, bxc, bx, emo, emc, em, fao, fac, fa, fuo, fuc, fu, rfl, bounds_i64 hi, hlb, hle, hlm, hlf, hlu, ⟨_, hB⟩, hM, hF, hU⟩
end Go.Proofs.YtjdcaommbibkaaaDoor
