
/- How the arguments that come in are read. No conditions but those written. -/
import Derived.Test.YtafhidlianafhaaBa
import Derived.ProofKit
import Derived.Deep.SlicePairs
import Derived.Lib.SmallJoins
namespace Go.Proofs.Ytafhidlianafhaa
open Go.ChangeShapes Go.WideShapes Go.ChangeAt Go.RowKit Go.Joins Go.Deep

theorem Try.own : ownKnob Try.prog.godebug = none := by kernel_rfl
theorem Try.laidOut : laidOutB Try.prog = true := by kernel_rfl
theorem Try.cells79 : Try.prog.cellsOf 79 = 3 := by kernel_rfl
theorem Try.cells25 : Try.prog.cellsOf 25 = 5 := by kernel_rfl
theorem Try.cells3 : Try.prog.cellsOf 3 = 1 := by kernel_rfl
theorem addr_none {W : World} {b off : Nat} {spot : Option _} {v : Value} (h : W.cell? ((⟨b, off, spot⟩ : Addr).add 0) = some v) : spot = none := by
  simpa [Addr.add] using World.cell?_spot h
theorem add_none (b off i : Nat) : (⟨b, off, none⟩ : Addr).add i = ⟨b, off + i, none⟩ := by
  by_cases h : i = 0 <;> simp [Addr.add, h]
theorem read_kI {H : Type} {enc : TypeId × Value → H} {W : World} {spare : Nat → Bool} {held : Bool} {fuel : Nat} {c : Value} {x : DataW H × List MemPlace}
    (h : DataW.trod enc Try.prog W 0 spare held fuel 22 [c] = some x) : ∃ ao cap zs, c = .slice ao (zs : List Int).length cap ∧ zs.length ≤ 9223372036854775807 ∧ kI.In W.heap.size W ao zs := by
  rcases open_slice1 Try.underlying22 Try.cells3 h with ⟨hcs, _⟩ | ⟨a, len, cap, m, n, V, D, Pl, hcs, hb, hl, hm, hmm, hx, hel⟩
  · simp at hcs; subst hcs; exact ⟨none, 0, [], rfl, by simp, .inl rfl⟩
  · simp at hcs; subst hcs
    have hlm : len ≤ m := by rw [hmm]; split <;> omega
    refine ⟨some a, cap, (List.range len).map (fun i => intOf (V i)), by simp, by simp; unfold maxLen at hm; omega, ?_⟩
    by_cases h0 : len = 0
    · subst h0; exact .inl (by simp)
    · obtain ⟨b, off, spot⟩ := a
      have hs : spot = none := addr_none (hel 0 (by omega)).1
      subst hs
      refine ints_mk ?_ fun j hj => ?_
      · have := World.block_lt_of_cell? _ _ (hel 0 (by omega)).1
        simpa [Addr.add] using this
      · simp at hj
        obtain ⟨h1, h2⟩ := hel j (by omega)
        obtain ⟨z, e, _, _⟩ := DataW.trod_int Try.underlying3 h2
        simp at e
        rw [e, add_none] at h1
        simpa [hj, e, intOf, el] using h1
set_option maxRecDepth 100000 in
theorem read_kL {H : Type} {enc : TypeId × Value → H} {W : World} {spare : Nat → Bool} {held : Bool} {fuel : Nat} {c : Value} {x : DataW H × List MemPlace}
    (h : DataW.trod enc Try.prog W 0 spare held fuel 23 [c] = some x) : ∃ ao cap ts, c = .slice ao (ts : List (Int × Int × Int)).length cap ∧ ts.length ≤ 9223372036854775807 ∧ kL.In W.heap.size W ao ts := by
  rcases open_slice Try.underlying23 h with ⟨hcs, _⟩ | ⟨a, len, cap, m, n, D, Pl, hcs, hb, hl, hm, hmm, hx0, hx⟩
  · simp at hcs; subst hcs; exact ⟨none, 0, [], rfl, by simp, .inl rfl⟩
  · simp at hcs; subst hcs
    have hlm : len ≤ m := by rw [hmm]; split <;> omega
    have each : ∀ i, i < m → ∃ q : Int × Int × Int, W.cell? (a.add (i * 3)) = some (.int .i64 q.1) ∧ W.cell? (a.add (i * 3 + 1)) = some (.int .i64 q.2.1) ∧ W.cell? (a.add (i * 3 + 2)) = some (.int .i64 q.2.2) := by
      intro i hi
      obtain ⟨cs', h1, h2⟩ := hx i hi
      rw [Try.cells79] at h1
      obtain ⟨_, hlen, hcell⟩ := World.cells?_some h1
      obtain ⟨xs, k, hk, hxy, _, hxl, hf⟩ := DataW.trod_struct Try.underlying79 h2
      match xs, hxl, cs', hlen with
      | [y0, y1, y2], _, [v0, v1, v2], _ =>
        have g0 := hf 0 _ rfl
        have g1 := hf 1 _ rfl
        have g2 := hf 2 _ rfl
        simp [Try.cells3] at g0 g1 g2
        have e0 := hcell 0 (by omega)
        have e1 := hcell 1 (by omega)
        have e2 := hcell 2 (by omega)
        rw [add_add] at e0 e1 e2
        obtain ⟨z0, p0, _, _⟩ := DataW.trod_int Try.underlying3 g0
        obtain ⟨z1, p1, _, _⟩ := DataW.trod_int Try.underlying3 g1
        obtain ⟨z2, p2, _, _⟩ := DataW.trod_int Try.underlying3 g2
        simp at p0 p1 p2
        subst p0 p1 p2
        exact ⟨(z0, z1, z2), by simpa using e0, by simpa using e1, by simpa using e2⟩
    obtain ⟨q, hq⟩ := choose_lt each
    have hat : ∀ j, j < len → el ((List.range len).map q) j = q j := fun j hj => by simp [el, hj]
    refine ⟨some a, cap, (List.range len).map q, by simp, by simp; unfold maxLen at hm; omega, ?_⟩
    by_cases h0 : len = 0
    · subst h0; exact .inl (by simp)
    · obtain ⟨b, off, spot⟩ := a
      have hs : spot = none := addr_none (by simpa using (hq 0 (by omega)).1)
      subst hs
      refine .inr ⟨b, off, rfl, ?_, fun j hj i hi => ?_⟩
      · have := World.block_lt_of_cell? _ _ (hq 0 (by omega)).1
        simpa [Addr.add] using this
      · simp at hj
        rw [hat j hj]
        obtain ⟨h0, h1, h2⟩ := hq j (by omega)
        rw [add_none] at h0 h1 h2
        have hi' : i < 3 := hi
        rcases (show i = 0 ∨ i = 1 ∨ i = 2 from by omega) with rfl | rfl | rfl
        · have e : (⟨b, off + j * kL.sz + 0, none⟩ : Addr) = ⟨b, off + (j * 3), none⟩ := by show (⟨b, off + j * 3 + 0, none⟩ : Addr) = _; simp <;> omega
          rw [e]; exact h0
        · have e : (⟨b, off + j * kL.sz + 1, none⟩ : Addr) = ⟨b, off + (j * 3 + 1), none⟩ := by show (⟨b, off + j * 3 + 1, none⟩ : Addr) = _; simp <;> omega
          rw [e]; exact h1
        · have e : (⟨b, off + j * kL.sz + 2, none⟩ : Addr) = ⟨b, off + (j * 3 + 2), none⟩ := by show (⟨b, off + j * 3 + 2, none⟩ : Addr) = _; simp <;> omega
          rw [e]; exact h2
section
variable {H : Type} {enc : TypeId × Value → H} {P : Program} {w : World} {base : Nat} {spare : Nat → Bool} {held : Bool}
theorem array5 {α : Type} {cs : Array α} (h : cs.size = 5) : ∃ c0 c1 c2 c3 c4, cs = #[c0, c1, c2, c3, c4] := by
  obtain ⟨l⟩ := cs
  match l, h with
  | [c0, c1, c2, c3, c4], _ => exact ⟨c0, c1, c2, c3, c4, rfl⟩
theorem open_agg5 {r : Reach} {b0 : Nat} {t : TypeId} {f0 f1 f2 f3 f4 : Field} {v : Value} {d : DataW H} {p : List MemPlace} (hs : P.underlying t = some (.struct #[f0, f1, f2, f3, f4])) (hone : oneCellFields P #[f0, f1, f2, f3, f4] = true) (hC : P.cellsOf t = 5)
    (hv : Value.okWide P w r b0 t v) (h : DataW.Trod enc P w base spare held t v d p) :
    ∃ (v0 v1 v2 v3 v4 : Value) (y0 y1 y2 y3 y4 : DataW H × List MemPlace) (n : Nat), v = .agg #[v0, v1, v2, v3, v4] ∧
      DataW.trod enc P w base spare held n f0.type [v0] = some y0 ∧ DataW.trod enc P w base spare held n f1.type [v1] = some y1 ∧ DataW.trod enc P w base spare held n f2.type [v2] = some y2 ∧ DataW.trod enc P w base spare held n f3.type [v3] = some y3 ∧ DataW.trod enc P w base spare held n f4.type [v4] = some y4 := by
  obtain ⟨cs, rfl, hsz⟩ := okWide_struct hs hv
  obtain ⟨c0, c1, c2, c3, c4, rfl⟩ := array5 (hsz.trans hC)
  obtain ⟨fuel, hf⟩ := h
  obtain ⟨xs, n, _, hx, hl, hlen, hfs⟩ := DataW.trod_struct hs hf
  obtain ⟨o0, k0⟩ := hone_of hone 0 f0 rfl
  obtain ⟨o1, k1⟩ := hone_of hone 1 f1 rfl
  obtain ⟨o2, k2⟩ := hone_of hone 2 f2 rfl
  obtain ⟨o3, k3⟩ := hone_of hone 3 f3 rfl
  obtain ⟨o4, k4⟩ := hone_of hone 4 f4 rfl
  match xs, hlen with
  | [y0, y1, y2, y3, y4], _ =>
    exact ⟨c0, c1, c2, c3, c4, y0, y1, y2, y3, y4, n, rfl, by simpa [Value.cells, o0, k0] using hfs 0 f0 rfl, by simpa [Value.cells, o1, k1] using hfs 1 f1 rfl, by simpa [Value.cells, o2, k2] using hfs 2 f2 rfl, by simpa [Value.cells, o3, k3] using hfs 3 f3 rfl, by simpa [Value.cells, o4, k4] using hfs 4 f4 rfl⟩
end

set_option maxRecDepth 100000 in
theorem read_Box {H : Type} {enc : TypeId × Value → H} {W : World} {spare : Nat → Bool} {held : Bool} {rr : Reach} {b0 : Nat} {v : Value} {d : DataW H} {p : List MemPlace}
    (hv : Value.okWide Try.prog W rr b0 25 v) (h : DataW.Trod enc Try.prog W 0 spare held 25 v d p) :
    ∃ (kap : Int) (cl : Bool) (bo : Option Addr) (bc : Nat) (b : List Int) (so : Option Addr) (sc : Nat) (s : List (Int × Int × Int)) (ro : Option Addr) (rc : Nat) (r : List (Int × Int × Int)),
      v = .agg #[.int .i64 kap, .bool cl, .slice bo b.length bc, .slice so s.length sc, .slice ro r.length rc] ∧ b.length ≤ 9223372036854775807 ∧ s.length ≤ 9223372036854775807 ∧ r.length ≤ 9223372036854775807 ∧ InBox W.heap.size W bo b so s ro r := by
  obtain ⟨c0, c1, c2, c3, c4, y0, y1, y2, y3, y4, m, rfl, hy0, hy1, hy2, hy3, hy4⟩ := open_agg5 Try.underlying25 (by kernel_rfl) Try.cells25 hv h
  obtain ⟨kap, e0, _, _⟩ := DataW.trod_int Try.underlying3 hy0
  obtain ⟨cl, e1, _⟩ := DataW.trod_bool Try.underlying4 hy1
  simp at e0 e1
  subst e0 e1
  obtain ⟨bo, bc, b, rfl, hlb, hB⟩ := read_kI hy2
  obtain ⟨so, sc, s, rfl, hls, hS⟩ := read_kL hy3
  obtain ⟨ro, rc, r, rfl, hlr, hR⟩ := read_kL hy4
  exact ⟨kap, cl, bo, bc, b, so, sc, s, ro, rc, r, rfl, hlb, hls, hlr, hB, hS, hR⟩
end Go.Proofs.Ytafhidlianafhaa
