
/- How keepers that come in are read. No conditions but those written. -/
import Derived.Test.YtbpacibfboldcaaDoorRab
import Derived.Test.YtbpacibfboldcaaDoorKp
namespace Go.Proofs.YtbpacibfboldcaaDoor
open Go.ChangeShapes Go.WideShapes Go.ChangeAt Go.RowKit Go.Joins Go.Deep

theorem Tryd.cells4 : Tryd.prog.cellsOf 4 = 1 := by kernel_rfl
theorem Tryd.cells25 : Tryd.prog.cellsOf 25 = 8 := by kernel_rfl
def boolOf : Value → Bool | .bool b => b | _ => false
theorem read_kB {H : Type} {enc : TypeId × Value → H} {W : World} {spare : Nat → Bool} {held : Bool} {fuel : Nat} {c : Value} {x : DataW H × List MemPlace}
    (h : DataW.trod enc Tryd.prog W 0 spare held fuel 22 [c] = some x) : ∃ ao cap zs, c = .slice ao (zs : List Bool).length cap ∧ zs.length ≤ 9223372036854775807 ∧ kB.In W.heap.size W ao zs := by
  rcases open_slice1 Tryd.underlying22 Tryd.cells4 h with ⟨hcs, _⟩ | ⟨a, len, cap, m, n, V, D, Pl, hcs, hb, hl, hm, hmm, hx, hel⟩
  · simp at hcs; subst hcs; exact ⟨none, 0, [], rfl, by simp, .inl rfl⟩
  · simp at hcs; subst hcs
    have hlm : len ≤ m := by rw [hmm]; split <;> omega
    refine ⟨some a, cap, (List.range len).map (fun i => boolOf (V i)), by simp, by simp; unfold maxLen at hm; omega, ?_⟩
    by_cases h0 : len = 0
    · subst h0; exact .inl (by simp)
    · obtain ⟨b, off, spot⟩ := a
      have hs : spot = none := addr_none (hel 0 (by omega)).1
      subst hs
      refine bools_mk ?_ fun j hj => ?_
      · have := World.block_lt_of_cell? _ _ (hel 0 (by omega)).1
        simpa [Addr.add] using this
      · simp at hj
        obtain ⟨h1, h2⟩ := hel j (by omega)
        obtain ⟨z, e, _⟩ := DataW.trod_bool Tryd.underlying4 h2
        simp at e
        rw [e, add_none] at h1
        simpa [hj, e, boolOf, el] using h1
section
variable {H : Type} {enc : TypeId × Value → H} {P : Program} {w : World} {base : Nat} {spare : Nat → Bool} {held : Bool}
theorem array8 {α : Type} {cs : Array α} (h : cs.size = 8) : ∃ c0 c1 c2 c3 c4 c5 c6 c7, cs = #[c0, c1, c2, c3, c4, c5, c6, c7] := by
  obtain ⟨l⟩ := cs
  match l, h with
  | [c0, c1, c2, c3, c4, c5, c6, c7], _ => exact ⟨c0, c1, c2, c3, c4, c5, c6, c7, rfl⟩
theorem open_agg8 {r : Reach} {b0 : Nat} {t : TypeId} {f0 f1 f2 f3 f4 f5 f6 f7 : Field} {v : Value} {d : DataW H} {p : List MemPlace} (hs : P.underlying t = some (.struct #[f0, f1, f2, f3, f4, f5, f6, f7])) (hone : oneCellFields P #[f0, f1, f2, f3, f4, f5, f6, f7] = true) (hC : P.cellsOf t = 8)
    (hv : Value.okWide P w r b0 t v) (h : DataW.Trod enc P w base spare held t v d p) :
    ∃ (v0 v1 v2 v3 v4 v5 v6 v7 : Value) (y0 y1 y2 y3 y4 y5 y6 y7 : DataW H × List MemPlace) (n : Nat), v = .agg #[v0, v1, v2, v3, v4, v5, v6, v7] ∧
      DataW.trod enc P w base spare held n f0.type [v0] = some y0 ∧ DataW.trod enc P w base spare held n f1.type [v1] = some y1 ∧ DataW.trod enc P w base spare held n f2.type [v2] = some y2 ∧ DataW.trod enc P w base spare held n f3.type [v3] = some y3 ∧ DataW.trod enc P w base spare held n f4.type [v4] = some y4 ∧ DataW.trod enc P w base spare held n f5.type [v5] = some y5 ∧ DataW.trod enc P w base spare held n f6.type [v6] = some y6 ∧ DataW.trod enc P w base spare held n f7.type [v7] = some y7 := by
  obtain ⟨cs, rfl, hsz⟩ := okWide_struct hs hv
  obtain ⟨c0, c1, c2, c3, c4, c5, c6, c7, rfl⟩ := array8 (hsz.trans hC)
  obtain ⟨fuel, hf⟩ := h
  obtain ⟨xs, n, _, hx, hl, hlen, hfs⟩ := DataW.trod_struct hs hf
  obtain ⟨o0, k0⟩ := hone_of hone 0 f0 rfl
  obtain ⟨o1, k1⟩ := hone_of hone 1 f1 rfl
  obtain ⟨o2, k2⟩ := hone_of hone 2 f2 rfl
  obtain ⟨o3, k3⟩ := hone_of hone 3 f3 rfl
  obtain ⟨o4, k4⟩ := hone_of hone 4 f4 rfl
  obtain ⟨o5, k5⟩ := hone_of hone 5 f5 rfl
  obtain ⟨o6, k6⟩ := hone_of hone 6 f6 rfl
  obtain ⟨o7, k7⟩ := hone_of hone 7 f7 rfl
  match xs, hlen with
  | [y0, y1, y2, y3, y4, y5, y6, y7], _ =>
    exact ⟨c0, c1, c2, c3, c4, c5, c6, c7, y0, y1, y2, y3, y4, y5, y6, y7, n, rfl, by simpa [Value.cells, o0, k0] using hfs 0 f0 rfl, by simpa [Value.cells, o1, k1] using hfs 1 f1 rfl, by simpa [Value.cells, o2, k2] using hfs 2 f2 rfl, by simpa [Value.cells, o3, k3] using hfs 3 f3 rfl, by simpa [Value.cells, o4, k4] using hfs 4 f4 rfl, by simpa [Value.cells, o5, k5] using hfs 5 f5 rfl, by simpa [Value.cells, o6, k6] using hfs 6 f6 rfl, by simpa [Value.cells, o7, k7] using hfs 7 f7 rfl⟩
end
set_option maxRecDepth 100000 in
theorem read_Keeper {H : Type} {enc : TypeId × Value → H} {W : World} {spare : Nat → Bool} {held : Bool} {rr : Reach} {b0 : Nat} {v : Value} {d : DataW H} {p : List MemPlace}
    (hv : Value.okWide Tryd.prog W rr b0 25 v) (h : DataW.Trod enc Tryd.prog W 0 spare held 25 v d p) :
    ∃ (kd mr wi up ch : Int) (ov : Bool) (ro : Option Addr) (rc : Nat) (r : List Bool) (fo : Option Addr) (fc : Nat) (f : List Int),
      v = .agg #[.int .i64 kd, .int .i64 mr, .int .i64 wi, .int .i64 up, .int .i64 ch, .slice ro r.length rc, .slice fo f.length fc, .bool ov] ∧ r.length ≤ 9223372036854775807 ∧ f.length ≤ 9223372036854775807 ∧ InKeeper W.heap.size W ro r fo f := by
  obtain ⟨c0, c1, c2, c3, c4, c5, c6, c7, y0, y1, y2, y3, y4, y5, y6, y7, m, rfl, hy0, hy1, hy2, hy3, hy4, hy5, hy6, hy7⟩ := open_agg8 Tryd.underlying25 (by kernel_rfl) Tryd.cells25 hv h
  obtain ⟨z0, e0, _, _⟩ := DataW.trod_int Tryd.underlying3 hy0
  obtain ⟨z1, e1, _, _⟩ := DataW.trod_int Tryd.underlying3 hy1
  obtain ⟨z2, e2, _, _⟩ := DataW.trod_int Tryd.underlying3 hy2
  obtain ⟨z3, e3, _, _⟩ := DataW.trod_int Tryd.underlying3 hy3
  obtain ⟨z4, e4, _, _⟩ := DataW.trod_int Tryd.underlying3 hy4
  obtain ⟨ro, rc, r, rfl, hlr, hR⟩ := read_kB hy5
  obtain ⟨fo, fc, f, rfl, hlf, hF⟩ := read_kI hy6
  obtain ⟨ov, e7, _⟩ := DataW.trod_bool Tryd.underlying4 hy7
  simp at e0 e1 e2 e3 e4 e7
  subst e0 e1 e2 e3 e4 e7
  exact ⟨z0, z1, z2, z3, z4, ov, ro, rc, r, fo, fc, f, rfl, hlr, hlf, hR, hF⟩
end Go.Proofs.YtbpacibfboldcaaDoor
