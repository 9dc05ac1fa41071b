
/- The errors that the program holds, each in memory of its own. No conditions but those written. -/
import Derived.Test.YtmdgnlhnmnajkaaDoorHs
import Derived.Test.YtmdgnlhnmnajkaaDoorIc
import Derived.Stop.LaidTwo
namespace Go.Proofs.YtmdgnlhnmnajkaaDoor
open Go.ChangeShapes Go.WideShapes Go.RowKit Go.Stop

theorem errsB_of_laid {W : World} (h : laidMetH Tryd.prog laidL W) : ∃ ea : Nat → Addr, Errs W ea ∧ ErrB W ea := by
  have h0 : laidMet Tryd.prog laidL W := h
  have h1 := h0.tail
  have h2 := h1.tail
  have h3 := h2.tail
  have h4 := h3.tail
  have h5 := h4.tail
  obtain ⟨a0, a1, s0, s1, b0, b1, y0, y1, v0, v1, c0, t0, _, c1, t1, _, _, k0, k1⟩ := laid_sentinels2 h0 Tryd.gn0 Tryd.gt0 Tryd.gn1 Tryd.gt1 Tryd.underlying53 Tryd.rowE Tryd.underlying115 Tryd.underlying141 rfl rfl Tryd.underlying9 Tryd.cellsE Tryd.cellsS
  obtain ⟨a2, a3, s2, s3, b2, b3, y2, y3, v2, v3, c2, t2, _, c3, t3, _, _, k2, k3⟩ := laid_sentinels2 h2 Tryd.gn2 Tryd.gt2 Tryd.gn3 Tryd.gt3 Tryd.underlying53 Tryd.rowE Tryd.underlying115 Tryd.underlying141 rfl rfl Tryd.underlying9 Tryd.cellsE Tryd.cellsS
  obtain ⟨a4, a5, s4, s5, b4, b5, y4, y5, v4, v5, c4, t4, _, c5, t5, _, _, k4, k5⟩ := laid_sentinels2 h4 Tryd.gn4 Tryd.gt4 Tryd.gn5 Tryd.gt5 Tryd.underlying53 Tryd.rowE Tryd.underlying115 Tryd.underlying141 rfl rfl Tryd.underlying9 Tryd.cellsE Tryd.cellsS
  obtain ⟨_, a6, _, s6, _, b6, _, y6, _, v6, _, _, _, c6, t6, _, _, _, k6⟩ := laid_sentinels2 h5 Tryd.gn5 Tryd.gt5 Tryd.gn6 Tryd.gt6 Tryd.underlying53 Tryd.rowE Tryd.underlying115 Tryd.underlying141 rfl rfl Tryd.underlying9 Tryd.cellsE Tryd.cellsS
  have d0 : W.cell? ⟨0, 0, none⟩ = some (errV a0) := by simpa using World.var?_cell Tryd.gn0 v0 0
  have d1 : W.cell? ⟨1, 0, none⟩ = some (errV a1) := by simpa using World.var?_cell Tryd.gn1 v1 0
  have d2 : W.cell? ⟨2, 0, none⟩ = some (errV a2) := by simpa using World.var?_cell Tryd.gn2 v2 0
  have d3 : W.cell? ⟨3, 0, none⟩ = some (errV a3) := by simpa using World.var?_cell Tryd.gn3 v3 0
  have d4 : W.cell? ⟨4, 0, none⟩ = some (errV a4) := by simpa using World.var?_cell Tryd.gn4 v4 0
  have d5 : W.cell? ⟨5, 0, none⟩ = some (errV a5) := by simpa using World.var?_cell Tryd.gn5 v5 0
  have d6 : W.cell? ⟨6, 0, none⟩ = some (errV a6) := by simpa using World.var?_cell Tryd.gn6 v6 0
  have hne : ∀ (a b : Addr) (s t : ByteArray) (x y : List UInt8), W.cell? a = some (.string s) → W.cell? b = some (.string t) → s.data.toList = x → t.data.toList = y → x ≠ y → a ≠ b := fun a b s t x y h1 h2 h3 h4 h5 e => by
    subst e
    rw [h1] at h2
    simp at h2
    subst h2
    exact h5 (h3.symm.trans h4)
  refine ⟨fun i => match i with | 0 => a0 | 1 => a1 | 2 => a2 | 3 => a3 | 4 => a4 | 5 => a5 | _ => a6, ⟨fun i hi => ?_, ?_⟩, ⟨fun i hi => ?_, fun i j hi hj hij => ?_⟩⟩
  · rcases (show i = 0 ∨ i = 1 ∨ i = 2 ∨ i = 3 ∨ i = 4 ∨ i = 5 ∨ i = 6 from by omega) with rfl | rfl | rfl | rfl | rfl | rfl | rfl
    · exact d0
    · exact d1
    · exact d2
    · exact d3
    · exact d4
    · exact d5
    · exact d6
  · rcases Nat.lt_or_ge 6 W.heap.size with h | h
    · omega
    · have e : W.heap[6]? = none := Array.getElem?_eq_none h
      simp [World.cell?, e] at d6
  · rcases (show i = 0 ∨ i = 1 ∨ i = 2 ∨ i = 3 ∨ i = 4 ∨ i = 5 ∨ i = 6 from by omega) with rfl | rfl | rfl | rfl | rfl | rfl | rfl
    · exact ⟨_, _, k0⟩
    · exact ⟨_, _, k1⟩
    · exact ⟨_, _, k2⟩
    · exact ⟨_, _, k3⟩
    · exact ⟨_, _, k4⟩
    · exact ⟨_, _, k5⟩
    · exact ⟨_, _, k6⟩
  · rcases (show i = 0 ∨ i = 1 ∨ i = 2 ∨ i = 3 ∨ i = 4 ∨ i = 5 ∨ i = 6 from by omega) with rfl | rfl | rfl | rfl | rfl | rfl | rfl <;> rcases (show j = 0 ∨ j = 1 ∨ j = 2 ∨ j = 3 ∨ j = 4 ∨ j = 5 ∨ j = 6 from by omega) with rfl | rfl | rfl | rfl | rfl | rfl | rfl
    · exact absurd rfl hij
    · exact hne _ _ _ _ _ _ c0 c1 t0 t1 (by decide)
    · exact hne _ _ _ _ _ _ c0 c2 t0 t2 (by decide)
    · exact hne _ _ _ _ _ _ c0 c3 t0 t3 (by decide)
    · exact hne _ _ _ _ _ _ c0 c4 t0 t4 (by decide)
    · exact hne _ _ _ _ _ _ c0 c5 t0 t5 (by decide)
    · exact hne _ _ _ _ _ _ c0 c6 t0 t6 (by decide)
    · exact hne _ _ _ _ _ _ c1 c0 t1 t0 (by decide)
    · exact absurd rfl hij
    · exact hne _ _ _ _ _ _ c1 c2 t1 t2 (by decide)
    · exact hne _ _ _ _ _ _ c1 c3 t1 t3 (by decide)
    · exact hne _ _ _ _ _ _ c1 c4 t1 t4 (by decide)
    · exact hne _ _ _ _ _ _ c1 c5 t1 t5 (by decide)
    · exact hne _ _ _ _ _ _ c1 c6 t1 t6 (by decide)
    · exact hne _ _ _ _ _ _ c2 c0 t2 t0 (by decide)
    · exact hne _ _ _ _ _ _ c2 c1 t2 t1 (by decide)
    · exact absurd rfl hij
    · exact hne _ _ _ _ _ _ c2 c3 t2 t3 (by decide)
    · exact hne _ _ _ _ _ _ c2 c4 t2 t4 (by decide)
    · exact hne _ _ _ _ _ _ c2 c5 t2 t5 (by decide)
    · exact hne _ _ _ _ _ _ c2 c6 t2 t6 (by decide)
    · exact hne _ _ _ _ _ _ c3 c0 t3 t0 (by decide)
    · exact hne _ _ _ _ _ _ c3 c1 t3 t1 (by decide)
    · exact hne _ _ _ _ _ _ c3 c2 t3 t2 (by decide)
    · exact absurd rfl hij
    · exact hne _ _ _ _ _ _ c3 c4 t3 t4 (by decide)
    · exact hne _ _ _ _ _ _ c3 c5 t3 t5 (by decide)
    · exact hne _ _ _ _ _ _ c3 c6 t3 t6 (by decide)
    · exact hne _ _ _ _ _ _ c4 c0 t4 t0 (by decide)
    · exact hne _ _ _ _ _ _ c4 c1 t4 t1 (by decide)
    · exact hne _ _ _ _ _ _ c4 c2 t4 t2 (by decide)
    · exact hne _ _ _ _ _ _ c4 c3 t4 t3 (by decide)
    · exact absurd rfl hij
    · exact hne _ _ _ _ _ _ c4 c5 t4 t5 (by decide)
    · exact hne _ _ _ _ _ _ c4 c6 t4 t6 (by decide)
    · exact hne _ _ _ _ _ _ c5 c0 t5 t0 (by decide)
    · exact hne _ _ _ _ _ _ c5 c1 t5 t1 (by decide)
    · exact hne _ _ _ _ _ _ c5 c2 t5 t2 (by decide)
    · exact hne _ _ _ _ _ _ c5 c3 t5 t3 (by decide)
    · exact hne _ _ _ _ _ _ c5 c4 t5 t4 (by decide)
    · exact absurd rfl hij
    · exact hne _ _ _ _ _ _ c5 c6 t5 t6 (by decide)
    · exact hne _ _ _ _ _ _ c6 c0 t6 t0 (by decide)
    · exact hne _ _ _ _ _ _ c6 c1 t6 t1 (by decide)
    · exact hne _ _ _ _ _ _ c6 c2 t6 t2 (by decide)
    · exact hne _ _ _ _ _ _ c6 c3 t6 t3 (by decide)
    · exact hne _ _ _ _ _ _ c6 c4 t6 t4 (by decide)
    · exact hne _ _ _ _ _ _ c6 c5 t6 t5 (by decide)
    · exact absurd rfl hij
end Go.Proofs.YtmdgnlhnmnajkaaDoor
