
/- Marks in rows of nodes. No conditions but those written. Marks of a graph, and how far they count. No conditions but those written. The walk of the law of RoomOf: it returns true. No conditions but those written. The walk of the law of PlayPipe: it returns true. No conditions but those written. How the arguments that come in are read. No conditions but those written. How rows that come in are read. No conditions but those written. The errors that the program holds, as the rows list them; and a world that has them. No conditions but those written. -/
import Derived.Test.YtllmpinmbajpgaaGreatDoorPRnbMvk
import Derived.Test.YtllmpinmbajpgaaGreatDoorPXrRu
import Derived.Laws.BytesString
import Derived.Test.YtllmpinmbajpgaaGreatDoorPCkLd
import Derived.Test.YtllmpinmbajpgaaGreatDoorPYtYb
import Derived.Test.YtllmpinmbajpgaaGreatDoorPGenFq
import Derived.ProofKit
import Derived.Deep.SlicePairs
import Derived.Lib.SmallJoins
import Derived.Test.YtllmpinmbajpgaaGreatDoorPFoRz
import Derived.ChangeSame
import Derived.ChangeVars
import Derived.JoinedOf
import Derived.RowKit
import Derived.RowKitTokens
import Derived.LaidLaws
import Derived.LaidHandle
import Derived.Stop.Joined
import Derived.Stop.LaidErr
namespace Go.Proofs.YtllmpinmbajpgaaGreatDoor
section
open Go.RowKit
end
section
open Go.RowKit
end
section
open Go.RowKit
end
section
open Go.RowKit

/-- Small: what a pipe answers. -/
structure SmallP (s : PP) (cs : List Int) : Prop where
 b : s.bx.length ≤ 1048576 ∧ totT s.bx ≤ 1048576
 e : s.em.length ≤ 1048576
 f : s.fa.length ≤ 1048576
 u : s.fu.length ≤ 1048576
 c : cs.length ≤ 1048576
theorem ppR_small (gs : List PNode) (ms : List (Int × Int × Int)) : SmallP (ppR gs ms).1 (ppR gs ms).2.1 := by
 unfold ppR
 split
 ·rename_i hok;have h0 : codeG gs = 0 := by have := hok.1; simp [pipeB] at this; exact this.1
  have hE := (goodE_of h0).edg;have hB := playP_bnd (srcP gs gs.length) hE ms (pp0_bnd gs.length) ms.length (Nat.le_refl _);have hl := playP_len gs (srcP gs gs.length) ms (pp0 gs.length) ms.length (Nat.le_refl _);rw [List.take_length] at hB hl;have h1 := hB.len;have h2 := hB.tot;have h3 := hB.em;have h4 := hB.fu;have h5 := hE.many;have h6 := hok.2;exact ⟨⟨by dsimp only; omega, by dsimp only; omega⟩, by dsimp only; omega, by dsimp only; omega, by dsimp only; omega, by dsimp only; omega⟩
 ·exact ⟨⟨by simp, by simp [totT]⟩, by simp, by simp, by simp, by simp⟩
end
section
open Go.ChangeShapes Go.WideShapes Go.ChangeAt Go.RowKit Go.Joins Go.Deep

theorem Tryz.own : ownKnob Tryz.prog.godebug = none := by kernel_rfl
theorem Tryz.laidOut : laidOutB Tryz.prog = true := by kernel_rfl
end
section
open Go.ChangeShapes Go.WideShapes Go.ChangeAt Go.RowKit Go.Joins Go.Deep

theorem addr_none {W : World} {b off : Nat} {spot : Option _} {v : Value} (h : W.cell? ((⟨b, off, spot⟩ : Addr).add 0) = some v) : spot = none := by
 simpa [Addr.add] using World.cell?_spot h
theorem add_none (b off i : Nat) : (⟨b, off, none⟩ : Addr).add i = ⟨b, off + i, none⟩ := by
 by_cases h : i = 0 <;> simp [Addr.add, h]
end
section
open Go.ChangeShapes Go.WideShapes Go.RowKit Go.Stop

theorem Tryz.gn0 : Tryz.prog.globalNamed "loop.example/g00145/impl.errMany" = some 0 := by kernel_rfl
theorem Tryz.gt0 : (Tryz.prog.globals[0]?).map (·.type) = some 106 := by kernel_rfl
theorem Tryz.gn1 : Tryz.prog.globalNamed "loop.example/g00145/impl.errName" = some 2 := by kernel_rfl
theorem Tryz.gt1 : (Tryz.prog.globals[2]?).map (·.type) = some 106 := by kernel_rfl
theorem Tryz.gn2 : Tryz.prog.globalNamed "loop.example/g00145/impl.errTwice" = some 3 := by kernel_rfl
theorem Tryz.gt2 : (Tryz.prog.globals[3]?).map (·.type) = some 106 := by kernel_rfl
theorem Tryz.gn3 : Tryz.prog.globalNamed "loop.example/g00145/impl.errStage" = some 4 := by kernel_rfl
theorem Tryz.gt3 : (Tryz.prog.globals[4]?).map (·.type) = some 106 := by kernel_rfl
theorem Tryz.gn4 : Tryz.prog.globalNamed "loop.example/g00145/impl.errCap" = some 5 := by kernel_rfl
theorem Tryz.gt4 : (Tryz.prog.globals[5]?).map (·.type) = some 106 := by kernel_rfl
theorem Tryz.gn5 : Tryz.prog.globalNamed "loop.example/g00145/impl.errEdge" = some 6 := by kernel_rfl
theorem Tryz.gt5 : (Tryz.prog.globals[6]?).map (·.type) = some 106 := by kernel_rfl
theorem Tryz.gn6 : Tryz.prog.globalNamed "loop.example/g00145/impl.errCycle" = some 1 := by kernel_rfl
theorem Tryz.gt6 : (Tryz.prog.globals[1]?).map (·.type) = some 106 := by kernel_rfl
theorem Tryz.cellsE : Tryz.prog.cellsOf 215 = 1 := by kernel_rfl
theorem Tryz.cellsS : Tryz.prog.cellsOf 9 = 1 := by kernel_rfl
theorem Tryz.star : "*" ++ "errors.errorString" = "*errors.errorString" := by decide
theorem Tryz.rowE (u : TypeId) (h : Tryz.prog.typeName? 3 u = some "*errors.errorString") : u = 199 :=
 typeName_ptr_named (nm := "errors.errorString") (by rw [Tryz.star]; kernel_rfl) (by kernel_rfl) (by decide) u (by rw [Tryz.star]; exact h)
/-- The variables that are listed. -/
abbrev laidL : List (String × DataW Unit) := [("loop.example/g00145/impl.errMany", Rows.laid_loop_example_g00145_impl_errMany), ("loop.example/g00145/impl.errName", Rows.laid_loop_example_g00145_impl_errName), ("loop.example/g00145/impl.errTwice", Rows.laid_loop_example_g00145_impl_errTwice), ("loop.example/g00145/impl.errStage", Rows.laid_loop_example_g00145_impl_errStage), ("loop.example/g00145/impl.errCap", Rows.laid_loop_example_g00145_impl_errCap), ("loop.example/g00145/impl.errEdge", Rows.laid_loop_example_g00145_impl_errEdge), ("loop.example/g00145/impl.errCycle", Rows.laid_loop_example_g00145_impl_errCycle)]
theorem errs_of_laid {W : World} (h : laidMetH Tryz.prog laidL W) : ∃ ea : Nat → Addr, Errs W ea ∧ ∀ i j, i < 7 → j < 7 → i ≠ j → ea i ≠ ea j := by
  have h0 : laidMet Tryz.prog laidL W := h
  obtain ⟨a0, s0, v0, c0, t0, _⟩ := laid_sentinel h0 Tryz.gn0 Tryz.gt0 Tryz.underlying106 Tryz.rowE Tryz.underlying199 Tryz.underlying215 rfl rfl Tryz.underlying9 Tryz.cellsE Tryz.cellsS
  have d0 : W.cell? ⟨0, 0, none⟩ = some (errV a0) := by simpa using World.var?_cell Tryz.gn0 v0 0
  have h1 := h0.tail
  obtain ⟨a1, s1, v1, c1, t1, _⟩ := laid_sentinel h1 Tryz.gn1 Tryz.gt1 Tryz.underlying106 Tryz.rowE Tryz.underlying199 Tryz.underlying215 rfl rfl Tryz.underlying9 Tryz.cellsE Tryz.cellsS
  have d1 : W.cell? ⟨2, 0, none⟩ = some (errV a1) := by simpa using World.var?_cell Tryz.gn1 v1 0
  have h2 := h1.tail
  obtain ⟨a2, s2, v2, c2, t2, _⟩ := laid_sentinel h2 Tryz.gn2 Tryz.gt2 Tryz.underlying106 Tryz.rowE Tryz.underlying199 Tryz.underlying215 rfl rfl Tryz.underlying9 Tryz.cellsE Tryz.cellsS
  have d2 : W.cell? ⟨3, 0, none⟩ = some (errV a2) := by simpa using World.var?_cell Tryz.gn2 v2 0
  have h3 := h2.tail
  obtain ⟨a3, s3, v3, c3, t3, _⟩ := laid_sentinel h3 Tryz.gn3 Tryz.gt3 Tryz.underlying106 Tryz.rowE Tryz.underlying199 Tryz.underlying215 rfl rfl Tryz.underlying9 Tryz.cellsE Tryz.cellsS
  have d3 : W.cell? ⟨4, 0, none⟩ = some (errV a3) := by simpa using World.var?_cell Tryz.gn3 v3 0
  have h4 := h3.tail
  obtain ⟨a4, s4, v4, c4, t4, _⟩ := laid_sentinel h4 Tryz.gn4 Tryz.gt4 Tryz.underlying106 Tryz.rowE Tryz.underlying199 Tryz.underlying215 rfl rfl Tryz.underlying9 Tryz.cellsE Tryz.cellsS
  have d4 : W.cell? ⟨5, 0, none⟩ = some (errV a4) := by simpa using World.var?_cell Tryz.gn4 v4 0
  have h5 := h4.tail
  obtain ⟨a5, s5, v5, c5, t5, _⟩ := laid_sentinel h5 Tryz.gn5 Tryz.gt5 Tryz.underlying106 Tryz.rowE Tryz.underlying199 Tryz.underlying215 rfl rfl Tryz.underlying9 Tryz.cellsE Tryz.cellsS
  have d5 : W.cell? ⟨6, 0, none⟩ = some (errV a5) := by simpa using World.var?_cell Tryz.gn5 v5 0
  have h6 := h5.tail
  obtain ⟨a6, s6, v6, c6, t6, _⟩ := laid_sentinel h6 Tryz.gn6 Tryz.gt6 Tryz.underlying106 Tryz.rowE Tryz.underlying199 Tryz.underlying215 rfl rfl Tryz.underlying9 Tryz.cellsE Tryz.cellsS
  have d6 : W.cell? ⟨1, 0, none⟩ = some (errV a6) := by simpa using World.var?_cell Tryz.gn6 v6 0
  have hne : ∀ (a b : Addr) (s t : ByteArray) (x y : List UInt8), W.cell? a = some (.string s) → W.cell? b = some (.string t) → s.data.toList = x → t.data.toList = y → x ≠ y → a ≠ b := fun a b s t x y h1 h2 h3 h4 h5 e => by
    subst e
    rw [h1] at h2
    simp at h2
    subst h2
    exact h5 (h3.symm.trans h4)
  refine ⟨fun i => match i with | 0 => a0 | 1 => a1 | 2 => a2 | 3 => a3 | 4 => a4 | 5 => a5 | _ => a6, ⟨fun i hi => ?_, ?_⟩, fun i j hi hj hij => ?_⟩
  · rcases (show i = 0 ∨ i = 1 ∨ i = 2 ∨ i = 3 ∨ i = 4 ∨ i = 5 ∨ i = 6 from by omega) with rfl | rfl | rfl | rfl | rfl | rfl | rfl
    · exact d0
    · exact d1
    · exact d2
    · exact d3
    · exact d4
    · exact d5
    · exact d6
  · have z0 : 0 < W.heap.size := World.block_lt_of_cell? _ _ d0
    have z1 : 2 < W.heap.size := World.block_lt_of_cell? _ _ d1
    have z2 : 3 < W.heap.size := World.block_lt_of_cell? _ _ d2
    have z3 : 4 < W.heap.size := World.block_lt_of_cell? _ _ d3
    have z4 : 5 < W.heap.size := World.block_lt_of_cell? _ _ d4
    have z5 : 6 < W.heap.size := World.block_lt_of_cell? _ _ d5
    have z6 : 1 < W.heap.size := World.block_lt_of_cell? _ _ d6
    omega
  · rcases (show i = 0 ∨ i = 1 ∨ i = 2 ∨ i = 3 ∨ i = 4 ∨ i = 5 ∨ i = 6 from by omega) with rfl | rfl | rfl | rfl | rfl | rfl | rfl <;> rcases (show j = 0 ∨ j = 1 ∨ j = 2 ∨ j = 3 ∨ j = 4 ∨ j = 5 ∨ j = 6 from by omega) with rfl | rfl | rfl | rfl | rfl | rfl | rfl
    · exact absurd rfl hij
    · exact hne _ _ _ _ _ _ c0 c1 t0 t1 (by decide)
    · exact hne _ _ _ _ _ _ c0 c2 t0 t2 (by decide)
    · exact hne _ _ _ _ _ _ c0 c3 t0 t3 (by decide)
    · exact hne _ _ _ _ _ _ c0 c4 t0 t4 (by decide)
    · exact hne _ _ _ _ _ _ c0 c5 t0 t5 (by decide)
    · exact hne _ _ _ _ _ _ c0 c6 t0 t6 (by decide)
    · exact hne _ _ _ _ _ _ c1 c0 t1 t0 (by decide)
    · exact absurd rfl hij
    · exact hne _ _ _ _ _ _ c1 c2 t1 t2 (by decide)
    · exact hne _ _ _ _ _ _ c1 c3 t1 t3 (by decide)
    · exact hne _ _ _ _ _ _ c1 c4 t1 t4 (by decide)
    · exact hne _ _ _ _ _ _ c1 c5 t1 t5 (by decide)
    · exact hne _ _ _ _ _ _ c1 c6 t1 t6 (by decide)
    · exact hne _ _ _ _ _ _ c2 c0 t2 t0 (by decide)
    · exact hne _ _ _ _ _ _ c2 c1 t2 t1 (by decide)
    · exact absurd rfl hij
    · exact hne _ _ _ _ _ _ c2 c3 t2 t3 (by decide)
    · exact hne _ _ _ _ _ _ c2 c4 t2 t4 (by decide)
    · exact hne _ _ _ _ _ _ c2 c5 t2 t5 (by decide)
    · exact hne _ _ _ _ _ _ c2 c6 t2 t6 (by decide)
    · exact hne _ _ _ _ _ _ c3 c0 t3 t0 (by decide)
    · exact hne _ _ _ _ _ _ c3 c1 t3 t1 (by decide)
    · exact hne _ _ _ _ _ _ c3 c2 t3 t2 (by decide)
    · exact absurd rfl hij
    · exact hne _ _ _ _ _ _ c3 c4 t3 t4 (by decide)
    · exact hne _ _ _ _ _ _ c3 c5 t3 t5 (by decide)
    · exact hne _ _ _ _ _ _ c3 c6 t3 t6 (by decide)
    · exact hne _ _ _ _ _ _ c4 c0 t4 t0 (by decide)
    · exact hne _ _ _ _ _ _ c4 c1 t4 t1 (by decide)
    · exact hne _ _ _ _ _ _ c4 c2 t4 t2 (by decide)
    · exact hne _ _ _ _ _ _ c4 c3 t4 t3 (by decide)
    · exact absurd rfl hij
    · exact hne _ _ _ _ _ _ c4 c5 t4 t5 (by decide)
    · exact hne _ _ _ _ _ _ c4 c6 t4 t6 (by decide)
    · exact hne _ _ _ _ _ _ c5 c0 t5 t0 (by decide)
    · exact hne _ _ _ _ _ _ c5 c1 t5 t1 (by decide)
    · exact hne _ _ _ _ _ _ c5 c2 t5 t2 (by decide)
    · exact hne _ _ _ _ _ _ c5 c3 t5 t3 (by decide)
    · exact hne _ _ _ _ _ _ c5 c4 t5 t4 (by decide)
    · exact absurd rfl hij
    · exact hne _ _ _ _ _ _ c5 c6 t5 t6 (by decide)
    · exact hne _ _ _ _ _ _ c6 c0 t6 t0 (by decide)
    · exact hne _ _ _ _ _ _ c6 c1 t6 t1 (by decide)
    · exact hne _ _ _ _ _ _ c6 c2 t6 t2 (by decide)
    · exact hne _ _ _ _ _ _ c6 c3 t6 t3 (by decide)
    · exact hne _ _ _ _ _ _ c6 c4 t6 t4 (by decide)
    · exact hne _ _ _ _ _ _ c6 c5 t6 t5 (by decide)
    · exact absurd rfl hij
noncomputable def low : Nat := (World.holding Tryz.prog default ⟨#[], #[], []⟩).heap.size
/-- A world that has them. -/
noncomputable def laidWorld (os : Os) : World :=
 let w0 := World.holding Tryz.prog os ⟨#[.cells #[.string ⟨#[110, 111, 32, 110, 111, 100, 101, 115, 44, 32, 111, 114, 32, 116, 111, 111, 32, 109, 97, 110, 121]⟩] 215, .cells #[.string ⟨#[116, 104, 101, 32, 110, 97, 109, 101, 32, 105, 115, 32, 110, 111, 110, 101]⟩] 215, .cells #[.string ⟨#[97, 110, 111, 116, 104, 101, 114, 32, 111, 110, 101, 32, 104, 97, 115, 32, 116, 104, 101, 32, 110, 97, 109, 101]⟩] 215, .cells #[.string ⟨#[116, 104, 101, 32, 115, 116, 97, 103, 101, 32, 105, 115, 32, 110, 111, 116, 32, 103, 111, 111, 100]⟩] 215, .cells #[.string ⟨#[116, 104, 101, 32, 99, 97, 112, 32, 105, 115, 32, 116, 111, 111, 32, 115, 109, 97, 108, 108, 32, 111, 114, 32, 116, 111, 111, 32, 103, 114, 101, 97, 116]⟩] 215, .cells #[.string ⟨#[97, 32, 110, 101, 120, 116, 32, 105, 115, 32, 110, 111, 32, 110, 111, 100, 101, 44, 32, 111, 114, 32, 116, 119, 105, 99, 101, 32, 116, 104, 101, 114, 101]⟩] 215, .cells #[.string ⟨#[97, 32, 110, 111, 100, 101, 32, 105, 115, 32, 114, 101, 97, 99, 104, 101, 100, 32, 102, 114, 111, 109, 32, 105, 116, 115, 101, 108, 102]⟩] 215], #[], []⟩
 { w0 with heap := (((((((w0.heap.modify 0 fun | .cells _ t frozen => .cells #[.iface 199 (.pointer (some ⟨low + 0, 0, none⟩))] t frozen | o => o).modify 2 fun | .cells _ t frozen => .cells #[.iface 199 (.pointer (some ⟨low + 1, 0, none⟩))] t frozen | o => o).modify 3 fun | .cells _ t frozen => .cells #[.iface 199 (.pointer (some ⟨low + 2, 0, none⟩))] t frozen | o => o).modify 4 fun | .cells _ t frozen => .cells #[.iface 199 (.pointer (some ⟨low + 3, 0, none⟩))] t frozen | o => o).modify 5 fun | .cells _ t frozen => .cells #[.iface 199 (.pointer (some ⟨low + 4, 0, none⟩))] t frozen | o => o).modify 6 fun | .cells _ t frozen => .cells #[.iface 199 (.pointer (some ⟨low + 5, 0, none⟩))] t frozen | o => o).modify 1 fun | .cells _ t frozen => .cells #[.iface 199 (.pointer (some ⟨low + 6, 0, none⟩))] t frozen | o => o) }
theorem laidWorld_met (os : Os) (args : Array Value) : laidMetH Tryz.prog laidL ((laidWorld os).forCall (fun _ _ => 0) ⟨#[], args, []⟩).memory :=
 laidMet_of_run (ps := [.cell 0 0, .cell low 0, .cell 2 0, .cell (low + 1) 0, .cell 3 0, .cell (low + 2) 0, .cell 4 0, .cell (low + 3) 0, .cell 5 0, .cell (low + 4) 0, .cell 6 0, .cell (low + 5) 0, .cell 1 0, .cell (low + 6) 0]) 8 (by kernel_rfl) (by kernel_rfl) (by kernel_rfl)
end
end Go.Proofs.YtllmpinmbajpgaaGreatDoor
