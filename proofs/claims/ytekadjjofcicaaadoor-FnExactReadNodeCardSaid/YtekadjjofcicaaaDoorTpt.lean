
/- The tables and errors as the row of ReadNode lists them; and a world that has them. No conditions but those written. -/
import Derived.Test.YtekadjjofcicaaaDoorTnt
import Derived.Test.YtekadjjofcicaaaDoorTpj
namespace Go.Proofs.YtekadjjofcicaaaDoor
open Go.ChangeShapes Go.WideShapes Go.RowKit Go.Stop

theorem Tryd.gnR : Tryd.prog.globalNamed "strconv.ErrRange" = some 4 := by kernel_rfl
theorem Tryd.gtR : (Tryd.prog.globals[4]?).map (·.type) = some 74 := by kernel_rfl
theorem Tryd.gnX : Tryd.prog.globalNamed "strconv.ErrSyntax" = some 3 := by kernel_rfl
theorem Tryd.gtX : (Tryd.prog.globals[3]?).map (·.type) = some 74 := by kernel_rfl
theorem Tryd.cellsE2 : Tryd.prog.cellsOf 121 = 1 := by kernel_rfl
theorem Tryd.star2 : "*" ++ "errors.errorString" = "*errors.errorString" := by decide
theorem Tryd.rowE2 (u : TypeId) (h : Tryd.prog.typeName? 3 u = some "*errors.errorString") : u = 119 :=
  typeName_ptr_named (nm := "errors.errorString") (by rw [Tryd.star2]; kernel_rfl) (by kernel_rfl) (by decide) u (by rw [Tryd.star2]; exact h)
/-- The variables that are listed. -/
abbrev laidL2 : List (String × DataW Unit) := [("math/bits.deBruijn32tab", Rows.laid_math_bits_deBruijn32tab), ("math/bits.deBruijn64tab", Rows.laid_math_bits_deBruijn64tab), ("internal/strconv.uint64pow10", Rows.laid_internal_strconv_uint64pow10), ("strconv.ErrRange", Rows.laid_strconv_ErrRange), ("strconv.ErrSyntax", Rows.laid_strconv_ErrSyntax), ("loop.example/g00145/impl.stageWords", Rows.laid_loop_example_g00145_impl_stageWords)]
set_option maxRecDepth 100000 in
theorem pow_of_laid2 {W : World} (h : laidMetH Tryd.prog laidL2 W) : PowTab W := by
  have h0 : laidMet Tryd.prog laidL2 W := h
  have h2 := h0.tail.tail
  exact Lib.tabIs_of_head (rest := _) (g := 1) (t := 106) (e := 90) (n := 20) (by kernel_rfl) (by kernel_rfl) (by kernel_rfl) (by kernel_rfl) (by kernel_rfl) (by kernel_rfl) h2
theorem words_of_laid2 {W : World} (h : laidMetH Tryd.prog laidL2 W) : Wds W := by
  have h0 : laidMet Tryd.prog laidL2 W := h
  exact words_of_head h0.tail.tail.tail.tail.tail
theorem nerr_of_laid2 {W : World} (h : laidMetH Tryd.prog laidL2 W) : NErr W := by
  have h0 : laidMet Tryd.prog laidL2 W := h
  have h3 := h0.tail.tail.tail
  obtain ⟨a0, s0, v0, c0, t0, _⟩ := laid_sentinel h3 Tryd.gnR Tryd.gtR Tryd.underlying74 Tryd.rowE2 Tryd.underlying119 Tryd.underlying121 rfl rfl Tryd.underlying9 Tryd.cellsE2 Tryd.cellT
  have h4 := h3.tail
  obtain ⟨a1, s1, v1, c1, t1, _⟩ := laid_sentinel h4 Tryd.gnX Tryd.gtX Tryd.underlying74 Tryd.rowE2 Tryd.underlying119 Tryd.underlying121 rfl rfl Tryd.underlying9 Tryd.cellsE2 Tryd.cellT
  exact ⟨⟨_, _, by simpa using World.var?_cell Tryd.gnX v1 0⟩, ⟨_, _, by simpa using World.var?_cell Tryd.gnR v0 0⟩⟩
noncomputable def low2 : Nat := (World.holding Tryd.prog default ⟨#[], #[], []⟩).heap.size
/-- A world that has them. -/
noncomputable def laidWorld2 (os : Os) : World :=
  let w0 := World.holding Tryd.prog os ⟨#[.cells #[.string ⟨#[118, 97, 108, 117, 101, 32, 111, 117, 116, 32, 111, 102, 32, 114, 97, 110, 103, 101]⟩] 121, .cells #[.string ⟨#[105, 110, 118, 97, 108, 105, 100, 32, 115, 121, 110, 116, 97, 120]⟩] 121], #[], []⟩
  { w0 with heap := ((((((w0.heap.modify 5 fun | .cells _ t frozen => .cells #[.int .u8 0, .int .u8 1, .int .u8 28, .int .u8 2, .int .u8 29, .int .u8 14, .int .u8 24, .int .u8 3, .int .u8 30, .int .u8 22, .int .u8 20, .int .u8 15, .int .u8 25, .int .u8 17, .int .u8 4, .int .u8 8, .int .u8 31, .int .u8 27, .int .u8 13, .int .u8 23, .int .u8 21, .int .u8 19, .int .u8 16, .int .u8 7, .int .u8 26, .int .u8 12, .int .u8 18, .int .u8 6, .int .u8 11, .int .u8 5, .int .u8 10, .int .u8 9] t frozen | o => o).modify 6 fun | .cells _ t frozen => .cells #[.int .u8 0, .int .u8 1, .int .u8 56, .int .u8 2, .int .u8 57, .int .u8 49, .int .u8 28, .int .u8 3, .int .u8 61, .int .u8 58, .int .u8 42, .int .u8 50, .int .u8 38, .int .u8 29, .int .u8 17, .int .u8 4, .int .u8 62, .int .u8 47, .int .u8 59, .int .u8 36, .int .u8 45, .int .u8 43, .int .u8 51, .int .u8 22, .int .u8 53, .int .u8 39, .int .u8 33, .int .u8 30, .int .u8 24, .int .u8 18, .int .u8 12, .int .u8 5, .int .u8 63, .int .u8 55, .int .u8 48, .int .u8 27, .int .u8 60, .int .u8 41, .int .u8 37, .int .u8 16, .int .u8 46, .int .u8 35, .int .u8 44, .int .u8 21, .int .u8 52, .int .u8 32, .int .u8 23, .int .u8 11, .int .u8 54, .int .u8 26, .int .u8 40, .int .u8 15, .int .u8 34, .int .u8 20, .int .u8 31, .int .u8 10, .int .u8 25, .int .u8 14, .int .u8 19, .int .u8 9, .int .u8 13, .int .u8 8, .int .u8 7, .int .u8 6] t frozen | o => o).modify 1 fun | .cells _ t frozen => .cells #[.int .u64 1, .int .u64 10, .int .u64 100, .int .u64 1000, .int .u64 10000, .int .u64 100000, .int .u64 1000000, .int .u64 10000000, .int .u64 100000000, .int .u64 1000000000, .int .u64 10000000000, .int .u64 100000000000, .int .u64 1000000000000, .int .u64 10000000000000, .int .u64 100000000000000, .int .u64 1000000000000000, .int .u64 10000000000000000, .int .u64 100000000000000000, .int .u64 1000000000000000000, .int .u64 10000000000000000000] t frozen | o => o).modify 0 fun | .cells _ t frozen => .cells #[.string ⟨#[]⟩, .string ⟨#[109, 97, 112]⟩, .string ⟨#[102, 105, 108, 116, 101, 114]⟩, .string ⟨#[101, 120, 112, 97, 110, 100]⟩, .string ⟨#[112, 111, 105, 115, 111, 110]⟩] t frozen | o => o).modify 4 fun | .cells _ t frozen => .cells #[.iface 119 (.pointer (some ⟨low2 + 0, 0, none⟩))] t frozen | o => o).modify 3 fun | .cells _ t frozen => .cells #[.iface 119 (.pointer (some ⟨low2 + 1, 0, none⟩))] t frozen | o => o) }
set_option maxRecDepth 100000 in
theorem laidWorld2_met (os : Os) (args : Array Value) : laidMetH Tryd.prog laidL2 ((laidWorld2 os).forCall (fun _ _ => 0) ⟨#[], args, []⟩).memory :=
  laidMet_of_run' 8 (by kernel_rfl) (by kernel_rfl)
end Go.Proofs.YtekadjjofcicaaaDoor
