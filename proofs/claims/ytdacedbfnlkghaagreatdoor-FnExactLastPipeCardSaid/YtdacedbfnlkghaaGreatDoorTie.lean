/-
  DERIVED. GIVEN WITH THE SEED: THE PROGRAM's TIES (one call each: nine closed facts by the kernel) AND EACH ROW's TIE, after the 31st guide's Derived/Test/Toyas{Tie, Card}.lean. No idea stands in it: it is a product of the set-up. Laid BY PROGRAM, IN A SANDBOX (cutbox-door.mjs). By AI agents, Wed Nov 11 2026. No macro, syntax, notation, axiom, sorry.
-/
import Derived.Test.YtdacedbfnlkghaaGreatDoorRows
import Derived.LaidByTextLater
import Derived.SevenTiedAt
import Derived.LaidSub
import Derived.LaidOnce
namespace Go.Proofs.YtdacedbfnlkghaaGreatDoor
open Go
set_option maxRecDepth 100000
theorem seatTie1 : Tryz.prog.laidByTextLater [("math/bits.deBruijn32tab", Rows.laid_math_bits_deBruijn32tab), ("math/bits.deBruijn64tab", Rows.laid_math_bits_deBruijn64tab), ("internal/strconv.uint64pow10", Rows.laid_internal_strconv_uint64pow10), ("strconv.ErrRange", Rows.laid_strconv_ErrRange), ("strconv.ErrSyntax", Rows.laid_strconv_ErrSyntax), ("loop.example/g00145/impl.errMany", Rows.laid_loop_example_g00145_impl_errMany), ("loop.example/g00145/impl.errName", Rows.laid_loop_example_g00145_impl_errName), ("loop.example/g00145/impl.errTwice", Rows.laid_loop_example_g00145_impl_errTwice), ("loop.example/g00145/impl.errStage", Rows.laid_loop_example_g00145_impl_errStage), ("loop.example/g00145/impl.errCap", Rows.laid_loop_example_g00145_impl_errCap), ("loop.example/g00145/impl.errEdge", Rows.laid_loop_example_g00145_impl_errEdge), ("loop.example/g00145/impl.errCycle", Rows.laid_loop_example_g00145_impl_errCycle), ("loop.example/g00145/impl.commands", Rows.laid_loop_example_g00145_impl_commands), ("loop.example/g00145/impl.stageWords", Rows.laid_loop_example_g00145_impl_stageWords)] [.data, .data, .data, .sentinel, .sentinel, .sentinel, .sentinel, .sentinel, .sentinel, .sentinel, .sentinel, .sentinel, .data, .data] true :=
  Program.laidByTextLater_by_one 216 8 65 (by kernel_rfl) (by kernel_rfl) (by kernel_rfl) (by kernel_rfl) (by kernel_rfl) (by kernel_rfl) (fun _ _ => by kernel_rfl)
theorem noOwnUnsafe : Tryz.pinned.checked.prog.headLifts.contains "ownunsafe" = false := by kernel_rfl
theorem tie : Tryz.prog.laidByTextLater [("math/bits.deBruijn32tab", Rows.laid_math_bits_deBruijn32tab), ("math/bits.deBruijn64tab", Rows.laid_math_bits_deBruijn64tab), ("internal/strconv.uint64pow10", Rows.laid_internal_strconv_uint64pow10), ("strconv.ErrRange", Rows.laid_strconv_ErrRange), ("strconv.ErrSyntax", Rows.laid_strconv_ErrSyntax), ("loop.example/g00145/impl.errMany", Rows.laid_loop_example_g00145_impl_errMany), ("loop.example/g00145/impl.errName", Rows.laid_loop_example_g00145_impl_errName), ("loop.example/g00145/impl.errTwice", Rows.laid_loop_example_g00145_impl_errTwice), ("loop.example/g00145/impl.errStage", Rows.laid_loop_example_g00145_impl_errStage), ("loop.example/g00145/impl.errCap", Rows.laid_loop_example_g00145_impl_errCap), ("loop.example/g00145/impl.errEdge", Rows.laid_loop_example_g00145_impl_errEdge), ("loop.example/g00145/impl.errCycle", Rows.laid_loop_example_g00145_impl_errCycle), ("loop.example/g00145/impl.commands", Rows.laid_loop_example_g00145_impl_commands), ("loop.example/g00145/impl.stageWords", Rows.laid_loop_example_g00145_impl_stageWords)] [.data, .data, .data, .sentinel, .sentinel, .sentinel, .sentinel, .sentinel, .sentinel, .sentinel, .sentinel, .sentinel, .data, .data] true :=
  Program.laidByTextLater.sub seatTie1 ["math/bits.deBruijn32tab", "math/bits.deBruijn64tab", "internal/strconv.uint64pow10", "strconv.ErrRange", "strconv.ErrSyntax", "loop.example/g00145/impl.errMany", "loop.example/g00145/impl.errName", "loop.example/g00145/impl.errTwice", "loop.example/g00145/impl.errStage", "loop.example/g00145/impl.errCap", "loop.example/g00145/impl.errEdge", "loop.example/g00145/impl.errCycle", "loop.example/g00145/impl.commands", "loop.example/g00145/impl.stageWords"] (by kernel_rfl) (by kernel_rfl)
theorem fnTexts_row_tie : Rows.fnTextsRow.laidByTextAt .later Tryz.pinned [.data, .data, .data, .sentinel, .sentinel, .sentinel, .sentinel, .sentinel, .sentinel, .sentinel, .sentinel, .sentinel, .data, .data] true :=
  OpenClaim.laidByTextAt_later rfl rfl tie noOwnUnsafe
theorem fnExactRunPipe_row_tie : Rows.fnExactRunPipeRow.laidByTextAt .later Tryz.pinned [.data, .data, .data, .sentinel, .sentinel, .sentinel, .sentinel, .sentinel, .sentinel, .sentinel, .sentinel, .sentinel, .data, .data] true :=
  OpenClaim.laidByTextAt_later rfl rfl tie noOwnUnsafe
theorem fnExactGraphOfText_row_tie : Rows.fnExactGraphOfTextRow.laidByTextAt .later Tryz.pinned [.data, .data, .data, .sentinel, .sentinel, .sentinel, .sentinel, .sentinel, .sentinel, .sentinel, .sentinel, .sentinel, .data, .data] true :=
  OpenClaim.laidByTextAt_later rfl rfl tie noOwnUnsafe
theorem fnExactLastPipe_row_tie : Rows.fnExactLastPipeRow.laidByTextAt .later Tryz.pinned [.data, .data, .data, .sentinel, .sentinel, .sentinel, .sentinel, .sentinel, .sentinel, .sentinel, .sentinel, .sentinel, .data, .data] true :=
  OpenClaim.laidByTextAt_later rfl rfl tie noOwnUnsafe
theorem fnTextsUpto_row_tie : Rows.fnTextsUptoRow.laidByTextAt .later Tryz.pinned [.data, .data, .data, .sentinel, .sentinel, .sentinel, .sentinel, .sentinel, .sentinel, .sentinel, .sentinel, .sentinel, .data, .data] true :=
  OpenClaim.laidByTextAt_later rfl rfl tie noOwnUnsafe
theorem fnExactRunPipeUpto_row_tie : Rows.fnExactRunPipeUptoRow.laidByTextAt .later Tryz.pinned [.data, .data, .data, .sentinel, .sentinel, .sentinel, .sentinel, .sentinel, .sentinel, .sentinel, .sentinel, .sentinel, .data, .data] true :=
  OpenClaim.laidByTextAt_later rfl rfl tie noOwnUnsafe
theorem fnExactGraphOfTextUpto_row_tie : Rows.fnExactGraphOfTextUptoRow.laidByTextAt .later Tryz.pinned [.data, .data, .data, .sentinel, .sentinel, .sentinel, .sentinel, .sentinel, .sentinel, .sentinel, .sentinel, .sentinel, .data, .data] true :=
  OpenClaim.laidByTextAt_later rfl rfl tie noOwnUnsafe
theorem fnExactLastPipeUpto_row_tie : Rows.fnExactLastPipeUptoRow.laidByTextAt .later Tryz.pinned [.data, .data, .data, .sentinel, .sentinel, .sentinel, .sentinel, .sentinel, .sentinel, .sentinel, .sentinel, .sentinel, .data, .data] true :=
  OpenClaim.laidByTextAt_later rfl rfl tie noOwnUnsafe
end Go.Proofs.YtdacedbfnlkghaaGreatDoor
