/-
  DERIVED. GIVEN WITH THE SEED: THE PROGRAM's TIES (one call each: nine closed facts by the kernel) AND EACH ROW's TIE, after the 31st guide's Derived/Test/Toyas{Tie, Card}.lean. No idea stands in it: it is a product of the set-up. Laid BY PROGRAM, IN A SANDBOX (cutbox-door.mjs). By AI agents, Wed Nov 11 2026. No macro, syntax, notation, axiom, sorry.
-/
import Derived.Test.YtllmpinmbajpgaaGreatDoorRows
import Derived.LaidByTextLater
import Derived.SevenTiedAt
import Derived.LaidSub
import Derived.LaidOnce
namespace Go.Proofs.YtllmpinmbajpgaaGreatDoor
open Go
set_option maxRecDepth 100000
theorem seatTie1 : Tryz.prog.laidByTextLater [("loop.example/g00145/impl.errMany", Rows.laid_loop_example_g00145_impl_errMany), ("loop.example/g00145/impl.errName", Rows.laid_loop_example_g00145_impl_errName), ("loop.example/g00145/impl.errTwice", Rows.laid_loop_example_g00145_impl_errTwice), ("loop.example/g00145/impl.errStage", Rows.laid_loop_example_g00145_impl_errStage), ("loop.example/g00145/impl.errCap", Rows.laid_loop_example_g00145_impl_errCap), ("loop.example/g00145/impl.errEdge", Rows.laid_loop_example_g00145_impl_errEdge), ("loop.example/g00145/impl.errCycle", Rows.laid_loop_example_g00145_impl_errCycle)] [.sentinel, .sentinel, .sentinel, .sentinel, .sentinel, .sentinel, .sentinel] true :=
  Program.laidByTextLater_by_one 142 8 2 (by kernel_rfl) (by kernel_rfl) (by kernel_rfl) (by kernel_rfl) (by kernel_rfl) (by kernel_rfl) (fun _ _ => by kernel_rfl)
theorem noOwnUnsafe : Tryz.pinned.checked.prog.headLifts.contains "ownunsafe" = false := by kernel_rfl
theorem tie : Tryz.prog.laidByTextLater [("loop.example/g00145/impl.errMany", Rows.laid_loop_example_g00145_impl_errMany), ("loop.example/g00145/impl.errName", Rows.laid_loop_example_g00145_impl_errName), ("loop.example/g00145/impl.errTwice", Rows.laid_loop_example_g00145_impl_errTwice), ("loop.example/g00145/impl.errStage", Rows.laid_loop_example_g00145_impl_errStage), ("loop.example/g00145/impl.errCap", Rows.laid_loop_example_g00145_impl_errCap), ("loop.example/g00145/impl.errEdge", Rows.laid_loop_example_g00145_impl_errEdge), ("loop.example/g00145/impl.errCycle", Rows.laid_loop_example_g00145_impl_errCycle)] [.sentinel, .sentinel, .sentinel, .sentinel, .sentinel, .sentinel, .sentinel] true :=
  Program.laidByTextLater.sub seatTie1 ["loop.example/g00145/impl.errMany", "loop.example/g00145/impl.errName", "loop.example/g00145/impl.errTwice", "loop.example/g00145/impl.errStage", "loop.example/g00145/impl.errCap", "loop.example/g00145/impl.errEdge", "loop.example/g00145/impl.errCycle"] (by kernel_rfl) (by kernel_rfl)
theorem fnAccounted_row_tie : Rows.fnAccountedRow.laidByTextAt .later Tryz.pinned [.sentinel, .sentinel, .sentinel, .sentinel, .sentinel, .sentinel, .sentinel] true :=
  OpenClaim.laidByTextAt_later rfl rfl tie noOwnUnsafe
theorem fnRunOut_row_tie : Rows.fnRunOutRow.laidByTextAt .later Tryz.pinned [.sentinel, .sentinel, .sentinel, .sentinel, .sentinel, .sentinel, .sentinel] true :=
  OpenClaim.laidByTextAt_later rfl rfl tie noOwnUnsafe
theorem fnAccountedUpto_row_tie : Rows.fnAccountedUptoRow.laidByTextAt .later Tryz.pinned [.sentinel, .sentinel, .sentinel, .sentinel, .sentinel, .sentinel, .sentinel] true :=
  OpenClaim.laidByTextAt_later rfl rfl tie noOwnUnsafe
theorem fnRunOutUpto_row_tie : Rows.fnRunOutUptoRow.laidByTextAt .later Tryz.pinned [.sentinel, .sentinel, .sentinel, .sentinel, .sentinel, .sentinel, .sentinel] true :=
  OpenClaim.laidByTextAt_later rfl rfl tie noOwnUnsafe
end Go.Proofs.YtllmpinmbajpgaaGreatDoor
