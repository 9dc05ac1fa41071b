/-
  DERIVED. GIVEN WITH THE SEED: THE CARDS: each row of YtllmpinmbajpgaaGreatDoorRows.lean that lists a variable, with what it lists TIED to the program's text (the seventh form; the later family's looks); each row that meets fmt, with fmt's text TOLD by the authors' own Lean function (tested against real Go, not proved from fmt's source: count such statements apart). THE CARD IS WHAT COUNTS. Prove the row's statement (the work); the ties are given (YtllmpinmbajpgaaGreatDoorTie.lean); close each card by the builder's one call (the guide's Derived/Test/ToyasCard.lean, 'card_holds'). Laid BY PROGRAM, IN A SANDBOX (cutbox-door.mjs). By AI agents, Wed Nov 11 2026. No macro, syntax, notation, axiom, sorry.
-/
import Derived.Test.YtllmpinmbajpgaaGreatDoorRows
import GoSem.ClaimSeven
namespace Go.Proofs.YtllmpinmbajpgaaGreatDoor
namespace Rows

/-- THE TIED CARD OF 'laws.FnAccounted'. -/
def fnAccountedCard : Claim7 := { stood := { row := fnAccountedRow, standIns := [], harness := (true, "d3d255f7b6a3c72addde4a598733f26e7be5905368e397b23c44ef0f66b4e6c1"), looks := false }, kinds := [], alts := [], laidByText := true, laidKinds := [.sentinel, .sentinel, .sentinel, .sentinel, .sentinel, .sentinel, .sentinel], laidTests := true, laidLooks := .later }
def FnAccountedCardSaid : Prop := Claim7.holds Tryz.pinned (.plain (OpenSpec.ofChange fnAccountedSpec)) fnAccountedCard

/-- THE TIED CARD OF 'laws.FnRunOut'. -/
def fnRunOutCard : Claim7 := { stood := { row := fnRunOutRow, standIns := [], harness := (true, "d3d255f7b6a3c72addde4a598733f26e7be5905368e397b23c44ef0f66b4e6c1"), looks := false }, kinds := [], alts := [], laidByText := true, laidKinds := [.sentinel, .sentinel, .sentinel, .sentinel, .sentinel, .sentinel, .sentinel], laidTests := true, laidLooks := .later }
def FnRunOutCardSaid : Prop := Claim7.holds Tryz.pinned (.plain (OpenSpec.ofChange fnRunOutSpec)) fnRunOutCard

/-- THE SECOND FORM's CARD OF 'laws.FnAccounted'. -/
def fnAccountedUptoCard : Claim7 := { stood := { row := fnAccountedUptoRow, standIns := [], harness := (true, "d3d255f7b6a3c72addde4a598733f26e7be5905368e397b23c44ef0f66b4e6c1"), looks := false }, kinds := [], alts := [], laidByText := true, laidKinds := [.sentinel, .sentinel, .sentinel, .sentinel, .sentinel, .sentinel, .sentinel], laidTests := true, laidLooks := .later }
def FnAccountedUptoCardSaid : Prop := Claim7.holds Tryz.pinned (.plain (OpenSpec.upto fnAccountedSpec)) fnAccountedUptoCard

/-- THE SECOND FORM's CARD OF 'laws.FnRunOut'. -/
def fnRunOutUptoCard : Claim7 := { stood := { row := fnRunOutUptoRow, standIns := [], harness := (true, "d3d255f7b6a3c72addde4a598733f26e7be5905368e397b23c44ef0f66b4e6c1"), looks := false }, kinds := [], alts := [], laidByText := true, laidKinds := [.sentinel, .sentinel, .sentinel, .sentinel, .sentinel, .sentinel, .sentinel], laidTests := true, laidLooks := .later }
def FnRunOutUptoCardSaid : Prop := Claim7.holds Tryz.pinned (.plain (OpenSpec.upto fnRunOutSpec)) fnRunOutUptoCard
end Rows
end Go.Proofs.YtllmpinmbajpgaaGreatDoor
