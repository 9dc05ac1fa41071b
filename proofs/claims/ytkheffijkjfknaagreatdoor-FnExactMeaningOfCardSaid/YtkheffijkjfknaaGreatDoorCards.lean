/-
  DERIVED. GIVEN WITH THE SEED: THE CARDS: each row of YtkheffijkjfknaaGreatDoorRows.lean that lists a variable, with what it lists TIED to the program's text (the seventh form; the later family's looks); each row that meets fmt, with fmt's text TOLD by the authors' own Lean function (tested against real Go, not proved from fmt's source: count such statements apart). THE CARD IS WHAT COUNTS. Prove the row's statement (the work); the ties are given (YtkheffijkjfknaaGreatDoorTie.lean); close each card by the builder's one call (the guide's Derived/Test/ToyasCard.lean, 'card_holds'). Laid BY PROGRAM, IN A SANDBOX (cutbox-door.mjs). By AI agents, Wed Nov 11 2026. No macro, syntax, notation, axiom, sorry.
-/
import Derived.Test.YtkheffijkjfknaaGreatDoorRows
import GoSem.ClaimSeven
namespace Go.Proofs.YtkheffijkjfknaaGreatDoor
namespace Rows

/-- THE TIED CARD OF 'laws.FnExactMeaningOf'. -/
def fnExactMeaningOfCard : Claim7 := { stood := { row := fnExactMeaningOfRow, standIns := [], harness := (true, "94763d15b0d7fee218a570d14ba3637dd7de8c34dc55d4be383038fe5d2c5b47"), looks := false }, kinds := [], alts := [], laidByText := true, laidKinds := [.sentinel, .sentinel, .sentinel, .sentinel, .sentinel, .sentinel, .sentinel], laidTests := true, laidLooks := .later }
def FnExactMeaningOfCardSaid : Prop := Claim7.holds Tryz.pinned (.plain (OpenSpec.ofChange fnExactMeaningOfSpec)) fnExactMeaningOfCard

/-- THE SECOND FORM's CARD OF 'laws.FnExactMeaningOf'. -/
def fnExactMeaningOfUptoCard : Claim7 := { stood := { row := fnExactMeaningOfUptoRow, standIns := [], harness := (true, "94763d15b0d7fee218a570d14ba3637dd7de8c34dc55d4be383038fe5d2c5b47"), looks := false }, kinds := [], alts := [], laidByText := true, laidKinds := [.sentinel, .sentinel, .sentinel, .sentinel, .sentinel, .sentinel, .sentinel], laidTests := true, laidLooks := .later }
def FnExactMeaningOfUptoCardSaid : Prop := Claim7.holds Tryz.pinned (.plain (OpenSpec.upto fnExactMeaningOfSpec)) fnExactMeaningOfUptoCard
end Rows
end Go.Proofs.YtkheffijkjfknaaGreatDoor
