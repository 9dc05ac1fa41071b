/-
  DERIVED. GIVEN WITH THE SEED: THE CARDS: each row of YteamcpcjooglaaaDoorRows.lean that lists a variable, with what it lists TIED to the program's text (the seventh form; the later family's looks); each row that meets fmt, with fmt's text TOLD by the authors' own Lean function (tested against real Go, not proved from fmt's source: count such statements apart). THE CARD IS WHAT COUNTS. Prove the row's statement (the work); the ties are given (YteamcpcjooglaaaDoorTie.lean); close each card by the builder's one call (the guide's Derived/Test/ToyasCard.lean, 'card_holds'). Laid BY PROGRAM, IN A SANDBOX (cutbox-door.mjs). By AI agents, Wed Nov 11 2026. No macro, syntax, notation, axiom, sorry.
-/
import Derived.Test.YteamcpcjooglaaaDoorRows
import GoSem.ClaimSeven
namespace Go.Proofs.YteamcpcjooglaaaDoor
namespace Rows

/-- THE TIED CARD OF 'laws.FnExactWidestOf'. -/
def fnExactWidestOfCard : Claim7 := { stood := { row := fnExactWidestOfRow, standIns := [], harness := (true, "bba567af570dad80cd2cc87c86bda4f1639a52b9b794131bb1208cc696023140"), looks := false }, kinds := [], alts := [], laidByText := true, laidKinds := [.sentinel, .sentinel, .sentinel, .sentinel, .sentinel, .sentinel, .sentinel], laidTests := true, laidLooks := .later }
def FnExactWidestOfCardSaid : Prop := Claim7.holds Tryd.pinned (.plain (OpenSpec.ofChange fnExactWidestOfSpec)) fnExactWidestOfCard

/-- THE SECOND FORM's CARD OF 'laws.FnExactWidestOf'. -/
def fnExactWidestOfUptoCard : Claim7 := { stood := { row := fnExactWidestOfUptoRow, standIns := [], harness := (true, "bba567af570dad80cd2cc87c86bda4f1639a52b9b794131bb1208cc696023140"), looks := false }, kinds := [], alts := [], laidByText := true, laidKinds := [.sentinel, .sentinel, .sentinel, .sentinel, .sentinel, .sentinel, .sentinel], laidTests := true, laidLooks := .later }
def FnExactWidestOfUptoCardSaid : Prop := Claim7.holds Tryd.pinned (.plain (OpenSpec.upto fnExactWidestOfSpec)) fnExactWidestOfUptoCard
end Rows
end Go.Proofs.YteamcpcjooglaaaDoor
