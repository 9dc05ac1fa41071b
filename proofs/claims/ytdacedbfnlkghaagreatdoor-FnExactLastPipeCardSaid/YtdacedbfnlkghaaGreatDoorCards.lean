/-
  DERIVED. GIVEN WITH THE SEED: THE CARDS: each row of YtdacedbfnlkghaaGreatDoorRows.lean that lists a variable, with what it lists TIED to the program's text (the seventh form; the later family's looks); each row that meets fmt, with fmt's text TOLD by the authors' own Lean function (tested against real Go, not proved from fmt's source: count such statements apart). THE CARD IS WHAT COUNTS. Prove the row's statement (the work); the ties are given (YtdacedbfnlkghaaGreatDoorTie.lean); close each card by the builder's one call (the guide's Derived/Test/ToyasCard.lean, 'card_holds'). Laid BY PROGRAM, IN A SANDBOX (cutbox-door.mjs). By AI agents, Wed Nov 11 2026. No macro, syntax, notation, axiom, sorry.
-/
import Derived.Test.YtdacedbfnlkghaaGreatDoorRows
import GoSem.ClaimSeven
namespace Go.Proofs.YtdacedbfnlkghaaGreatDoor
namespace Rows

/-- THE TIED CARD OF 'laws.FnTexts'. -/
def fnTextsCard : Claim7 := { stood := { row := fnTextsRow, standIns := [], harness := (true, "d41bea6f08727ac839f529f23cbff07f382a08ce17ad47a1435430d3ed92c4cb"), looks := true }, kinds := [], alts := [], laidByText := true, laidKinds := [.data, .data, .data, .sentinel, .sentinel, .sentinel, .sentinel, .sentinel, .sentinel, .sentinel, .sentinel, .sentinel, .data, .data], laidTests := true, laidLooks := .later }
def FnTextsCardSaid : Prop := Claim7.holds Tryz.pinned (.plain (OpenSpec.ofChange fnTextsSpec)) fnTextsCard

/-- THE TIED CARD OF 'laws.FnExactRunPipe'. -/
def fnExactRunPipeCard : Claim7 := { stood := { row := fnExactRunPipeRow, standIns := [], harness := (true, "d41bea6f08727ac839f529f23cbff07f382a08ce17ad47a1435430d3ed92c4cb"), looks := true }, kinds := [], alts := [], laidByText := true, laidKinds := [.data, .data, .data, .sentinel, .sentinel, .sentinel, .sentinel, .sentinel, .sentinel, .sentinel, .sentinel, .sentinel, .data, .data], laidTests := true, laidLooks := .later }
def FnExactRunPipeCardSaid : Prop := Claim7.holds Tryz.pinned (.plain (OpenSpec.ofChange fnExactRunPipeSpec)) fnExactRunPipeCard

/-- THE TIED CARD OF 'laws.FnExactGraphOfText'. -/
def fnExactGraphOfTextCard : Claim7 := { stood := { row := fnExactGraphOfTextRow, standIns := [], harness := (true, "d41bea6f08727ac839f529f23cbff07f382a08ce17ad47a1435430d3ed92c4cb"), looks := true }, kinds := [], alts := [], laidByText := true, laidKinds := [.data, .data, .data, .sentinel, .sentinel, .sentinel, .sentinel, .sentinel, .sentinel, .sentinel, .sentinel, .sentinel, .data, .data], laidTests := true, laidLooks := .later }
def FnExactGraphOfTextCardSaid : Prop := Claim7.holds Tryz.pinned (.plain (OpenSpec.ofChange fnExactGraphOfTextSpec)) fnExactGraphOfTextCard

/-- THE TIED CARD OF 'laws.FnExactLastPipe'. -/
def fnExactLastPipeCard : Claim7 := { stood := { row := fnExactLastPipeRow, standIns := [], harness := (true, "d41bea6f08727ac839f529f23cbff07f382a08ce17ad47a1435430d3ed92c4cb"), looks := true }, kinds := [], alts := [], laidByText := true, laidKinds := [.data, .data, .data, .sentinel, .sentinel, .sentinel, .sentinel, .sentinel, .sentinel, .sentinel, .sentinel, .sentinel, .data, .data], laidTests := true, laidLooks := .later }
def FnExactLastPipeCardSaid : Prop := Claim7.holds Tryz.pinned (.plain (OpenSpec.ofChange fnExactLastPipeSpec)) fnExactLastPipeCard

/-- THE SECOND FORM's CARD OF 'laws.FnTexts'. -/
def fnTextsUptoCard : Claim7 := { stood := { row := fnTextsUptoRow, standIns := [], harness := (true, "d41bea6f08727ac839f529f23cbff07f382a08ce17ad47a1435430d3ed92c4cb"), looks := true }, kinds := [], alts := [], laidByText := true, laidKinds := [.data, .data, .data, .sentinel, .sentinel, .sentinel, .sentinel, .sentinel, .sentinel, .sentinel, .sentinel, .sentinel, .data, .data], laidTests := true, laidLooks := .later }
def FnTextsUptoCardSaid : Prop := Claim7.holds Tryz.pinned (.plain (OpenSpec.upto fnTextsSpec)) fnTextsUptoCard

/-- THE SECOND FORM's CARD OF 'laws.FnExactRunPipe'. -/
def fnExactRunPipeUptoCard : Claim7 := { stood := { row := fnExactRunPipeUptoRow, standIns := [], harness := (true, "d41bea6f08727ac839f529f23cbff07f382a08ce17ad47a1435430d3ed92c4cb"), looks := true }, kinds := [], alts := [], laidByText := true, laidKinds := [.data, .data, .data, .sentinel, .sentinel, .sentinel, .sentinel, .sentinel, .sentinel, .sentinel, .sentinel, .sentinel, .data, .data], laidTests := true, laidLooks := .later }
def FnExactRunPipeUptoCardSaid : Prop := Claim7.holds Tryz.pinned (.plain (OpenSpec.upto fnExactRunPipeSpec)) fnExactRunPipeUptoCard

/-- THE SECOND FORM's CARD OF 'laws.FnExactGraphOfText'. -/
def fnExactGraphOfTextUptoCard : Claim7 := { stood := { row := fnExactGraphOfTextUptoRow, standIns := [], harness := (true, "d41bea6f08727ac839f529f23cbff07f382a08ce17ad47a1435430d3ed92c4cb"), looks := true }, kinds := [], alts := [], laidByText := true, laidKinds := [.data, .data, .data, .sentinel, .sentinel, .sentinel, .sentinel, .sentinel, .sentinel, .sentinel, .sentinel, .sentinel, .data, .data], laidTests := true, laidLooks := .later }
def FnExactGraphOfTextUptoCardSaid : Prop := Claim7.holds Tryz.pinned (.plain (OpenSpec.upto fnExactGraphOfTextSpec)) fnExactGraphOfTextUptoCard

/-- THE SECOND FORM's CARD OF 'laws.FnExactLastPipe'. -/
def fnExactLastPipeUptoCard : Claim7 := { stood := { row := fnExactLastPipeUptoRow, standIns := [], harness := (true, "d41bea6f08727ac839f529f23cbff07f382a08ce17ad47a1435430d3ed92c4cb"), looks := true }, kinds := [], alts := [], laidByText := true, laidKinds := [.data, .data, .data, .sentinel, .sentinel, .sentinel, .sentinel, .sentinel, .sentinel, .sentinel, .sentinel, .sentinel, .data, .data], laidTests := true, laidLooks := .later }
def FnExactLastPipeUptoCardSaid : Prop := Claim7.holds Tryz.pinned (.plain (OpenSpec.upto fnExactLastPipeSpec)) fnExactLastPipeUptoCard
end Rows
end Go.Proofs.YtdacedbfnlkghaaGreatDoor
