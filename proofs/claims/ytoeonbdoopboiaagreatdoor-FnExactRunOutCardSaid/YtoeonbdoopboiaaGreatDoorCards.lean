/-
  DERIVED. GIVEN WITH THE SEED: THE CARDS: each row of YtoeonbdoopboiaaGreatDoorRows.lean that lists a variable, with what it lists TIED to the program's text (the seventh form; the later family's looks); each row that meets fmt, with fmt's text TOLD by the authors' own Lean function (tested against real Go, not proved from fmt's source: count such statements apart). THE CARD IS WHAT COUNTS. Prove the row's statement (the work); the ties are given (YtoeonbdoopboiaaGreatDoorTie.lean); close each card by the builder's one call (the guide's Derived/Test/ToyasCard.lean, 'card_holds'). Laid BY PROGRAM, IN A SANDBOX (cutbox-door.mjs). By AI agents, Wed Nov 11 2026. No macro, syntax, notation, axiom, sorry.
-/
import Derived.Test.YtoeonbdoopboiaaGreatDoorRows
import GoSem.ClaimSeven
namespace Go.Proofs.YtoeonbdoopboiaaGreatDoor
namespace Rows

/-- THE TIED CARD OF 'laws.FnExactPlayPipe'. -/
def fnExactPlayPipeCard : Claim7 := { stood := { row := fnExactPlayPipeRow, standIns := [], harness := (true, "e4ea102d6ebe0d24669fef54df2ba9e6b2d41029a295cc0699a706f507ec5ddf"), looks := false }, kinds := [], alts := [], laidByText := true, laidKinds := [.sentinel, .sentinel, .sentinel, .sentinel, .sentinel, .sentinel, .sentinel], laidTests := true, laidLooks := .later }
def FnExactPlayPipeCardSaid : Prop := Claim7.holds Tryz.pinned (.plain (OpenSpec.ofChange fnExactPlayPipeSpec)) fnExactPlayPipeCard

/-- THE TIED CARD OF 'laws.FnExactRunOut'. -/
def fnExactRunOutCard : Claim7 := { stood := { row := fnExactRunOutRow, standIns := [], harness := (true, "e4ea102d6ebe0d24669fef54df2ba9e6b2d41029a295cc0699a706f507ec5ddf"), looks := false }, kinds := [], alts := [], laidByText := true, laidKinds := [.sentinel, .sentinel, .sentinel, .sentinel, .sentinel, .sentinel, .sentinel], laidTests := true, laidLooks := .later }
def FnExactRunOutCardSaid : Prop := Claim7.holds Tryz.pinned (.plain (OpenSpec.ofChange fnExactRunOutSpec)) fnExactRunOutCard

/-- THE TIED CARD OF 'laws.FnExactAccountOf'. -/
def fnExactAccountOfCard : Claim7 := { stood := { row := fnExactAccountOfRow, standIns := [], harness := (true, "e4ea102d6ebe0d24669fef54df2ba9e6b2d41029a295cc0699a706f507ec5ddf"), looks := false }, kinds := [], alts := [], laidByText := true, laidKinds := [.sentinel, .sentinel, .sentinel, .sentinel, .sentinel, .sentinel, .sentinel], laidTests := true, laidLooks := .later }
def FnExactAccountOfCardSaid : Prop := Claim7.holds Tryz.pinned (.plain (OpenSpec.ofChange fnExactAccountOfSpec)) fnExactAccountOfCard

/-- THE TIED CARD OF 'laws.FnExactOfferedIn'. -/
def fnExactOfferedInCard : Claim7 := { stood := { row := fnExactOfferedInRow, standIns := [], harness := (true, "e4ea102d6ebe0d24669fef54df2ba9e6b2d41029a295cc0699a706f507ec5ddf"), looks := false }, kinds := [], alts := [], laidByText := true, laidKinds := [.sentinel, .sentinel, .sentinel, .sentinel, .sentinel, .sentinel, .sentinel], laidTests := true, laidLooks := .later }
def FnExactOfferedInCardSaid : Prop := Claim7.holds Tryz.pinned (.plain (OpenSpec.ofChange fnExactOfferedInSpec)) fnExactOfferedInCard

/-- THE TIED CARD OF 'laws.FnExactLiveAfter'. -/
def fnExactLiveAfterCard : Claim7 := { stood := { row := fnExactLiveAfterRow, standIns := [], harness := (true, "e4ea102d6ebe0d24669fef54df2ba9e6b2d41029a295cc0699a706f507ec5ddf"), looks := false }, kinds := [], alts := [], laidByText := true, laidKinds := [.sentinel, .sentinel, .sentinel, .sentinel, .sentinel, .sentinel, .sentinel], laidTests := true, laidLooks := .later }
def FnExactLiveAfterCardSaid : Prop := Claim7.holds Tryz.pinned (.plain (OpenSpec.ofChange fnExactLiveAfterSpec)) fnExactLiveAfterCard

/-- THE SECOND FORM's CARD OF 'laws.FnExactPlayPipe'. -/
def fnExactPlayPipeUptoCard : Claim7 := { stood := { row := fnExactPlayPipeUptoRow, standIns := [], harness := (true, "e4ea102d6ebe0d24669fef54df2ba9e6b2d41029a295cc0699a706f507ec5ddf"), looks := false }, kinds := [], alts := [], laidByText := true, laidKinds := [.sentinel, .sentinel, .sentinel, .sentinel, .sentinel, .sentinel, .sentinel], laidTests := true, laidLooks := .later }
def FnExactPlayPipeUptoCardSaid : Prop := Claim7.holds Tryz.pinned (.plain (OpenSpec.upto fnExactPlayPipeSpec)) fnExactPlayPipeUptoCard

/-- THE SECOND FORM's CARD OF 'laws.FnExactRunOut'. -/
def fnExactRunOutUptoCard : Claim7 := { stood := { row := fnExactRunOutUptoRow, standIns := [], harness := (true, "e4ea102d6ebe0d24669fef54df2ba9e6b2d41029a295cc0699a706f507ec5ddf"), looks := false }, kinds := [], alts := [], laidByText := true, laidKinds := [.sentinel, .sentinel, .sentinel, .sentinel, .sentinel, .sentinel, .sentinel], laidTests := true, laidLooks := .later }
def FnExactRunOutUptoCardSaid : Prop := Claim7.holds Tryz.pinned (.plain (OpenSpec.upto fnExactRunOutSpec)) fnExactRunOutUptoCard

/-- THE SECOND FORM's CARD OF 'laws.FnExactAccountOf'. -/
def fnExactAccountOfUptoCard : Claim7 := { stood := { row := fnExactAccountOfUptoRow, standIns := [], harness := (true, "e4ea102d6ebe0d24669fef54df2ba9e6b2d41029a295cc0699a706f507ec5ddf"), looks := false }, kinds := [], alts := [], laidByText := true, laidKinds := [.sentinel, .sentinel, .sentinel, .sentinel, .sentinel, .sentinel, .sentinel], laidTests := true, laidLooks := .later }
def FnExactAccountOfUptoCardSaid : Prop := Claim7.holds Tryz.pinned (.plain (OpenSpec.upto fnExactAccountOfSpec)) fnExactAccountOfUptoCard

/-- THE SECOND FORM's CARD OF 'laws.FnExactOfferedIn'. -/
def fnExactOfferedInUptoCard : Claim7 := { stood := { row := fnExactOfferedInUptoRow, standIns := [], harness := (true, "e4ea102d6ebe0d24669fef54df2ba9e6b2d41029a295cc0699a706f507ec5ddf"), looks := false }, kinds := [], alts := [], laidByText := true, laidKinds := [.sentinel, .sentinel, .sentinel, .sentinel, .sentinel, .sentinel, .sentinel], laidTests := true, laidLooks := .later }
def FnExactOfferedInUptoCardSaid : Prop := Claim7.holds Tryz.pinned (.plain (OpenSpec.upto fnExactOfferedInSpec)) fnExactOfferedInUptoCard

/-- THE SECOND FORM's CARD OF 'laws.FnExactLiveAfter'. -/
def fnExactLiveAfterUptoCard : Claim7 := { stood := { row := fnExactLiveAfterUptoRow, standIns := [], harness := (true, "e4ea102d6ebe0d24669fef54df2ba9e6b2d41029a295cc0699a706f507ec5ddf"), looks := false }, kinds := [], alts := [], laidByText := true, laidKinds := [.sentinel, .sentinel, .sentinel, .sentinel, .sentinel, .sentinel, .sentinel], laidTests := true, laidLooks := .later }
def FnExactLiveAfterUptoCardSaid : Prop := Claim7.holds Tryz.pinned (.plain (OpenSpec.upto fnExactLiveAfterSpec)) fnExactLiveAfterUptoCard
end Rows
end Go.Proofs.YtoeonbdoopboiaaGreatDoor
