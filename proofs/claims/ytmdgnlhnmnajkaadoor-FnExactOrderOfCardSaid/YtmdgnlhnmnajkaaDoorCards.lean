/-
  DERIVED. GIVEN WITH THE SEED: THE CARDS: each row of YtmdgnlhnmnajkaaDoorRows.lean that lists a variable, with what it lists TIED to the program's text (the seventh form; the later family's looks); each row that meets fmt, with fmt's text TOLD by the authors' own Lean function (tested against real Go, not proved from fmt's source: count such statements apart). THE CARD IS WHAT COUNTS. Prove the row's statement (the work); the ties are given (YtmdgnlhnmnajkaaDoorTie.lean); close each card by the builder's one call (the guide's Derived/Test/ToyasCard.lean, 'card_holds'). Laid BY PROGRAM, IN A SANDBOX (cutbox-door.mjs). By AI agents, Wed Nov 11 2026. No macro, syntax, notation, axiom, sorry.
-/
import Derived.Test.YtmdgnlhnmnajkaaDoorRows
import GoSem.ClaimSeven
namespace Go.Proofs.YtmdgnlhnmnajkaaDoor
namespace Rows

/-- THE TIED CARD OF 'laws.FnExactCheckGraph'. -/
def fnExactCheckGraphCard : Claim7 := { stood := { row := fnExactCheckGraphRow, standIns := [], harness := (true, "50bea091e9b3f4242967fc18126bbc246f4817e23e29f1b68e97a54918c87c79"), looks := true }, kinds := [], alts := [], laidByText := true, laidKinds := [.sentinel, .sentinel, .sentinel, .sentinel, .sentinel, .sentinel, .sentinel], laidTests := true, laidLooks := .later }
def FnExactCheckGraphCardSaid : Prop := Claim7.holds Tryd.pinned (.plain (OpenSpec.ofChange fnExactCheckGraphSpec)) fnExactCheckGraphCard

/-- THE TIED CARD OF 'laws.FnExactOrderOf'. -/
def fnExactOrderOfCard : Claim7 := { stood := { row := fnExactOrderOfRow, standIns := [], harness := (true, "50bea091e9b3f4242967fc18126bbc246f4817e23e29f1b68e97a54918c87c79"), looks := true }, kinds := [], alts := [], laidByText := true, laidKinds := [.sentinel, .sentinel, .sentinel, .sentinel, .sentinel, .sentinel, .sentinel], laidTests := true, laidLooks := .later }
def FnExactOrderOfCardSaid : Prop := Claim7.holds Tryd.pinned (.plain (OpenSpec.ofChange fnExactOrderOfSpec)) fnExactOrderOfCard

/-- THE TIED CARD OF 'laws.FnExactSourcesOf'. -/
def fnExactSourcesOfCard : Claim7 := { stood := { row := fnExactSourcesOfRow, standIns := [], harness := (true, "50bea091e9b3f4242967fc18126bbc246f4817e23e29f1b68e97a54918c87c79"), looks := true }, kinds := [], alts := [], laidByText := true, laidKinds := [.sentinel, .sentinel, .sentinel, .sentinel, .sentinel, .sentinel, .sentinel], laidTests := true, laidLooks := .later }
def FnExactSourcesOfCardSaid : Prop := Claim7.holds Tryd.pinned (.plain (OpenSpec.ofChange fnExactSourcesOfSpec)) fnExactSourcesOfCard

/-- THE TIED CARD OF 'laws.FnExactRoomOf'. -/
def fnExactRoomOfCard : Claim7 := { stood := { row := fnExactRoomOfRow, standIns := [], harness := (true, "50bea091e9b3f4242967fc18126bbc246f4817e23e29f1b68e97a54918c87c79"), looks := true }, kinds := [], alts := [], laidByText := true, laidKinds := [.sentinel, .sentinel, .sentinel, .sentinel, .sentinel, .sentinel, .sentinel], laidTests := true, laidLooks := .later }
def FnExactRoomOfCardSaid : Prop := Claim7.holds Tryd.pinned (.plain (OpenSpec.ofChange fnExactRoomOfSpec)) fnExactRoomOfCard

/-- THE TIED CARD OF 'laws.FnExactWidestOf'. -/
def fnExactWidestOfCard : Claim7 := { stood := { row := fnExactWidestOfRow, standIns := [], harness := (true, "50bea091e9b3f4242967fc18126bbc246f4817e23e29f1b68e97a54918c87c79"), looks := true }, kinds := [], alts := [], laidByText := true, laidKinds := [.sentinel, .sentinel, .sentinel, .sentinel, .sentinel, .sentinel, .sentinel], laidTests := true, laidLooks := .later }
def FnExactWidestOfCardSaid : Prop := Claim7.holds Tryd.pinned (.plain (OpenSpec.ofChange fnExactWidestOfSpec)) fnExactWidestOfCard

/-- THE SECOND FORM's CARD OF 'laws.FnExactCheckGraph'. -/
def fnExactCheckGraphUptoCard : Claim7 := { stood := { row := fnExactCheckGraphUptoRow, standIns := [], harness := (true, "50bea091e9b3f4242967fc18126bbc246f4817e23e29f1b68e97a54918c87c79"), looks := true }, kinds := [], alts := [], laidByText := true, laidKinds := [.sentinel, .sentinel, .sentinel, .sentinel, .sentinel, .sentinel, .sentinel], laidTests := true, laidLooks := .later }
def FnExactCheckGraphUptoCardSaid : Prop := Claim7.holds Tryd.pinned (.plain (OpenSpec.upto fnExactCheckGraphSpec)) fnExactCheckGraphUptoCard

/-- THE SECOND FORM's CARD OF 'laws.FnExactOrderOf'. -/
def fnExactOrderOfUptoCard : Claim7 := { stood := { row := fnExactOrderOfUptoRow, standIns := [], harness := (true, "50bea091e9b3f4242967fc18126bbc246f4817e23e29f1b68e97a54918c87c79"), looks := true }, kinds := [], alts := [], laidByText := true, laidKinds := [.sentinel, .sentinel, .sentinel, .sentinel, .sentinel, .sentinel, .sentinel], laidTests := true, laidLooks := .later }
def FnExactOrderOfUptoCardSaid : Prop := Claim7.holds Tryd.pinned (.plain (OpenSpec.upto fnExactOrderOfSpec)) fnExactOrderOfUptoCard

/-- THE SECOND FORM's CARD OF 'laws.FnExactSourcesOf'. -/
def fnExactSourcesOfUptoCard : Claim7 := { stood := { row := fnExactSourcesOfUptoRow, standIns := [], harness := (true, "50bea091e9b3f4242967fc18126bbc246f4817e23e29f1b68e97a54918c87c79"), looks := true }, kinds := [], alts := [], laidByText := true, laidKinds := [.sentinel, .sentinel, .sentinel, .sentinel, .sentinel, .sentinel, .sentinel], laidTests := true, laidLooks := .later }
def FnExactSourcesOfUptoCardSaid : Prop := Claim7.holds Tryd.pinned (.plain (OpenSpec.upto fnExactSourcesOfSpec)) fnExactSourcesOfUptoCard

/-- THE SECOND FORM's CARD OF 'laws.FnExactRoomOf'. -/
def fnExactRoomOfUptoCard : Claim7 := { stood := { row := fnExactRoomOfUptoRow, standIns := [], harness := (true, "50bea091e9b3f4242967fc18126bbc246f4817e23e29f1b68e97a54918c87c79"), looks := true }, kinds := [], alts := [], laidByText := true, laidKinds := [.sentinel, .sentinel, .sentinel, .sentinel, .sentinel, .sentinel, .sentinel], laidTests := true, laidLooks := .later }
def FnExactRoomOfUptoCardSaid : Prop := Claim7.holds Tryd.pinned (.plain (OpenSpec.upto fnExactRoomOfSpec)) fnExactRoomOfUptoCard

/-- THE SECOND FORM's CARD OF 'laws.FnExactWidestOf'. -/
def fnExactWidestOfUptoCard : Claim7 := { stood := { row := fnExactWidestOfUptoRow, standIns := [], harness := (true, "50bea091e9b3f4242967fc18126bbc246f4817e23e29f1b68e97a54918c87c79"), looks := true }, kinds := [], alts := [], laidByText := true, laidKinds := [.sentinel, .sentinel, .sentinel, .sentinel, .sentinel, .sentinel, .sentinel], laidTests := true, laidLooks := .later }
def FnExactWidestOfUptoCardSaid : Prop := Claim7.holds Tryd.pinned (.plain (OpenSpec.upto fnExactWidestOfSpec)) fnExactWidestOfUptoCard
end Rows
end Go.Proofs.YtmdgnlhnmnajkaaDoor
