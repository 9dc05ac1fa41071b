/-
  DERIVED. GIVEN WITH THE SEED: THE CARDS: each row of YtbpacibfboldcaaDoorRows.lean that lists a variable, with what it lists TIED to the program's text (the seventh form; the later family's looks); each row that meets fmt, with fmt's text TOLD by the authors' own Lean function (tested against real Go, not proved from fmt's source: count such statements apart). THE CARD IS WHAT COUNTS. Prove the row's statement (the work); the ties are given (YtbpacibfboldcaaDoorTie.lean); close each card by the builder's one call (the guide's Derived/Test/ToyasCard.lean, 'card_holds'). Laid BY PROGRAM, IN A SANDBOX (cutbox-door.mjs). By AI agents, Wed Nov 11 2026. No macro, syntax, notation, axiom, sorry.
-/
import Derived.Test.YtbpacibfboldcaaDoorRows
import GoSem.ClaimSeven
namespace Go.Proofs.YtbpacibfboldcaaDoor
namespace Rows

/-- THE TIED CARD OF 'laws.FnExactFailChild'. -/
def fnExactFailChildCard : Claim7 := { stood := { row := fnExactFailChildRow, standIns := [], harness := (true, "2a935d81e64d809af295bb45af5782c151dd1e21618255a3adb33f4d14339660"), looks := true }, kinds := [], alts := [], laidByText := true, laidKinds := [.handle], laidTests := true, laidLooks := .later }
def FnExactFailChildCardSaid : Prop := Claim7.holds Tryd.pinned (.plain (OpenSpec.ofChange fnExactFailChildSpec)) fnExactFailChildCard

/-- THE TIED CARD OF 'laws.FnExactFailIn'. -/
def fnExactFailInCard : Claim7 := { stood := { row := fnExactFailInRow, standIns := [], harness := (true, "2a935d81e64d809af295bb45af5782c151dd1e21618255a3adb33f4d14339660"), looks := true }, kinds := [], alts := [], laidByText := true, laidKinds := [.handle], laidTests := true, laidLooks := .later }
def FnExactFailInCardSaid : Prop := Claim7.holds Tryd.pinned (.plain (OpenSpec.ofChange fnExactFailInSpec)) fnExactFailInCard

/-- THE SECOND FORM's CARD OF 'laws.FnExactFailChild'. -/
def fnExactFailChildUptoCard : Claim7 := { stood := { row := fnExactFailChildUptoRow, standIns := [], harness := (true, "2a935d81e64d809af295bb45af5782c151dd1e21618255a3adb33f4d14339660"), looks := true }, kinds := [], alts := [], laidByText := true, laidKinds := [.handle], laidTests := true, laidLooks := .later }
def FnExactFailChildUptoCardSaid : Prop := Claim7.holds Tryd.pinned (.plain (OpenSpec.upto fnExactFailChildSpec)) fnExactFailChildUptoCard

/-- THE SECOND FORM's CARD OF 'laws.FnExactFailIn'. -/
def fnExactFailInUptoCard : Claim7 := { stood := { row := fnExactFailInUptoRow, standIns := [], harness := (true, "2a935d81e64d809af295bb45af5782c151dd1e21618255a3adb33f4d14339660"), looks := true }, kinds := [], alts := [], laidByText := true, laidKinds := [.handle], laidTests := true, laidLooks := .later }
def FnExactFailInUptoCardSaid : Prop := Claim7.holds Tryd.pinned (.plain (OpenSpec.upto fnExactFailInSpec)) fnExactFailInUptoCard
end Rows
end Go.Proofs.YtbpacibfboldcaaDoor
