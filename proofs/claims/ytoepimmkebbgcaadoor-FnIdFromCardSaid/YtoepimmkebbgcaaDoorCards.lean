/-
  DERIVED. GIVEN WITH THE SEED: THE CARDS: each row of YtoepimmkebbgcaaDoorRows.lean that lists a variable, with what it lists TIED to the program's text (the seventh form; the later family's looks); each row that meets fmt, with fmt's text TOLD by the authors' own Lean function (tested against real Go, not proved from fmt's source: count such statements apart). THE CARD IS WHAT COUNTS. Prove the row's statement (the work); the ties are given (YtoepimmkebbgcaaDoorTie.lean); close each card by the builder's one call (the guide's Derived/Test/ToyasCard.lean, 'card_holds'). Laid BY PROGRAM, IN A SANDBOX (cutbox-door.mjs). By AI agents, Wed Nov 11 2026. No macro, syntax, notation, axiom, sorry.
-/
import Derived.Test.YtoepimmkebbgcaaDoorRows
import GoSem.ClaimSeven
namespace Go.Proofs.YtoepimmkebbgcaaDoor
namespace Rows

/-- THE TIED CARD OF 'laws.FnIdText'. -/
def fnIdTextCard : Claim7 := { stood := { row := fnIdTextRow, standIns := [], harness := (true, "c6b570dd7ab86afa72b89ebba8a4ce80027c4558c7643cca683d01cb5d6d3471"), looks := true }, kinds := [], alts := [], laidByText := true, laidKinds := [.data, .data, .data, .sentinel, .sentinel], laidTests := true, laidLooks := .later }
def FnIdTextCardSaid : Prop := Claim7.holds Tryd.pinned (.plain (OpenSpec.ofChange fnIdTextSpec)) fnIdTextCard

/-- THE TIED CARD OF 'laws.FnIdFrom'. -/
def fnIdFromCard : Claim7 := { stood := { row := fnIdFromRow, standIns := [], harness := (true, "c6b570dd7ab86afa72b89ebba8a4ce80027c4558c7643cca683d01cb5d6d3471"), looks := true }, kinds := [], alts := [], laidByText := true, laidKinds := [.data, .data, .data, .sentinel, .sentinel], laidTests := true, laidLooks := .later }
def FnIdFromCardSaid : Prop := Claim7.holds Tryd.pinned (.plain (OpenSpec.ofChange fnIdFromSpec)) fnIdFromCard

/-- THE TIED CARD OF 'laws.FnIdFromNot'. -/
def fnIdFromNotCard : Claim7 := { stood := { row := fnIdFromNotRow, standIns := [], harness := (true, "c6b570dd7ab86afa72b89ebba8a4ce80027c4558c7643cca683d01cb5d6d3471"), looks := true }, kinds := [], alts := [], laidByText := true, laidKinds := [.data, .data, .data, .sentinel, .sentinel], laidTests := true, laidLooks := .later }
def FnIdFromNotCardSaid : Prop := Claim7.holds Tryd.pinned (.plain (OpenSpec.ofChange fnIdFromNotSpec)) fnIdFromNotCard

/-- THE TIED CARD OF 'laws.FnExactIdText'. -/
def fnExactIdTextCard : Claim7 := { stood := { row := fnExactIdTextRow, standIns := [], harness := (true, "c6b570dd7ab86afa72b89ebba8a4ce80027c4558c7643cca683d01cb5d6d3471"), looks := true }, kinds := [], alts := [], laidByText := true, laidKinds := [.data, .data, .data], laidTests := true, laidLooks := .later }
def FnExactIdTextCardSaid : Prop := Claim7.holds Tryd.pinned (.plain (OpenSpec.ofChange fnExactIdTextSpec)) fnExactIdTextCard

/-- THE TIED CARD OF 'laws.FnExactIdFrom'. -/
def fnExactIdFromCard : Claim7 := { stood := { row := fnExactIdFromRow, standIns := [], harness := (true, "c6b570dd7ab86afa72b89ebba8a4ce80027c4558c7643cca683d01cb5d6d3471"), looks := true }, kinds := [], alts := [], laidByText := true, laidKinds := [.data, .data, .data, .sentinel, .sentinel], laidTests := true, laidLooks := .later }
def FnExactIdFromCardSaid : Prop := Claim7.holds Tryd.pinned (.plain (OpenSpec.ofChange fnExactIdFromSpec)) fnExactIdFromCard

/-- THE SECOND FORM's CARD OF 'laws.FnIdText'. -/
def fnIdTextUptoCard : Claim7 := { stood := { row := fnIdTextUptoRow, standIns := [], harness := (true, "c6b570dd7ab86afa72b89ebba8a4ce80027c4558c7643cca683d01cb5d6d3471"), looks := true }, kinds := [], alts := [], laidByText := true, laidKinds := [.data, .data, .data, .sentinel, .sentinel], laidTests := true, laidLooks := .later }
def FnIdTextUptoCardSaid : Prop := Claim7.holds Tryd.pinned (.plain (OpenSpec.upto fnIdTextSpec)) fnIdTextUptoCard

/-- THE SECOND FORM's CARD OF 'laws.FnIdFrom'. -/
def fnIdFromUptoCard : Claim7 := { stood := { row := fnIdFromUptoRow, standIns := [], harness := (true, "c6b570dd7ab86afa72b89ebba8a4ce80027c4558c7643cca683d01cb5d6d3471"), looks := true }, kinds := [], alts := [], laidByText := true, laidKinds := [.data, .data, .data, .sentinel, .sentinel], laidTests := true, laidLooks := .later }
def FnIdFromUptoCardSaid : Prop := Claim7.holds Tryd.pinned (.plain (OpenSpec.upto fnIdFromSpec)) fnIdFromUptoCard

/-- THE SECOND FORM's CARD OF 'laws.FnIdFromNot'. -/
def fnIdFromNotUptoCard : Claim7 := { stood := { row := fnIdFromNotUptoRow, standIns := [], harness := (true, "c6b570dd7ab86afa72b89ebba8a4ce80027c4558c7643cca683d01cb5d6d3471"), looks := true }, kinds := [], alts := [], laidByText := true, laidKinds := [.data, .data, .data, .sentinel, .sentinel], laidTests := true, laidLooks := .later }
def FnIdFromNotUptoCardSaid : Prop := Claim7.holds Tryd.pinned (.plain (OpenSpec.upto fnIdFromNotSpec)) fnIdFromNotUptoCard

/-- THE SECOND FORM's CARD OF 'laws.FnExactIdText'. -/
def fnExactIdTextUptoCard : Claim7 := { stood := { row := fnExactIdTextUptoRow, standIns := [], harness := (true, "c6b570dd7ab86afa72b89ebba8a4ce80027c4558c7643cca683d01cb5d6d3471"), looks := true }, kinds := [], alts := [], laidByText := true, laidKinds := [.data, .data, .data], laidTests := true, laidLooks := .later }
def FnExactIdTextUptoCardSaid : Prop := Claim7.holds Tryd.pinned (.plain (OpenSpec.upto fnExactIdTextSpec)) fnExactIdTextUptoCard

/-- THE SECOND FORM's CARD OF 'laws.FnExactIdFrom'. -/
def fnExactIdFromUptoCard : Claim7 := { stood := { row := fnExactIdFromUptoRow, standIns := [], harness := (true, "c6b570dd7ab86afa72b89ebba8a4ce80027c4558c7643cca683d01cb5d6d3471"), looks := true }, kinds := [], alts := [], laidByText := true, laidKinds := [.data, .data, .data, .sentinel, .sentinel], laidTests := true, laidLooks := .later }
def FnExactIdFromUptoCardSaid : Prop := Claim7.holds Tryd.pinned (.plain (OpenSpec.upto fnExactIdFromSpec)) fnExactIdFromUptoCard
end Rows
end Go.Proofs.YtoepimmkebbgcaaDoor
