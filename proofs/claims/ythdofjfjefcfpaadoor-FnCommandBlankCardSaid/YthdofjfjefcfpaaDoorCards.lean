/-
  DERIVED. GIVEN WITH THE SEED: THE CARDS: each row of YthdofjfjefcfpaaDoorRows.lean that lists a variable, with what it lists TIED to the program's text (the seventh form; the later family's looks); each row that meets fmt, with fmt's text TOLD by the authors' own Lean function (tested against real Go, not proved from fmt's source: count such statements apart). THE CARD IS WHAT COUNTS. Prove the row's statement (the work); the ties are given (YthdofjfjefcfpaaDoorTie.lean); close each card by the builder's one call (the guide's Derived/Test/ToyasCard.lean, 'card_holds'). Laid BY PROGRAM, IN A SANDBOX (cutbox-door.mjs). By AI agents, Wed Nov 11 2026. No macro, syntax, notation, axiom, sorry.
-/
import Derived.Test.YthdofjfjefcfpaaDoorRows
import GoSem.ClaimSeven
namespace Go.Proofs.YthdofjfjefcfpaaDoor
namespace Rows

/-- THE TIED CARD OF 'laws.FnCommandText'. -/
def fnCommandTextCard : Claim7 := { stood := { row := fnCommandTextRow, standIns := [], harness := (true, "4df3963d7476f7927550a5d1ec8950f00356dad2ec7273f7d1a3634c59c14149"), looks := true }, kinds := [], alts := [], laidByText := true, laidKinds := [.data, .data, .data, .data, .sentinel, .sentinel, .pinned], laidTests := true, laidLooks := .later }
def FnCommandTextCardSaid : Prop := Claim7.holds Tryd.pinned (.plain (OpenSpec.ofChange fnCommandTextSpec)) fnCommandTextCard

/-- THE TIED CARD OF 'laws.FnCommandFrom'. -/
def fnCommandFromCard : Claim7 := { stood := { row := fnCommandFromRow, standIns := [], harness := (true, "4df3963d7476f7927550a5d1ec8950f00356dad2ec7273f7d1a3634c59c14149"), looks := true }, kinds := [], alts := [], laidByText := true, laidKinds := [.data, .data, .data, .data, .sentinel, .sentinel, .pinned], laidTests := true, laidLooks := .later }
def FnCommandFromCardSaid : Prop := Claim7.holds Tryd.pinned (.plain (OpenSpec.ofChange fnCommandFromSpec)) fnCommandFromCard

/-- THE TIED CARD OF 'laws.FnCommandBlank'. -/
def fnCommandBlankCard : Claim7 := { stood := { row := fnCommandBlankRow, standIns := [], harness := (true, "4df3963d7476f7927550a5d1ec8950f00356dad2ec7273f7d1a3634c59c14149"), looks := true }, kinds := [], alts := [], laidByText := true, laidKinds := [.data, .data, .data, .data, .sentinel, .sentinel, .pinned], laidTests := true, laidLooks := .later }
def FnCommandBlankCardSaid : Prop := Claim7.holds Tryd.pinned (.plain (OpenSpec.ofChange fnCommandBlankSpec)) fnCommandBlankCard

/-- THE TIED CARD OF 'laws.FnExactCommandFrom'. -/
def fnExactCommandFromCard : Claim7 := { stood := { row := fnExactCommandFromRow, standIns := [], harness := (true, "4df3963d7476f7927550a5d1ec8950f00356dad2ec7273f7d1a3634c59c14149"), looks := true }, kinds := [], alts := [], laidByText := true, laidKinds := [.data, .data, .data, .data, .sentinel, .sentinel, .pinned], laidTests := true, laidLooks := .later }
def FnExactCommandFromCardSaid : Prop := Claim7.holds Tryd.pinned (.plain (OpenSpec.ofChange fnExactCommandFromSpec)) fnExactCommandFromCard

/-- THE SECOND FORM's CARD OF 'laws.FnCommandText'. -/
def fnCommandTextUptoCard : Claim7 := { stood := { row := fnCommandTextUptoRow, standIns := [], harness := (true, "4df3963d7476f7927550a5d1ec8950f00356dad2ec7273f7d1a3634c59c14149"), looks := true }, kinds := [], alts := [], laidByText := true, laidKinds := [.data, .data, .data, .data, .sentinel, .sentinel, .pinned], laidTests := true, laidLooks := .later }
def FnCommandTextUptoCardSaid : Prop := Claim7.holds Tryd.pinned (.plain (OpenSpec.upto fnCommandTextSpec)) fnCommandTextUptoCard

/-- THE SECOND FORM's CARD OF 'laws.FnCommandFrom'. -/
def fnCommandFromUptoCard : Claim7 := { stood := { row := fnCommandFromUptoRow, standIns := [], harness := (true, "4df3963d7476f7927550a5d1ec8950f00356dad2ec7273f7d1a3634c59c14149"), looks := true }, kinds := [], alts := [], laidByText := true, laidKinds := [.data, .data, .data, .data, .sentinel, .sentinel, .pinned], laidTests := true, laidLooks := .later }
def FnCommandFromUptoCardSaid : Prop := Claim7.holds Tryd.pinned (.plain (OpenSpec.upto fnCommandFromSpec)) fnCommandFromUptoCard

/-- THE SECOND FORM's CARD OF 'laws.FnCommandBlank'. -/
def fnCommandBlankUptoCard : Claim7 := { stood := { row := fnCommandBlankUptoRow, standIns := [], harness := (true, "4df3963d7476f7927550a5d1ec8950f00356dad2ec7273f7d1a3634c59c14149"), looks := true }, kinds := [], alts := [], laidByText := true, laidKinds := [.data, .data, .data, .data, .sentinel, .sentinel, .pinned], laidTests := true, laidLooks := .later }
def FnCommandBlankUptoCardSaid : Prop := Claim7.holds Tryd.pinned (.plain (OpenSpec.upto fnCommandBlankSpec)) fnCommandBlankUptoCard

/-- THE SECOND FORM's CARD OF 'laws.FnExactCommandFrom'. -/
def fnExactCommandFromUptoCard : Claim7 := { stood := { row := fnExactCommandFromUptoRow, standIns := [], harness := (true, "4df3963d7476f7927550a5d1ec8950f00356dad2ec7273f7d1a3634c59c14149"), looks := true }, kinds := [], alts := [], laidByText := true, laidKinds := [.data, .data, .data, .data, .sentinel, .sentinel, .pinned], laidTests := true, laidLooks := .later }
def FnExactCommandFromUptoCardSaid : Prop := Claim7.holds Tryd.pinned (.plain (OpenSpec.upto fnExactCommandFromSpec)) fnExactCommandFromUptoCard
end Rows
end Go.Proofs.YthdofjfjefcfpaaDoor
