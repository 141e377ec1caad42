/-
  DERIVED. GIVEN WITH THE SEED: THE CARDS: each row of YtdikcenhakfheaaGreatDoorRows.lean that lists a variable, with what it lists TIED to the program's text (the seventh form; the later family's looks); each row that meets fmt, with fmt's text TOLD by the authors' own Lean function (tested against real Go, not proved from fmt's source: count such statements apart). THE CARD IS WHAT COUNTS. Prove the row's statement (the work); the ties are given (YtdikcenhakfheaaGreatDoorTie.lean); close each card by the builder's one call (the guide's Derived/Test/ToyasCard.lean, 'card_holds'). Laid BY PROGRAM, IN A SANDBOX (cutbox-door.mjs). By AI agents, Wed Nov 11 2026. No macro, syntax, notation, axiom, sorry.
-/
import Derived.Test.YtdikcenhakfheaaGreatDoorRows
import GoSem.ClaimSeven
namespace Go.Proofs.YtdikcenhakfheaaGreatDoor
namespace Rows

/-- THE TIED CARD OF 'laws.FnPreAccept'. -/
def fnPreAcceptCard : Claim7 := { stood := { row := fnPreAcceptRow, standIns := [], harness := (true, "f58d8571c804f0807502904a0c25f3afb678779876179f8073bfdfa960306b5c"), looks := true }, kinds := [], alts := [], laidByText := true, laidKinds := [.data], laidTests := true, laidLooks := .later }
def FnPreAcceptCardSaid : Prop := Claim7.holds Tryz.pinned (.plain (OpenSpec.ofChange fnPreAcceptSpec)) fnPreAcceptCard

/-- THE TIED CARD OF 'laws.FnPreAcceptLog'. -/
def fnPreAcceptLogCard : Claim7 := { stood := { row := fnPreAcceptLogRow, standIns := [], harness := (true, "f58d8571c804f0807502904a0c25f3afb678779876179f8073bfdfa960306b5c"), looks := true }, kinds := [], alts := [], laidByText := true, laidKinds := [.data], laidTests := true, laidLooks := .later }
def FnPreAcceptLogCardSaid : Prop := Claim7.holds Tryz.pinned (.plain (OpenSpec.ofChange fnPreAcceptLogSpec)) fnPreAcceptLogCard

/-- THE TIED CARD OF 'laws.FnPreAcceptAttrs'. -/
def fnPreAcceptAttrsCard : Claim7 := { stood := { row := fnPreAcceptAttrsRow, standIns := [], harness := (true, "f58d8571c804f0807502904a0c25f3afb678779876179f8073bfdfa960306b5c"), looks := true }, kinds := [], alts := [], laidByText := true, laidKinds := [.data], laidTests := true, laidLooks := .later }
def FnPreAcceptAttrsCardSaid : Prop := Claim7.holds Tryz.pinned (.plain (OpenSpec.ofChange fnPreAcceptAttrsSpec)) fnPreAcceptAttrsCard

/-- THE TIED CARD OF 'laws.FnExactPropose'. -/
def fnExactProposeCard : Claim7 := { stood := { row := fnExactProposeRow, standIns := [], harness := (true, "f58d8571c804f0807502904a0c25f3afb678779876179f8073bfdfa960306b5c"), looks := true }, kinds := [], alts := [], laidByText := true, laidKinds := [.data], laidTests := true, laidLooks := .later }
def FnExactProposeCardSaid : Prop := Claim7.holds Tryz.pinned (.plain (OpenSpec.ofChange fnExactProposeSpec)) fnExactProposeCard

/-- THE TIED CARD OF 'laws.FnExactPreAccept'. -/
def fnExactPreAcceptCard : Claim7 := { stood := { row := fnExactPreAcceptRow, standIns := [], harness := (true, "f58d8571c804f0807502904a0c25f3afb678779876179f8073bfdfa960306b5c"), looks := true }, kinds := [], alts := [], laidByText := true, laidKinds := [.data], laidTests := true, laidLooks := .later }
def FnExactPreAcceptCardSaid : Prop := Claim7.holds Tryz.pinned (.plain (OpenSpec.ofChange fnExactPreAcceptSpec)) fnExactPreAcceptCard

/-- THE SECOND FORM's CARD OF 'laws.FnPreAccept'. -/
def fnPreAcceptUptoCard : Claim7 := { stood := { row := fnPreAcceptUptoRow, standIns := [], harness := (true, "f58d8571c804f0807502904a0c25f3afb678779876179f8073bfdfa960306b5c"), looks := true }, kinds := [], alts := [], laidByText := true, laidKinds := [.data], laidTests := true, laidLooks := .later }
def FnPreAcceptUptoCardSaid : Prop := Claim7.holds Tryz.pinned (.plain (OpenSpec.upto fnPreAcceptSpec)) fnPreAcceptUptoCard

/-- THE SECOND FORM's CARD OF 'laws.FnPreAcceptLog'. -/
def fnPreAcceptLogUptoCard : Claim7 := { stood := { row := fnPreAcceptLogUptoRow, standIns := [], harness := (true, "f58d8571c804f0807502904a0c25f3afb678779876179f8073bfdfa960306b5c"), looks := true }, kinds := [], alts := [], laidByText := true, laidKinds := [.data], laidTests := true, laidLooks := .later }
def FnPreAcceptLogUptoCardSaid : Prop := Claim7.holds Tryz.pinned (.plain (OpenSpec.upto fnPreAcceptLogSpec)) fnPreAcceptLogUptoCard

/-- THE SECOND FORM's CARD OF 'laws.FnPreAcceptAttrs'. -/
def fnPreAcceptAttrsUptoCard : Claim7 := { stood := { row := fnPreAcceptAttrsUptoRow, standIns := [], harness := (true, "f58d8571c804f0807502904a0c25f3afb678779876179f8073bfdfa960306b5c"), looks := true }, kinds := [], alts := [], laidByText := true, laidKinds := [.data], laidTests := true, laidLooks := .later }
def FnPreAcceptAttrsUptoCardSaid : Prop := Claim7.holds Tryz.pinned (.plain (OpenSpec.upto fnPreAcceptAttrsSpec)) fnPreAcceptAttrsUptoCard

/-- THE SECOND FORM's CARD OF 'laws.FnExactPropose'. -/
def fnExactProposeUptoCard : Claim7 := { stood := { row := fnExactProposeUptoRow, standIns := [], harness := (true, "f58d8571c804f0807502904a0c25f3afb678779876179f8073bfdfa960306b5c"), looks := true }, kinds := [], alts := [], laidByText := true, laidKinds := [.data], laidTests := true, laidLooks := .later }
def FnExactProposeUptoCardSaid : Prop := Claim7.holds Tryz.pinned (.plain (OpenSpec.upto fnExactProposeSpec)) fnExactProposeUptoCard

/-- THE SECOND FORM's CARD OF 'laws.FnExactPreAccept'. -/
def fnExactPreAcceptUptoCard : Claim7 := { stood := { row := fnExactPreAcceptUptoRow, standIns := [], harness := (true, "f58d8571c804f0807502904a0c25f3afb678779876179f8073bfdfa960306b5c"), looks := true }, kinds := [], alts := [], laidByText := true, laidKinds := [.data], laidTests := true, laidLooks := .later }
def FnExactPreAcceptUptoCardSaid : Prop := Claim7.holds Tryz.pinned (.plain (OpenSpec.upto fnExactPreAcceptSpec)) fnExactPreAcceptUptoCard
end Rows
end Go.Proofs.YtdikcenhakfheaaGreatDoor
