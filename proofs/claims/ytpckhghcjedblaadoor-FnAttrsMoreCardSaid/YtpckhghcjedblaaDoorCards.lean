/-
  DERIVED. GIVEN WITH THE SEED: THE CARDS: each row of YtpckhghcjedblaaDoorRows.lean that lists a variable, with what it lists TIED to the program's text (the seventh form; the later family's looks); each row that meets fmt, with fmt's text TOLD by the authors' own Lean function (tested against real Go, not proved from fmt's source: count such statements apart). THE CARD IS WHAT COUNTS. Prove the row's statement (the work); the ties are given (YtpckhghcjedblaaDoorTie.lean); close each card by the builder's one call (the guide's Derived/Test/ToyasCard.lean, 'card_holds'). Laid BY PROGRAM, IN A SANDBOX (cutbox-door.mjs). By AI agents, Wed Nov 11 2026. No macro, syntax, notation, axiom, sorry.
-/
import Derived.Test.YtpckhghcjedblaaDoorRows
import GoSem.ClaimSeven
namespace Go.Proofs.YtpckhghcjedblaaDoor
namespace Rows

/-- THE TIED CARD OF 'laws.FnAttrs'. -/
def fnAttrsCard : Claim7 := { stood := { row := fnAttrsRow, standIns := [], harness := (true, "8b95f4d5fcef3d1238e70e2cacae47dff7f3fc3d2522a5f68b2dca43c8ac0e0e"), looks := true }, kinds := [], alts := [], laidByText := true, laidKinds := [.data], laidTests := true, laidLooks := .later }
def FnAttrsCardSaid : Prop := Claim7.holds Tryd.pinned (.plain (OpenSpec.ofChange fnAttrsSpec)) fnAttrsCard

/-- THE TIED CARD OF 'laws.FnAttrsSeq'. -/
def fnAttrsSeqCard : Claim7 := { stood := { row := fnAttrsSeqRow, standIns := [], harness := (true, "8b95f4d5fcef3d1238e70e2cacae47dff7f3fc3d2522a5f68b2dca43c8ac0e0e"), looks := true }, kinds := [], alts := [], laidByText := true, laidKinds := [.data], laidTests := true, laidLooks := .later }
def FnAttrsSeqCardSaid : Prop := Claim7.holds Tryd.pinned (.plain (OpenSpec.ofChange fnAttrsSeqSpec)) fnAttrsSeqCard

/-- THE TIED CARD OF 'laws.FnAttrsMore'. -/
def fnAttrsMoreCard : Claim7 := { stood := { row := fnAttrsMoreRow, standIns := [], harness := (true, "8b95f4d5fcef3d1238e70e2cacae47dff7f3fc3d2522a5f68b2dca43c8ac0e0e"), looks := true }, kinds := [], alts := [], laidByText := true, laidKinds := [.data], laidTests := true, laidLooks := .later }
def FnAttrsMoreCardSaid : Prop := Claim7.holds Tryd.pinned (.plain (OpenSpec.ofChange fnAttrsMoreSpec)) fnAttrsMoreCard

/-- THE TIED CARD OF 'laws.FnAttrsNone'. -/
def fnAttrsNoneCard : Claim7 := { stood := { row := fnAttrsNoneRow, standIns := [], harness := (true, "8b95f4d5fcef3d1238e70e2cacae47dff7f3fc3d2522a5f68b2dca43c8ac0e0e"), looks := true }, kinds := [], alts := [], laidByText := true, laidKinds := [.data], laidTests := true, laidLooks := .later }
def FnAttrsNoneCardSaid : Prop := Claim7.holds Tryd.pinned (.plain (OpenSpec.ofChange fnAttrsNoneSpec)) fnAttrsNoneCard

/-- THE TIED CARD OF 'laws.FnExactLogAttrs'. -/
def fnExactLogAttrsCard : Claim7 := { stood := { row := fnExactLogAttrsRow, standIns := [], harness := (true, "8b95f4d5fcef3d1238e70e2cacae47dff7f3fc3d2522a5f68b2dca43c8ac0e0e"), looks := true }, kinds := [], alts := [], laidByText := true, laidKinds := [.data], laidTests := true, laidLooks := .later }
def FnExactLogAttrsCardSaid : Prop := Claim7.holds Tryd.pinned (.plain (OpenSpec.ofChange fnExactLogAttrsSpec)) fnExactLogAttrsCard

/-- THE SECOND FORM's CARD OF 'laws.FnAttrs'. -/
def fnAttrsUptoCard : Claim7 := { stood := { row := fnAttrsUptoRow, standIns := [], harness := (true, "8b95f4d5fcef3d1238e70e2cacae47dff7f3fc3d2522a5f68b2dca43c8ac0e0e"), looks := true }, kinds := [], alts := [], laidByText := true, laidKinds := [.data], laidTests := true, laidLooks := .later }
def FnAttrsUptoCardSaid : Prop := Claim7.holds Tryd.pinned (.plain (OpenSpec.upto fnAttrsSpec)) fnAttrsUptoCard

/-- THE SECOND FORM's CARD OF 'laws.FnAttrsSeq'. -/
def fnAttrsSeqUptoCard : Claim7 := { stood := { row := fnAttrsSeqUptoRow, standIns := [], harness := (true, "8b95f4d5fcef3d1238e70e2cacae47dff7f3fc3d2522a5f68b2dca43c8ac0e0e"), looks := true }, kinds := [], alts := [], laidByText := true, laidKinds := [.data], laidTests := true, laidLooks := .later }
def FnAttrsSeqUptoCardSaid : Prop := Claim7.holds Tryd.pinned (.plain (OpenSpec.upto fnAttrsSeqSpec)) fnAttrsSeqUptoCard

/-- THE SECOND FORM's CARD OF 'laws.FnAttrsMore'. -/
def fnAttrsMoreUptoCard : Claim7 := { stood := { row := fnAttrsMoreUptoRow, standIns := [], harness := (true, "8b95f4d5fcef3d1238e70e2cacae47dff7f3fc3d2522a5f68b2dca43c8ac0e0e"), looks := true }, kinds := [], alts := [], laidByText := true, laidKinds := [.data], laidTests := true, laidLooks := .later }
def FnAttrsMoreUptoCardSaid : Prop := Claim7.holds Tryd.pinned (.plain (OpenSpec.upto fnAttrsMoreSpec)) fnAttrsMoreUptoCard

/-- THE SECOND FORM's CARD OF 'laws.FnAttrsNone'. -/
def fnAttrsNoneUptoCard : Claim7 := { stood := { row := fnAttrsNoneUptoRow, standIns := [], harness := (true, "8b95f4d5fcef3d1238e70e2cacae47dff7f3fc3d2522a5f68b2dca43c8ac0e0e"), looks := true }, kinds := [], alts := [], laidByText := true, laidKinds := [.data], laidTests := true, laidLooks := .later }
def FnAttrsNoneUptoCardSaid : Prop := Claim7.holds Tryd.pinned (.plain (OpenSpec.upto fnAttrsNoneSpec)) fnAttrsNoneUptoCard

/-- THE SECOND FORM's CARD OF 'laws.FnExactLogAttrs'. -/
def fnExactLogAttrsUptoCard : Claim7 := { stood := { row := fnExactLogAttrsUptoRow, standIns := [], harness := (true, "8b95f4d5fcef3d1238e70e2cacae47dff7f3fc3d2522a5f68b2dca43c8ac0e0e"), looks := true }, kinds := [], alts := [], laidByText := true, laidKinds := [.data], laidTests := true, laidLooks := .later }
def FnExactLogAttrsUptoCardSaid : Prop := Claim7.holds Tryd.pinned (.plain (OpenSpec.upto fnExactLogAttrsSpec)) fnExactLogAttrsUptoCard
end Rows
end Go.Proofs.YtpckhghcjedblaaDoor
