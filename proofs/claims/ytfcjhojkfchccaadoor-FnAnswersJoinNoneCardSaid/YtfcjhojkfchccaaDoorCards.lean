/-
  DERIVED. GIVEN WITH THE SEED: THE CARDS: each row of YtfcjhojkfchccaaDoorRows.lean that lists a variable, with what it lists TIED to the program's text (the seventh form; the later family's looks); each row that meets fmt, with fmt's text TOLD by the authors' own Lean function (tested against real Go, not proved from fmt's source: count such statements apart). THE CARD IS WHAT COUNTS. Prove the row's statement (the work); the ties are given (YtfcjhojkfchccaaDoorTie.lean); close each card by the builder's one call (the guide's Derived/Test/ToyasCard.lean, 'card_holds'). Laid BY PROGRAM, IN A SANDBOX (cutbox-door.mjs). By AI agents, Wed Nov 11 2026. No macro, syntax, notation, axiom, sorry.
-/
import Derived.Test.YtfcjhojkfchccaaDoorRows
import GoSem.ClaimSeven
namespace Go.Proofs.YtfcjhojkfchccaaDoor
namespace Rows

/-- THE TIED CARD OF 'laws.FnAnswersJoin'. -/
def fnAnswersJoinCard : Claim7 := { stood := { row := fnAnswersJoinRow, standIns := [], harness := (true, "045b1cd95332cca93bf6eb733f0393c7a0f92cf79180db33dbaf3d6d9d1b38d6"), looks := false }, kinds := [], alts := [], laidByText := true, laidKinds := [.data], laidTests := true, laidLooks := .later }
def FnAnswersJoinCardSaid : Prop := Claim7.holds Tryd.pinned (.plain (OpenSpec.ofChange fnAnswersJoinSpec)) fnAnswersJoinCard

/-- THE TIED CARD OF 'laws.FnAnswersJoinOnly'. -/
def fnAnswersJoinOnlyCard : Claim7 := { stood := { row := fnAnswersJoinOnlyRow, standIns := [], harness := (true, "045b1cd95332cca93bf6eb733f0393c7a0f92cf79180db33dbaf3d6d9d1b38d6"), looks := false }, kinds := [], alts := [], laidByText := true, laidKinds := [.data], laidTests := true, laidLooks := .later }
def FnAnswersJoinOnlyCardSaid : Prop := Claim7.holds Tryd.pinned (.plain (OpenSpec.ofChange fnAnswersJoinOnlySpec)) fnAnswersJoinOnlyCard

/-- THE TIED CARD OF 'laws.FnAnswersJoinNone'. -/
def fnAnswersJoinNoneCard : Claim7 := { stood := { row := fnAnswersJoinNoneRow, standIns := [], harness := (true, "045b1cd95332cca93bf6eb733f0393c7a0f92cf79180db33dbaf3d6d9d1b38d6"), looks := false }, kinds := [], alts := [], laidByText := true, laidKinds := [.data], laidTests := true, laidLooks := .later }
def FnAnswersJoinNoneCardSaid : Prop := Claim7.holds Tryd.pinned (.plain (OpenSpec.ofChange fnAnswersJoinNoneSpec)) fnAnswersJoinNoneCard

/-- THE TIED CARD OF 'laws.FnPath'. -/
def fnPathCard : Claim7 := { stood := { row := fnPathRow, standIns := [], harness := (true, "045b1cd95332cca93bf6eb733f0393c7a0f92cf79180db33dbaf3d6d9d1b38d6"), looks := false }, kinds := [], alts := [], laidByText := true, laidKinds := [.data], laidTests := true, laidLooks := .later }
def FnPathCardSaid : Prop := Claim7.holds Tryd.pinned (.plain (OpenSpec.ofChange fnPathSpec)) fnPathCard

/-- THE TIED CARD OF 'laws.FnExactAnswersJoin'. -/
def fnExactAnswersJoinCard : Claim7 := { stood := { row := fnExactAnswersJoinRow, standIns := [], harness := (true, "045b1cd95332cca93bf6eb733f0393c7a0f92cf79180db33dbaf3d6d9d1b38d6"), looks := false }, kinds := [], alts := [], laidByText := true, laidKinds := [.data], laidTests := true, laidLooks := .later }
def FnExactAnswersJoinCardSaid : Prop := Claim7.holds Tryd.pinned (.plain (OpenSpec.ofChange fnExactAnswersJoinSpec)) fnExactAnswersJoinCard

/-- THE SECOND FORM's CARD OF 'laws.FnAnswersJoin'. -/
def fnAnswersJoinUptoCard : Claim7 := { stood := { row := fnAnswersJoinUptoRow, standIns := [], harness := (true, "045b1cd95332cca93bf6eb733f0393c7a0f92cf79180db33dbaf3d6d9d1b38d6"), looks := false }, kinds := [], alts := [], laidByText := true, laidKinds := [.data], laidTests := true, laidLooks := .later }
def FnAnswersJoinUptoCardSaid : Prop := Claim7.holds Tryd.pinned (.plain (OpenSpec.upto fnAnswersJoinSpec)) fnAnswersJoinUptoCard

/-- THE SECOND FORM's CARD OF 'laws.FnAnswersJoinOnly'. -/
def fnAnswersJoinOnlyUptoCard : Claim7 := { stood := { row := fnAnswersJoinOnlyUptoRow, standIns := [], harness := (true, "045b1cd95332cca93bf6eb733f0393c7a0f92cf79180db33dbaf3d6d9d1b38d6"), looks := false }, kinds := [], alts := [], laidByText := true, laidKinds := [.data], laidTests := true, laidLooks := .later }
def FnAnswersJoinOnlyUptoCardSaid : Prop := Claim7.holds Tryd.pinned (.plain (OpenSpec.upto fnAnswersJoinOnlySpec)) fnAnswersJoinOnlyUptoCard

/-- THE SECOND FORM's CARD OF 'laws.FnAnswersJoinNone'. -/
def fnAnswersJoinNoneUptoCard : Claim7 := { stood := { row := fnAnswersJoinNoneUptoRow, standIns := [], harness := (true, "045b1cd95332cca93bf6eb733f0393c7a0f92cf79180db33dbaf3d6d9d1b38d6"), looks := false }, kinds := [], alts := [], laidByText := true, laidKinds := [.data], laidTests := true, laidLooks := .later }
def FnAnswersJoinNoneUptoCardSaid : Prop := Claim7.holds Tryd.pinned (.plain (OpenSpec.upto fnAnswersJoinNoneSpec)) fnAnswersJoinNoneUptoCard

/-- THE SECOND FORM's CARD OF 'laws.FnPath'. -/
def fnPathUptoCard : Claim7 := { stood := { row := fnPathUptoRow, standIns := [], harness := (true, "045b1cd95332cca93bf6eb733f0393c7a0f92cf79180db33dbaf3d6d9d1b38d6"), looks := false }, kinds := [], alts := [], laidByText := true, laidKinds := [.data], laidTests := true, laidLooks := .later }
def FnPathUptoCardSaid : Prop := Claim7.holds Tryd.pinned (.plain (OpenSpec.upto fnPathSpec)) fnPathUptoCard

/-- THE SECOND FORM's CARD OF 'laws.FnExactAnswersJoin'. -/
def fnExactAnswersJoinUptoCard : Claim7 := { stood := { row := fnExactAnswersJoinUptoRow, standIns := [], harness := (true, "045b1cd95332cca93bf6eb733f0393c7a0f92cf79180db33dbaf3d6d9d1b38d6"), looks := false }, kinds := [], alts := [], laidByText := true, laidKinds := [.data], laidTests := true, laidLooks := .later }
def FnExactAnswersJoinUptoCardSaid : Prop := Claim7.holds Tryd.pinned (.plain (OpenSpec.upto fnExactAnswersJoinSpec)) fnExactAnswersJoinUptoCard
end Rows
end Go.Proofs.YtfcjhojkfchccaaDoor
