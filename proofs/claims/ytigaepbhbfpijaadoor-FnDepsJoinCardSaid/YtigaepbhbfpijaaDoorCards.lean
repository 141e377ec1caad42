/-
  DERIVED. GIVEN WITH THE SEED: THE CARDS: each row of YtigaepbhbfpijaaDoorRows.lean that lists a variable, with what it lists TIED to the program's text (the seventh form; the later family's looks); each row that meets fmt, with fmt's text TOLD by the authors' own Lean function (tested against real Go, not proved from fmt's source: count such statements apart). THE CARD IS WHAT COUNTS. Prove the row's statement (the work); the ties are given (YtigaepbhbfpijaaDoorTie.lean); close each card by the builder's one call (the guide's Derived/Test/ToyasCard.lean, 'card_holds'). Laid BY PROGRAM, IN A SANDBOX (cutbox-door.mjs). By AI agents, Wed Nov 11 2026. No macro, syntax, notation, axiom, sorry.
-/
import Derived.Test.YtigaepbhbfpijaaDoorRows
import GoSem.ClaimSeven
namespace Go.Proofs.YtigaepbhbfpijaaDoor
namespace Rows

/-- THE TIED CARD OF 'laws.FnDepsJoin'. -/
def fnDepsJoinCard : Claim7 := { stood := { row := fnDepsJoinRow, standIns := [], harness := (true, "0bb4451d617572e5eb1ec9070632176137c27f2ff6e449b989110bc70e69a8d4"), looks := false }, kinds := [], alts := [], laidByText := true, laidKinds := [.data], laidTests := true, laidLooks := .later }
def FnDepsJoinCardSaid : Prop := Claim7.holds Tryd.pinned (.plain (OpenSpec.ofChange fnDepsJoinSpec)) fnDepsJoinCard

/-- THE TIED CARD OF 'laws.FnDepsJoinBoth'. -/
def fnDepsJoinBothCard : Claim7 := { stood := { row := fnDepsJoinBothRow, standIns := [], harness := (true, "0bb4451d617572e5eb1ec9070632176137c27f2ff6e449b989110bc70e69a8d4"), looks := false }, kinds := [], alts := [], laidByText := true, laidKinds := [.data], laidTests := true, laidLooks := .later }
def FnDepsJoinBothCardSaid : Prop := Claim7.holds Tryd.pinned (.plain (OpenSpec.ofChange fnDepsJoinBothSpec)) fnDepsJoinBothCard

/-- THE TIED CARD OF 'laws.FnDepsJoinNone'. -/
def fnDepsJoinNoneCard : Claim7 := { stood := { row := fnDepsJoinNoneRow, standIns := [], harness := (true, "0bb4451d617572e5eb1ec9070632176137c27f2ff6e449b989110bc70e69a8d4"), looks := false }, kinds := [], alts := [], laidByText := true, laidKinds := [.data], laidTests := true, laidLooks := .later }
def FnDepsJoinNoneCardSaid : Prop := Claim7.holds Tryd.pinned (.plain (OpenSpec.ofChange fnDepsJoinNoneSpec)) fnDepsJoinNoneCard

/-- THE TIED CARD OF 'laws.FnWithin'. -/
def fnWithinCard : Claim7 := { stood := { row := fnWithinRow, standIns := [], harness := (true, "0bb4451d617572e5eb1ec9070632176137c27f2ff6e449b989110bc70e69a8d4"), looks := false }, kinds := [], alts := [], laidByText := true, laidKinds := [.data], laidTests := true, laidLooks := .later }
def FnWithinCardSaid : Prop := Claim7.holds Tryd.pinned (.plain (OpenSpec.ofChange fnWithinSpec)) fnWithinCard

/-- THE TIED CARD OF 'laws.FnLatest'. -/
def fnLatestCard : Claim7 := { stood := { row := fnLatestRow, standIns := [], harness := (true, "0bb4451d617572e5eb1ec9070632176137c27f2ff6e449b989110bc70e69a8d4"), looks := false }, kinds := [], alts := [], laidByText := true, laidKinds := [.data], laidTests := true, laidLooks := .later }
def FnLatestCardSaid : Prop := Claim7.holds Tryd.pinned (.plain (OpenSpec.ofChange fnLatestSpec)) fnLatestCard

/-- THE TIED CARD OF 'laws.FnLatestAll'. -/
def fnLatestAllCard : Claim7 := { stood := { row := fnLatestAllRow, standIns := [], harness := (true, "0bb4451d617572e5eb1ec9070632176137c27f2ff6e449b989110bc70e69a8d4"), looks := false }, kinds := [], alts := [], laidByText := true, laidKinds := [.data], laidTests := true, laidLooks := .later }
def FnLatestAllCardSaid : Prop := Claim7.holds Tryd.pinned (.plain (OpenSpec.ofChange fnLatestAllSpec)) fnLatestAllCard

/-- THE TIED CARD OF 'laws.FnExactDepsJoin'. -/
def fnExactDepsJoinCard : Claim7 := { stood := { row := fnExactDepsJoinRow, standIns := [], harness := (true, "0bb4451d617572e5eb1ec9070632176137c27f2ff6e449b989110bc70e69a8d4"), looks := false }, kinds := [], alts := [], laidByText := true, laidKinds := [.data], laidTests := true, laidLooks := .later }
def FnExactDepsJoinCardSaid : Prop := Claim7.holds Tryd.pinned (.plain (OpenSpec.ofChange fnExactDepsJoinSpec)) fnExactDepsJoinCard

/-- THE TIED CARD OF 'laws.FnExactDepsLatest'. -/
def fnExactDepsLatestCard : Claim7 := { stood := { row := fnExactDepsLatestRow, standIns := [], harness := (true, "0bb4451d617572e5eb1ec9070632176137c27f2ff6e449b989110bc70e69a8d4"), looks := false }, kinds := [], alts := [], laidByText := true, laidKinds := [.data], laidTests := true, laidLooks := .later }
def FnExactDepsLatestCardSaid : Prop := Claim7.holds Tryd.pinned (.plain (OpenSpec.ofChange fnExactDepsLatestSpec)) fnExactDepsLatestCard

/-- THE SECOND FORM's CARD OF 'laws.FnDepsJoin'. -/
def fnDepsJoinUptoCard : Claim7 := { stood := { row := fnDepsJoinUptoRow, standIns := [], harness := (true, "0bb4451d617572e5eb1ec9070632176137c27f2ff6e449b989110bc70e69a8d4"), looks := false }, kinds := [], alts := [], laidByText := true, laidKinds := [.data], laidTests := true, laidLooks := .later }
def FnDepsJoinUptoCardSaid : Prop := Claim7.holds Tryd.pinned (.plain (OpenSpec.upto fnDepsJoinSpec)) fnDepsJoinUptoCard

/-- THE SECOND FORM's CARD OF 'laws.FnDepsJoinBoth'. -/
def fnDepsJoinBothUptoCard : Claim7 := { stood := { row := fnDepsJoinBothUptoRow, standIns := [], harness := (true, "0bb4451d617572e5eb1ec9070632176137c27f2ff6e449b989110bc70e69a8d4"), looks := false }, kinds := [], alts := [], laidByText := true, laidKinds := [.data], laidTests := true, laidLooks := .later }
def FnDepsJoinBothUptoCardSaid : Prop := Claim7.holds Tryd.pinned (.plain (OpenSpec.upto fnDepsJoinBothSpec)) fnDepsJoinBothUptoCard

/-- THE SECOND FORM's CARD OF 'laws.FnDepsJoinNone'. -/
def fnDepsJoinNoneUptoCard : Claim7 := { stood := { row := fnDepsJoinNoneUptoRow, standIns := [], harness := (true, "0bb4451d617572e5eb1ec9070632176137c27f2ff6e449b989110bc70e69a8d4"), looks := false }, kinds := [], alts := [], laidByText := true, laidKinds := [.data], laidTests := true, laidLooks := .later }
def FnDepsJoinNoneUptoCardSaid : Prop := Claim7.holds Tryd.pinned (.plain (OpenSpec.upto fnDepsJoinNoneSpec)) fnDepsJoinNoneUptoCard

/-- THE SECOND FORM's CARD OF 'laws.FnWithin'. -/
def fnWithinUptoCard : Claim7 := { stood := { row := fnWithinUptoRow, standIns := [], harness := (true, "0bb4451d617572e5eb1ec9070632176137c27f2ff6e449b989110bc70e69a8d4"), looks := false }, kinds := [], alts := [], laidByText := true, laidKinds := [.data], laidTests := true, laidLooks := .later }
def FnWithinUptoCardSaid : Prop := Claim7.holds Tryd.pinned (.plain (OpenSpec.upto fnWithinSpec)) fnWithinUptoCard

/-- THE SECOND FORM's CARD OF 'laws.FnLatest'. -/
def fnLatestUptoCard : Claim7 := { stood := { row := fnLatestUptoRow, standIns := [], harness := (true, "0bb4451d617572e5eb1ec9070632176137c27f2ff6e449b989110bc70e69a8d4"), looks := false }, kinds := [], alts := [], laidByText := true, laidKinds := [.data], laidTests := true, laidLooks := .later }
def FnLatestUptoCardSaid : Prop := Claim7.holds Tryd.pinned (.plain (OpenSpec.upto fnLatestSpec)) fnLatestUptoCard

/-- THE SECOND FORM's CARD OF 'laws.FnLatestAll'. -/
def fnLatestAllUptoCard : Claim7 := { stood := { row := fnLatestAllUptoRow, standIns := [], harness := (true, "0bb4451d617572e5eb1ec9070632176137c27f2ff6e449b989110bc70e69a8d4"), looks := false }, kinds := [], alts := [], laidByText := true, laidKinds := [.data], laidTests := true, laidLooks := .later }
def FnLatestAllUptoCardSaid : Prop := Claim7.holds Tryd.pinned (.plain (OpenSpec.upto fnLatestAllSpec)) fnLatestAllUptoCard

/-- THE SECOND FORM's CARD OF 'laws.FnExactDepsJoin'. -/
def fnExactDepsJoinUptoCard : Claim7 := { stood := { row := fnExactDepsJoinUptoRow, standIns := [], harness := (true, "0bb4451d617572e5eb1ec9070632176137c27f2ff6e449b989110bc70e69a8d4"), looks := false }, kinds := [], alts := [], laidByText := true, laidKinds := [.data], laidTests := true, laidLooks := .later }
def FnExactDepsJoinUptoCardSaid : Prop := Claim7.holds Tryd.pinned (.plain (OpenSpec.upto fnExactDepsJoinSpec)) fnExactDepsJoinUptoCard

/-- THE SECOND FORM's CARD OF 'laws.FnExactDepsLatest'. -/
def fnExactDepsLatestUptoCard : Claim7 := { stood := { row := fnExactDepsLatestUptoRow, standIns := [], harness := (true, "0bb4451d617572e5eb1ec9070632176137c27f2ff6e449b989110bc70e69a8d4"), looks := false }, kinds := [], alts := [], laidByText := true, laidKinds := [.data], laidTests := true, laidLooks := .later }
def FnExactDepsLatestUptoCardSaid : Prop := Claim7.holds Tryd.pinned (.plain (OpenSpec.upto fnExactDepsLatestSpec)) fnExactDepsLatestUptoCard
end Rows
end Go.Proofs.YtigaepbhbfpijaaDoor
