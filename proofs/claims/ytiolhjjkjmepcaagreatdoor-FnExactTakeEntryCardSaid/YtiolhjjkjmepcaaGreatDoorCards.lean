/-
  DERIVED. GIVEN WITH THE SEED: THE CARDS: each row of YtiolhjjkjmepcaaGreatDoorRows.lean that lists a variable, with what it lists TIED to the program's text (the seventh form; the later family's looks); each row that meets fmt, with fmt's text TOLD by the authors' own Lean function (tested against real Go, not proved from fmt's source: count such statements apart). THE CARD IS WHAT COUNTS. Prove the row's statement (the work); the ties are given (YtiolhjjkjmepcaaGreatDoorTie.lean); close each card by the builder's one call (the guide's Derived/Test/ToyasCard.lean, 'card_holds'). Laid BY PROGRAM, IN A SANDBOX (cutbox-door.mjs). By AI agents, Wed Nov 11 2026. No macro, syntax, notation, axiom, sorry.
-/
import Derived.Test.YtiolhjjkjmepcaaGreatDoorRows
import GoSem.ClaimSeven
namespace Go.Proofs.YtiolhjjkjmepcaaGreatDoor
namespace Rows

/-- THE TIED CARD OF 'laws.FnTake'. -/
def fnTakeCard : Claim7 := { stood := { row := fnTakeRow, standIns := [], harness := (true, "a5fa97b1072cadbe861883befce9bc6472626b5036c7f5ea8944f8c44548da43"), looks := true }, kinds := [], alts := [], laidByText := true, laidKinds := [.sentinel, .sentinel], laidTests := true, laidLooks := .later }
def FnTakeCardSaid : Prop := Claim7.holds Tryz.pinned (.plain (OpenSpec.ofChange fnTakeSpec)) fnTakeCard

/-- THE TIED CARD OF 'laws.FnTakeOld'. -/
def fnTakeOldCard : Claim7 := { stood := { row := fnTakeOldRow, standIns := [], harness := (true, "a5fa97b1072cadbe861883befce9bc6472626b5036c7f5ea8944f8c44548da43"), looks := true }, kinds := [], alts := [], laidByText := true, laidKinds := [.sentinel, .sentinel], laidTests := true, laidLooks := .later }
def FnTakeOldCardSaid : Prop := Claim7.holds Tryz.pinned (.plain (OpenSpec.ofChange fnTakeOldSpec)) fnTakeOldCard

/-- THE TIED CARD OF 'laws.FnTakeFixed'. -/
def fnTakeFixedCard : Claim7 := { stood := { row := fnTakeFixedRow, standIns := [], harness := (true, "a5fa97b1072cadbe861883befce9bc6472626b5036c7f5ea8944f8c44548da43"), looks := true }, kinds := [], alts := [], laidByText := true, laidKinds := [.sentinel, .sentinel], laidTests := true, laidLooks := .later }
def FnTakeFixedCardSaid : Prop := Claim7.holds Tryz.pinned (.plain (OpenSpec.ofChange fnTakeFixedSpec)) fnTakeFixedCard

/-- THE TIED CARD OF 'laws.FnFix'. -/
def fnFixCard : Claim7 := { stood := { row := fnFixRow, standIns := [], harness := (true, "a5fa97b1072cadbe861883befce9bc6472626b5036c7f5ea8944f8c44548da43"), looks := true }, kinds := [], alts := [], laidByText := true, laidKinds := [.sentinel, .sentinel], laidTests := true, laidLooks := .later }
def FnFixCardSaid : Prop := Claim7.holds Tryz.pinned (.plain (OpenSpec.ofChange fnFixSpec)) fnFixCard

/-- THE TIED CARD OF 'laws.FnFixStay'. -/
def fnFixStayCard : Claim7 := { stood := { row := fnFixStayRow, standIns := [], harness := (true, "a5fa97b1072cadbe861883befce9bc6472626b5036c7f5ea8944f8c44548da43"), looks := true }, kinds := [], alts := [], laidByText := true, laidKinds := [.sentinel, .sentinel], laidTests := true, laidLooks := .later }
def FnFixStayCardSaid : Prop := Claim7.holds Tryz.pinned (.plain (OpenSpec.ofChange fnFixStaySpec)) fnFixStayCard

/-- THE TIED CARD OF 'laws.FnFixOthers'. -/
def fnFixOthersCard : Claim7 := { stood := { row := fnFixOthersRow, standIns := [], harness := (true, "a5fa97b1072cadbe861883befce9bc6472626b5036c7f5ea8944f8c44548da43"), looks := true }, kinds := [], alts := [], laidByText := true, laidKinds := [.sentinel, .sentinel], laidTests := true, laidLooks := .later }
def FnFixOthersCardSaid : Prop := Claim7.holds Tryz.pinned (.plain (OpenSpec.ofChange fnFixOthersSpec)) fnFixOthersCard

/-- THE TIED CARD OF 'laws.FnFixBallot'. -/
def fnFixBallotCard : Claim7 := { stood := { row := fnFixBallotRow, standIns := [], harness := (true, "a5fa97b1072cadbe861883befce9bc6472626b5036c7f5ea8944f8c44548da43"), looks := true }, kinds := [], alts := [], laidByText := true, laidKinds := [.sentinel, .sentinel], laidTests := true, laidLooks := .later }
def FnFixBallotCardSaid : Prop := Claim7.holds Tryz.pinned (.plain (OpenSpec.ofChange fnFixBallotSpec)) fnFixBallotCard

/-- THE TIED CARD OF 'laws.FnExactTakeEntry'. -/
def fnExactTakeEntryCard : Claim7 := { stood := { row := fnExactTakeEntryRow, standIns := [], harness := (true, "a5fa97b1072cadbe861883befce9bc6472626b5036c7f5ea8944f8c44548da43"), looks := true }, kinds := [], alts := [], laidByText := true, laidKinds := [.sentinel, .sentinel], laidTests := true, laidLooks := .later }
def FnExactTakeEntryCardSaid : Prop := Claim7.holds Tryz.pinned (.plain (OpenSpec.ofChange fnExactTakeEntrySpec)) fnExactTakeEntryCard

/-- THE TIED CARD OF 'laws.FnExactFixEntry'. -/
def fnExactFixEntryCard : Claim7 := { stood := { row := fnExactFixEntryRow, standIns := [], harness := (true, "a5fa97b1072cadbe861883befce9bc6472626b5036c7f5ea8944f8c44548da43"), looks := true }, kinds := [], alts := [], laidByText := true, laidKinds := [.sentinel, .sentinel], laidTests := true, laidLooks := .later }
def FnExactFixEntryCardSaid : Prop := Claim7.holds Tryz.pinned (.plain (OpenSpec.ofChange fnExactFixEntrySpec)) fnExactFixEntryCard

/-- THE SECOND FORM's CARD OF 'laws.FnTake'. -/
def fnTakeUptoCard : Claim7 := { stood := { row := fnTakeUptoRow, standIns := [], harness := (true, "a5fa97b1072cadbe861883befce9bc6472626b5036c7f5ea8944f8c44548da43"), looks := true }, kinds := [], alts := [], laidByText := true, laidKinds := [.sentinel, .sentinel], laidTests := true, laidLooks := .later }
def FnTakeUptoCardSaid : Prop := Claim7.holds Tryz.pinned (.plain (OpenSpec.upto fnTakeSpec)) fnTakeUptoCard

/-- THE SECOND FORM's CARD OF 'laws.FnTakeOld'. -/
def fnTakeOldUptoCard : Claim7 := { stood := { row := fnTakeOldUptoRow, standIns := [], harness := (true, "a5fa97b1072cadbe861883befce9bc6472626b5036c7f5ea8944f8c44548da43"), looks := true }, kinds := [], alts := [], laidByText := true, laidKinds := [.sentinel, .sentinel], laidTests := true, laidLooks := .later }
def FnTakeOldUptoCardSaid : Prop := Claim7.holds Tryz.pinned (.plain (OpenSpec.upto fnTakeOldSpec)) fnTakeOldUptoCard

/-- THE SECOND FORM's CARD OF 'laws.FnTakeFixed'. -/
def fnTakeFixedUptoCard : Claim7 := { stood := { row := fnTakeFixedUptoRow, standIns := [], harness := (true, "a5fa97b1072cadbe861883befce9bc6472626b5036c7f5ea8944f8c44548da43"), looks := true }, kinds := [], alts := [], laidByText := true, laidKinds := [.sentinel, .sentinel], laidTests := true, laidLooks := .later }
def FnTakeFixedUptoCardSaid : Prop := Claim7.holds Tryz.pinned (.plain (OpenSpec.upto fnTakeFixedSpec)) fnTakeFixedUptoCard

/-- THE SECOND FORM's CARD OF 'laws.FnFix'. -/
def fnFixUptoCard : Claim7 := { stood := { row := fnFixUptoRow, standIns := [], harness := (true, "a5fa97b1072cadbe861883befce9bc6472626b5036c7f5ea8944f8c44548da43"), looks := true }, kinds := [], alts := [], laidByText := true, laidKinds := [.sentinel, .sentinel], laidTests := true, laidLooks := .later }
def FnFixUptoCardSaid : Prop := Claim7.holds Tryz.pinned (.plain (OpenSpec.upto fnFixSpec)) fnFixUptoCard

/-- THE SECOND FORM's CARD OF 'laws.FnFixStay'. -/
def fnFixStayUptoCard : Claim7 := { stood := { row := fnFixStayUptoRow, standIns := [], harness := (true, "a5fa97b1072cadbe861883befce9bc6472626b5036c7f5ea8944f8c44548da43"), looks := true }, kinds := [], alts := [], laidByText := true, laidKinds := [.sentinel, .sentinel], laidTests := true, laidLooks := .later }
def FnFixStayUptoCardSaid : Prop := Claim7.holds Tryz.pinned (.plain (OpenSpec.upto fnFixStaySpec)) fnFixStayUptoCard

/-- THE SECOND FORM's CARD OF 'laws.FnFixOthers'. -/
def fnFixOthersUptoCard : Claim7 := { stood := { row := fnFixOthersUptoRow, standIns := [], harness := (true, "a5fa97b1072cadbe861883befce9bc6472626b5036c7f5ea8944f8c44548da43"), looks := true }, kinds := [], alts := [], laidByText := true, laidKinds := [.sentinel, .sentinel], laidTests := true, laidLooks := .later }
def FnFixOthersUptoCardSaid : Prop := Claim7.holds Tryz.pinned (.plain (OpenSpec.upto fnFixOthersSpec)) fnFixOthersUptoCard

/-- THE SECOND FORM's CARD OF 'laws.FnFixBallot'. -/
def fnFixBallotUptoCard : Claim7 := { stood := { row := fnFixBallotUptoRow, standIns := [], harness := (true, "a5fa97b1072cadbe861883befce9bc6472626b5036c7f5ea8944f8c44548da43"), looks := true }, kinds := [], alts := [], laidByText := true, laidKinds := [.sentinel, .sentinel], laidTests := true, laidLooks := .later }
def FnFixBallotUptoCardSaid : Prop := Claim7.holds Tryz.pinned (.plain (OpenSpec.upto fnFixBallotSpec)) fnFixBallotUptoCard

/-- THE SECOND FORM's CARD OF 'laws.FnExactTakeEntry'. -/
def fnExactTakeEntryUptoCard : Claim7 := { stood := { row := fnExactTakeEntryUptoRow, standIns := [], harness := (true, "a5fa97b1072cadbe861883befce9bc6472626b5036c7f5ea8944f8c44548da43"), looks := true }, kinds := [], alts := [], laidByText := true, laidKinds := [.sentinel, .sentinel], laidTests := true, laidLooks := .later }
def FnExactTakeEntryUptoCardSaid : Prop := Claim7.holds Tryz.pinned (.plain (OpenSpec.upto fnExactTakeEntrySpec)) fnExactTakeEntryUptoCard

/-- THE SECOND FORM's CARD OF 'laws.FnExactFixEntry'. -/
def fnExactFixEntryUptoCard : Claim7 := { stood := { row := fnExactFixEntryUptoRow, standIns := [], harness := (true, "a5fa97b1072cadbe861883befce9bc6472626b5036c7f5ea8944f8c44548da43"), looks := true }, kinds := [], alts := [], laidByText := true, laidKinds := [.sentinel, .sentinel], laidTests := true, laidLooks := .later }
def FnExactFixEntryUptoCardSaid : Prop := Claim7.holds Tryz.pinned (.plain (OpenSpec.upto fnExactFixEntrySpec)) fnExactFixEntryUptoCard
end Rows
end Go.Proofs.YtiolhjjkjmepcaaGreatDoor
