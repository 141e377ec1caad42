/-
  DERIVED. GIVEN WITH THE SEED: THE CARDS: each row of YtlipmjbeiiifkaaDoorRows.lean that lists a variable, with what it lists TIED to the program's text (the seventh form; the later family's looks); each row that meets fmt, with fmt's text TOLD by the authors' own Lean function (tested against real Go, not proved from fmt's source: count such statements apart). THE CARD IS WHAT COUNTS. Prove the row's statement (the work); the ties are given (YtlipmjbeiiifkaaDoorTie.lean); close each card by the builder's one call (the guide's Derived/Test/ToyasCard.lean, 'card_holds'). Laid BY PROGRAM, IN A SANDBOX (cutbox-door.mjs). By AI agents, Wed Nov 11 2026. No macro, syntax, notation, axiom, sorry.
-/
import Derived.Test.YtlipmjbeiiifkaaDoorRows
import GoSem.ClaimSeven
namespace Go.Proofs.YtlipmjbeiiifkaaDoor
namespace Rows

/-- THE TIED CARD OF 'laws.FnPropose'. -/
def fnProposeCard : Claim7 := { stood := { row := fnProposeRow, standIns := [], harness := (true, "685e1b586cfaa6dcb3af5bb39b1b87e436d49cfa96c5a33127c9eca359de5ed7"), looks := true }, kinds := [], alts := [], laidByText := true, laidKinds := [.data], laidTests := true, laidLooks := .later }
def FnProposeCardSaid : Prop := Claim7.holds Tryd.pinned (.plain (OpenSpec.ofChange fnProposeSpec)) fnProposeCard

/-- THE TIED CARD OF 'laws.FnProposeAttrs'. -/
def fnProposeAttrsCard : Claim7 := { stood := { row := fnProposeAttrsRow, standIns := [], harness := (true, "685e1b586cfaa6dcb3af5bb39b1b87e436d49cfa96c5a33127c9eca359de5ed7"), looks := true }, kinds := [], alts := [], laidByText := true, laidKinds := [.data], laidTests := true, laidLooks := .later }
def FnProposeAttrsCardSaid : Prop := Claim7.holds Tryd.pinned (.plain (OpenSpec.ofChange fnProposeAttrsSpec)) fnProposeAttrsCard

/-- THE TIED CARD OF 'laws.FnProposeTwo'. -/
def fnProposeTwoCard : Claim7 := { stood := { row := fnProposeTwoRow, standIns := [], harness := (true, "685e1b586cfaa6dcb3af5bb39b1b87e436d49cfa96c5a33127c9eca359de5ed7"), looks := true }, kinds := [], alts := [], laidByText := true, laidKinds := [.data], laidTests := true, laidLooks := .later }
def FnProposeTwoCardSaid : Prop := Claim7.holds Tryd.pinned (.plain (OpenSpec.ofChange fnProposeTwoSpec)) fnProposeTwoCard

/-- THE TIED CARD OF 'laws.FnPreAccept'. -/
def fnPreAcceptCard : Claim7 := { stood := { row := fnPreAcceptRow, standIns := [], harness := (true, "685e1b586cfaa6dcb3af5bb39b1b87e436d49cfa96c5a33127c9eca359de5ed7"), looks := true }, kinds := [], alts := [], laidByText := true, laidKinds := [.data], laidTests := true, laidLooks := .later }
def FnPreAcceptCardSaid : Prop := Claim7.holds Tryd.pinned (.plain (OpenSpec.ofChange fnPreAcceptSpec)) fnPreAcceptCard

/-- THE TIED CARD OF 'laws.FnPreAcceptLog'. -/
def fnPreAcceptLogCard : Claim7 := { stood := { row := fnPreAcceptLogRow, standIns := [], harness := (true, "685e1b586cfaa6dcb3af5bb39b1b87e436d49cfa96c5a33127c9eca359de5ed7"), looks := true }, kinds := [], alts := [], laidByText := true, laidKinds := [.data], laidTests := true, laidLooks := .later }
def FnPreAcceptLogCardSaid : Prop := Claim7.holds Tryd.pinned (.plain (OpenSpec.ofChange fnPreAcceptLogSpec)) fnPreAcceptLogCard

/-- THE TIED CARD OF 'laws.FnPreAcceptAttrs'. -/
def fnPreAcceptAttrsCard : Claim7 := { stood := { row := fnPreAcceptAttrsRow, standIns := [], harness := (true, "685e1b586cfaa6dcb3af5bb39b1b87e436d49cfa96c5a33127c9eca359de5ed7"), looks := true }, kinds := [], alts := [], laidByText := true, laidKinds := [.data], laidTests := true, laidLooks := .later }
def FnPreAcceptAttrsCardSaid : Prop := Claim7.holds Tryd.pinned (.plain (OpenSpec.ofChange fnPreAcceptAttrsSpec)) fnPreAcceptAttrsCard

/-- THE TIED CARD OF 'laws.FnPreAcceptTwice'. -/
def fnPreAcceptTwiceCard : Claim7 := { stood := { row := fnPreAcceptTwiceRow, standIns := [], harness := (true, "685e1b586cfaa6dcb3af5bb39b1b87e436d49cfa96c5a33127c9eca359de5ed7"), looks := true }, kinds := [], alts := [], laidByText := true, laidKinds := [.data], laidTests := true, laidLooks := .later }
def FnPreAcceptTwiceCardSaid : Prop := Claim7.holds Tryd.pinned (.plain (OpenSpec.ofChange fnPreAcceptTwiceSpec)) fnPreAcceptTwiceCard

/-- THE SECOND FORM's CARD OF 'laws.FnPropose'. -/
def fnProposeUptoCard : Claim7 := { stood := { row := fnProposeUptoRow, standIns := [], harness := (true, "685e1b586cfaa6dcb3af5bb39b1b87e436d49cfa96c5a33127c9eca359de5ed7"), looks := true }, kinds := [], alts := [], laidByText := true, laidKinds := [.data], laidTests := true, laidLooks := .later }
def FnProposeUptoCardSaid : Prop := Claim7.holds Tryd.pinned (.plain (OpenSpec.upto fnProposeSpec)) fnProposeUptoCard

/-- THE SECOND FORM's CARD OF 'laws.FnProposeAttrs'. -/
def fnProposeAttrsUptoCard : Claim7 := { stood := { row := fnProposeAttrsUptoRow, standIns := [], harness := (true, "685e1b586cfaa6dcb3af5bb39b1b87e436d49cfa96c5a33127c9eca359de5ed7"), looks := true }, kinds := [], alts := [], laidByText := true, laidKinds := [.data], laidTests := true, laidLooks := .later }
def FnProposeAttrsUptoCardSaid : Prop := Claim7.holds Tryd.pinned (.plain (OpenSpec.upto fnProposeAttrsSpec)) fnProposeAttrsUptoCard

/-- THE SECOND FORM's CARD OF 'laws.FnProposeTwo'. -/
def fnProposeTwoUptoCard : Claim7 := { stood := { row := fnProposeTwoUptoRow, standIns := [], harness := (true, "685e1b586cfaa6dcb3af5bb39b1b87e436d49cfa96c5a33127c9eca359de5ed7"), looks := true }, kinds := [], alts := [], laidByText := true, laidKinds := [.data], laidTests := true, laidLooks := .later }
def FnProposeTwoUptoCardSaid : Prop := Claim7.holds Tryd.pinned (.plain (OpenSpec.upto fnProposeTwoSpec)) fnProposeTwoUptoCard

/-- THE SECOND FORM's CARD OF 'laws.FnPreAccept'. -/
def fnPreAcceptUptoCard : Claim7 := { stood := { row := fnPreAcceptUptoRow, standIns := [], harness := (true, "685e1b586cfaa6dcb3af5bb39b1b87e436d49cfa96c5a33127c9eca359de5ed7"), looks := true }, kinds := [], alts := [], laidByText := true, laidKinds := [.data], laidTests := true, laidLooks := .later }
def FnPreAcceptUptoCardSaid : Prop := Claim7.holds Tryd.pinned (.plain (OpenSpec.upto fnPreAcceptSpec)) fnPreAcceptUptoCard

/-- THE SECOND FORM's CARD OF 'laws.FnPreAcceptLog'. -/
def fnPreAcceptLogUptoCard : Claim7 := { stood := { row := fnPreAcceptLogUptoRow, standIns := [], harness := (true, "685e1b586cfaa6dcb3af5bb39b1b87e436d49cfa96c5a33127c9eca359de5ed7"), looks := true }, kinds := [], alts := [], laidByText := true, laidKinds := [.data], laidTests := true, laidLooks := .later }
def FnPreAcceptLogUptoCardSaid : Prop := Claim7.holds Tryd.pinned (.plain (OpenSpec.upto fnPreAcceptLogSpec)) fnPreAcceptLogUptoCard

/-- THE SECOND FORM's CARD OF 'laws.FnPreAcceptAttrs'. -/
def fnPreAcceptAttrsUptoCard : Claim7 := { stood := { row := fnPreAcceptAttrsUptoRow, standIns := [], harness := (true, "685e1b586cfaa6dcb3af5bb39b1b87e436d49cfa96c5a33127c9eca359de5ed7"), looks := true }, kinds := [], alts := [], laidByText := true, laidKinds := [.data], laidTests := true, laidLooks := .later }
def FnPreAcceptAttrsUptoCardSaid : Prop := Claim7.holds Tryd.pinned (.plain (OpenSpec.upto fnPreAcceptAttrsSpec)) fnPreAcceptAttrsUptoCard

/-- THE SECOND FORM's CARD OF 'laws.FnPreAcceptTwice'. -/
def fnPreAcceptTwiceUptoCard : Claim7 := { stood := { row := fnPreAcceptTwiceUptoRow, standIns := [], harness := (true, "685e1b586cfaa6dcb3af5bb39b1b87e436d49cfa96c5a33127c9eca359de5ed7"), looks := true }, kinds := [], alts := [], laidByText := true, laidKinds := [.data], laidTests := true, laidLooks := .later }
def FnPreAcceptTwiceUptoCardSaid : Prop := Claim7.holds Tryd.pinned (.plain (OpenSpec.upto fnPreAcceptTwiceSpec)) fnPreAcceptTwiceUptoCard
end Rows
end Go.Proofs.YtlipmjbeiiifkaaDoor
