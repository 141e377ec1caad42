/-
  DERIVED. GIVEN WITH THE SEED: THE CARDS: each row of YtbbnchodchgioaaDoorRows.lean that lists a variable, with what it lists TIED to the program's text (the seventh form; the later family's looks); each row that meets fmt, with fmt's text TOLD by the authors' own Lean function (tested against real Go, not proved from fmt's source: count such statements apart). THE CARD IS WHAT COUNTS. Prove the row's statement (the work); the ties are given (YtbbnchodchgioaaDoorTie.lean); close each card by the builder's one call (the guide's Derived/Test/ToyasCard.lean, 'card_holds'). Laid BY PROGRAM, IN A SANDBOX (cutbox-door.mjs). By AI agents, Wed Nov 11 2026. No macro, syntax, notation, axiom, sorry.
-/
import Derived.Test.YtbbnchodchgioaaDoorRows
import GoSem.ClaimSeven
namespace Go.Proofs.YtbbnchodchgioaaDoor
namespace Rows

/-- THE TIED CARD OF 'laws.FnReach'. -/
def fnReachCard : Claim7 := { stood := { row := fnReachRow, standIns := [], harness := (true, "ecf3bc8dbaf8a4056bbf3eb27cd15ea981554285fa9cd658a053e69abb4aed39"), looks := false }, kinds := [], alts := [], laidByText := true, laidKinds := [.data], laidTests := true, laidLooks := .later }
def FnReachCardSaid : Prop := Claim7.holds Tryd.pinned (.plain (OpenSpec.ofChange fnReachSpec)) fnReachCard

/-- THE TIED CARD OF 'laws.FnReachAll'. -/
def fnReachAllCard : Claim7 := { stood := { row := fnReachAllRow, standIns := [], harness := (true, "ecf3bc8dbaf8a4056bbf3eb27cd15ea981554285fa9cd658a053e69abb4aed39"), looks := false }, kinds := [], alts := [], laidByText := true, laidKinds := [.data], laidTests := true, laidLooks := .later }
def FnReachAllCardSaid : Prop := Claim7.holds Tryd.pinned (.plain (OpenSpec.ofChange fnReachAllSpec)) fnReachAllCard

/-- THE TIED CARD OF 'laws.FnReachOn'. -/
def fnReachOnCard : Claim7 := { stood := { row := fnReachOnRow, standIns := [], harness := (true, "ecf3bc8dbaf8a4056bbf3eb27cd15ea981554285fa9cd658a053e69abb4aed39"), looks := false }, kinds := [], alts := [], laidByText := true, laidKinds := [.data], laidTests := true, laidLooks := .later }
def FnReachOnCardSaid : Prop := Claim7.holds Tryd.pinned (.plain (OpenSpec.ofChange fnReachOnSpec)) fnReachOnCard

/-- THE TIED CARD OF 'laws.FnGroup'. -/
def fnGroupCard : Claim7 := { stood := { row := fnGroupRow, standIns := [], harness := (true, "ecf3bc8dbaf8a4056bbf3eb27cd15ea981554285fa9cd658a053e69abb4aed39"), looks := false }, kinds := [], alts := [], laidByText := true, laidKinds := [.data], laidTests := true, laidLooks := .later }
def FnGroupCardSaid : Prop := Claim7.holds Tryd.pinned (.plain (OpenSpec.ofChange fnGroupSpec)) fnGroupCard

/-- THE TIED CARD OF 'laws.FnGroupSame'. -/
def fnGroupSameCard : Claim7 := { stood := { row := fnGroupSameRow, standIns := [], harness := (true, "ecf3bc8dbaf8a4056bbf3eb27cd15ea981554285fa9cd658a053e69abb4aed39"), looks := false }, kinds := [], alts := [], laidByText := true, laidKinds := [.data], laidTests := true, laidLooks := .later }
def FnGroupSameCardSaid : Prop := Claim7.holds Tryd.pinned (.plain (OpenSpec.ofChange fnGroupSameSpec)) fnGroupSameCard

/-- THE TIED CARD OF 'laws.FnReady'. -/
def fnReadyCard : Claim7 := { stood := { row := fnReadyRow, standIns := [], harness := (true, "ecf3bc8dbaf8a4056bbf3eb27cd15ea981554285fa9cd658a053e69abb4aed39"), looks := false }, kinds := [], alts := [], laidByText := true, laidKinds := [.data], laidTests := true, laidLooks := .later }
def FnReadyCardSaid : Prop := Claim7.holds Tryd.pinned (.plain (OpenSpec.ofChange fnReadySpec)) fnReadyCard

/-- THE TIED CARD OF 'laws.FnReadyWhen'. -/
def fnReadyWhenCard : Claim7 := { stood := { row := fnReadyWhenRow, standIns := [], harness := (true, "ecf3bc8dbaf8a4056bbf3eb27cd15ea981554285fa9cd658a053e69abb4aed39"), looks := false }, kinds := [], alts := [], laidByText := true, laidKinds := [.data], laidTests := true, laidLooks := .later }
def FnReadyWhenCardSaid : Prop := Claim7.holds Tryd.pinned (.plain (OpenSpec.ofChange fnReadyWhenSpec)) fnReadyWhenCard

/-- THE TIED CARD OF 'laws.FnOrderDeps'. -/
def fnOrderDepsCard : Claim7 := { stood := { row := fnOrderDepsRow, standIns := [], harness := (true, "ecf3bc8dbaf8a4056bbf3eb27cd15ea981554285fa9cd658a053e69abb4aed39"), looks := false }, kinds := [], alts := [], laidByText := true, laidKinds := [.data], laidTests := true, laidLooks := .later }
def FnOrderDepsCardSaid : Prop := Claim7.holds Tryd.pinned (.plain (OpenSpec.ofChange fnOrderDepsSpec)) fnOrderDepsCard

/-- THE TIED CARD OF 'laws.FnOrderGroup'. -/
def fnOrderGroupCard : Claim7 := { stood := { row := fnOrderGroupRow, standIns := [], harness := (true, "ecf3bc8dbaf8a4056bbf3eb27cd15ea981554285fa9cd658a053e69abb4aed39"), looks := false }, kinds := [], alts := [], laidByText := true, laidKinds := [.data], laidTests := true, laidLooks := .later }
def FnOrderGroupCardSaid : Prop := Claim7.holds Tryd.pinned (.plain (OpenSpec.ofChange fnOrderGroupSpec)) fnOrderGroupCard

/-- THE TIED CARD OF 'laws.FnExactNodesReach'. -/
def fnExactNodesReachCard : Claim7 := { stood := { row := fnExactNodesReachRow, standIns := [], harness := (true, "ecf3bc8dbaf8a4056bbf3eb27cd15ea981554285fa9cd658a053e69abb4aed39"), looks := false }, kinds := [], alts := [], laidByText := true, laidKinds := [.data], laidTests := true, laidLooks := .later }
def FnExactNodesReachCardSaid : Prop := Claim7.holds Tryd.pinned (.plain (OpenSpec.ofChange fnExactNodesReachSpec)) fnExactNodesReachCard

/-- THE TIED CARD OF 'laws.FnExactNodesGroup'. -/
def fnExactNodesGroupCard : Claim7 := { stood := { row := fnExactNodesGroupRow, standIns := [], harness := (true, "ecf3bc8dbaf8a4056bbf3eb27cd15ea981554285fa9cd658a053e69abb4aed39"), looks := false }, kinds := [], alts := [], laidByText := true, laidKinds := [.data], laidTests := true, laidLooks := .later }
def FnExactNodesGroupCardSaid : Prop := Claim7.holds Tryd.pinned (.plain (OpenSpec.ofChange fnExactNodesGroupSpec)) fnExactNodesGroupCard

/-- THE SECOND FORM's CARD OF 'laws.FnReach'. -/
def fnReachUptoCard : Claim7 := { stood := { row := fnReachUptoRow, standIns := [], harness := (true, "ecf3bc8dbaf8a4056bbf3eb27cd15ea981554285fa9cd658a053e69abb4aed39"), looks := false }, kinds := [], alts := [], laidByText := true, laidKinds := [.data], laidTests := true, laidLooks := .later }
def FnReachUptoCardSaid : Prop := Claim7.holds Tryd.pinned (.plain (OpenSpec.upto fnReachSpec)) fnReachUptoCard

/-- THE SECOND FORM's CARD OF 'laws.FnReachAll'. -/
def fnReachAllUptoCard : Claim7 := { stood := { row := fnReachAllUptoRow, standIns := [], harness := (true, "ecf3bc8dbaf8a4056bbf3eb27cd15ea981554285fa9cd658a053e69abb4aed39"), looks := false }, kinds := [], alts := [], laidByText := true, laidKinds := [.data], laidTests := true, laidLooks := .later }
def FnReachAllUptoCardSaid : Prop := Claim7.holds Tryd.pinned (.plain (OpenSpec.upto fnReachAllSpec)) fnReachAllUptoCard

/-- THE SECOND FORM's CARD OF 'laws.FnReachOn'. -/
def fnReachOnUptoCard : Claim7 := { stood := { row := fnReachOnUptoRow, standIns := [], harness := (true, "ecf3bc8dbaf8a4056bbf3eb27cd15ea981554285fa9cd658a053e69abb4aed39"), looks := false }, kinds := [], alts := [], laidByText := true, laidKinds := [.data], laidTests := true, laidLooks := .later }
def FnReachOnUptoCardSaid : Prop := Claim7.holds Tryd.pinned (.plain (OpenSpec.upto fnReachOnSpec)) fnReachOnUptoCard

/-- THE SECOND FORM's CARD OF 'laws.FnGroup'. -/
def fnGroupUptoCard : Claim7 := { stood := { row := fnGroupUptoRow, standIns := [], harness := (true, "ecf3bc8dbaf8a4056bbf3eb27cd15ea981554285fa9cd658a053e69abb4aed39"), looks := false }, kinds := [], alts := [], laidByText := true, laidKinds := [.data], laidTests := true, laidLooks := .later }
def FnGroupUptoCardSaid : Prop := Claim7.holds Tryd.pinned (.plain (OpenSpec.upto fnGroupSpec)) fnGroupUptoCard

/-- THE SECOND FORM's CARD OF 'laws.FnGroupSame'. -/
def fnGroupSameUptoCard : Claim7 := { stood := { row := fnGroupSameUptoRow, standIns := [], harness := (true, "ecf3bc8dbaf8a4056bbf3eb27cd15ea981554285fa9cd658a053e69abb4aed39"), looks := false }, kinds := [], alts := [], laidByText := true, laidKinds := [.data], laidTests := true, laidLooks := .later }
def FnGroupSameUptoCardSaid : Prop := Claim7.holds Tryd.pinned (.plain (OpenSpec.upto fnGroupSameSpec)) fnGroupSameUptoCard

/-- THE SECOND FORM's CARD OF 'laws.FnReady'. -/
def fnReadyUptoCard : Claim7 := { stood := { row := fnReadyUptoRow, standIns := [], harness := (true, "ecf3bc8dbaf8a4056bbf3eb27cd15ea981554285fa9cd658a053e69abb4aed39"), looks := false }, kinds := [], alts := [], laidByText := true, laidKinds := [.data], laidTests := true, laidLooks := .later }
def FnReadyUptoCardSaid : Prop := Claim7.holds Tryd.pinned (.plain (OpenSpec.upto fnReadySpec)) fnReadyUptoCard

/-- THE SECOND FORM's CARD OF 'laws.FnReadyWhen'. -/
def fnReadyWhenUptoCard : Claim7 := { stood := { row := fnReadyWhenUptoRow, standIns := [], harness := (true, "ecf3bc8dbaf8a4056bbf3eb27cd15ea981554285fa9cd658a053e69abb4aed39"), looks := false }, kinds := [], alts := [], laidByText := true, laidKinds := [.data], laidTests := true, laidLooks := .later }
def FnReadyWhenUptoCardSaid : Prop := Claim7.holds Tryd.pinned (.plain (OpenSpec.upto fnReadyWhenSpec)) fnReadyWhenUptoCard

/-- THE SECOND FORM's CARD OF 'laws.FnOrderDeps'. -/
def fnOrderDepsUptoCard : Claim7 := { stood := { row := fnOrderDepsUptoRow, standIns := [], harness := (true, "ecf3bc8dbaf8a4056bbf3eb27cd15ea981554285fa9cd658a053e69abb4aed39"), looks := false }, kinds := [], alts := [], laidByText := true, laidKinds := [.data], laidTests := true, laidLooks := .later }
def FnOrderDepsUptoCardSaid : Prop := Claim7.holds Tryd.pinned (.plain (OpenSpec.upto fnOrderDepsSpec)) fnOrderDepsUptoCard

/-- THE SECOND FORM's CARD OF 'laws.FnOrderGroup'. -/
def fnOrderGroupUptoCard : Claim7 := { stood := { row := fnOrderGroupUptoRow, standIns := [], harness := (true, "ecf3bc8dbaf8a4056bbf3eb27cd15ea981554285fa9cd658a053e69abb4aed39"), looks := false }, kinds := [], alts := [], laidByText := true, laidKinds := [.data], laidTests := true, laidLooks := .later }
def FnOrderGroupUptoCardSaid : Prop := Claim7.holds Tryd.pinned (.plain (OpenSpec.upto fnOrderGroupSpec)) fnOrderGroupUptoCard

/-- THE SECOND FORM's CARD OF 'laws.FnExactNodesReach'. -/
def fnExactNodesReachUptoCard : Claim7 := { stood := { row := fnExactNodesReachUptoRow, standIns := [], harness := (true, "ecf3bc8dbaf8a4056bbf3eb27cd15ea981554285fa9cd658a053e69abb4aed39"), looks := false }, kinds := [], alts := [], laidByText := true, laidKinds := [.data], laidTests := true, laidLooks := .later }
def FnExactNodesReachUptoCardSaid : Prop := Claim7.holds Tryd.pinned (.plain (OpenSpec.upto fnExactNodesReachSpec)) fnExactNodesReachUptoCard

/-- THE SECOND FORM's CARD OF 'laws.FnExactNodesGroup'. -/
def fnExactNodesGroupUptoCard : Claim7 := { stood := { row := fnExactNodesGroupUptoRow, standIns := [], harness := (true, "ecf3bc8dbaf8a4056bbf3eb27cd15ea981554285fa9cd658a053e69abb4aed39"), looks := false }, kinds := [], alts := [], laidByText := true, laidKinds := [.data], laidTests := true, laidLooks := .later }
def FnExactNodesGroupUptoCardSaid : Prop := Claim7.holds Tryd.pinned (.plain (OpenSpec.upto fnExactNodesGroupSpec)) fnExactNodesGroupUptoCard
end Rows
end Go.Proofs.YtbbnchodchgioaaDoor
