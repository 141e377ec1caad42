/-
  DERIVED. GIVEN WITH THE SEED: THE CARDS: each row of YtdikcenhakfheaaDoorRows.lean that lists a variable, with what it lists TIED to the program's text (the seventh form; the later family's looks); each row that meets fmt, with fmt's text TOLD by the authors' own Lean function (tested against real Go, not proved from fmt's source: count such statements apart). THE CARD IS WHAT COUNTS. Prove the row's statement (the work); the ties are given (YtdikcenhakfheaaDoorTie.lean); close each card by the builder's one call (the guide's Derived/Test/ToyasCard.lean, 'card_holds'). Laid BY PROGRAM, IN A SANDBOX (cutbox-door.mjs). By AI agents, Wed Nov 11 2026. No macro, syntax, notation, axiom, sorry.
-/
import Derived.Test.YtdikcenhakfheaaDoorRows
import GoSem.ClaimSeven
namespace Go.Proofs.YtdikcenhakfheaaDoor
namespace Rows

/-- THE TIED CARD OF 'laws.FnPreAcceptTwice'. -/
def fnPreAcceptTwiceCard : Claim7 := { stood := { row := fnPreAcceptTwiceRow, standIns := [], harness := (true, "4cb7288c86ed051ed474e59f32a3e6c11f709200c275d227b9bf4ec5acb29337"), looks := true }, kinds := [], alts := [], laidByText := true, laidKinds := [.data], laidTests := true, laidLooks := .later }
def FnPreAcceptTwiceCardSaid : Prop := Claim7.holds Tryd.pinned (.plain (OpenSpec.ofChange fnPreAcceptTwiceSpec)) fnPreAcceptTwiceCard

/-- THE SECOND FORM's CARD OF 'laws.FnPreAcceptTwice'. -/
def fnPreAcceptTwiceUptoCard : Claim7 := { stood := { row := fnPreAcceptTwiceUptoRow, standIns := [], harness := (true, "4cb7288c86ed051ed474e59f32a3e6c11f709200c275d227b9bf4ec5acb29337"), looks := true }, kinds := [], alts := [], laidByText := true, laidKinds := [.data], laidTests := true, laidLooks := .later }
def FnPreAcceptTwiceUptoCardSaid : Prop := Claim7.holds Tryd.pinned (.plain (OpenSpec.upto fnPreAcceptTwiceSpec)) fnPreAcceptTwiceUptoCard
end Rows
end Go.Proofs.YtdikcenhakfheaaDoor
