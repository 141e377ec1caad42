/- Texts laid together. -/
import Derived.Test.YtdikcenhakfheaaDoorCards
import Derived.Test.YtdikcenhakfheaaDoorTie
import Derived.Test.YtdikcenhakfheaaDoorC13
import Derived.Test.YtdikcenhakfheaaDoorC22
import Derived.ProofKit
import Derived.OpenShut
import Derived.ChangeOld
import Derived.Stop.LaidErr
import Derived.Deep.DeepHandedRow
import Derived.Deep.DeepWitnessRowRef
import Derived.LaidMore
import Derived.Lib.LaidTab
import Derived.Lib.SmallJoins
/- (FrameT without ids.) What the frames of the door seat of sets use: what the listed variable (math/bits' table) gives. (doorLaid's number: as the seat's Tie has it.) -/
namespace Go.Proofs.YtdikcenhakfheaaDoor
open Go.ChangeShapes Go.WideShapes Go.ChangeAt Go.RowKit
set_option linter.unusedVariables false
set_option maxRecDepth 100000

theorem g_tab : Tryd.prog.globalNamed "math/bits.deBruijn64tab" = some 0 := by kernel_rfl
theorem gt_tab : (Tryd.prog.globals[0]?).map (·.type) = some 126 := by kernel_rfl
theorem c_tab : Tryd.prog.cellsOf 126 = 64 := by kernel_rfl
theorem c_u8 : Tryd.prog.cellsOf 5 = 1 := by kernel_rfl

/-- The table's numbers. -/
def tabZ : List Int := Lib.deBruijn64tab.map fun n : Nat => (n : Int)
/-- The rows' list. -/
def listed : List (String × DataW Unit) := [("math/bits.deBruijn64tab", Lib.tabData .u8 tabZ)]

theorem gl_of {W : World} (h : laidMetH Tryd.prog listed W) (hs : W.ShapedOpen Tryd.prog) : TabIn W := by
  have h : laidMet Tryd.prog listed W := by
    rw [MakeChecks.laidMetH_plain _ _ _ (by kernel_rfl)] at h; exact h
  have ht := Lib.tabIs_of_head (zs := tabZ) g_tab gt_tab Tryd.underlying126 Tryd.underlying5 c_u8 c_tab h
  intro j hj
  have hc := World.var?_cell g_tab ht j
  rw [hc, List.getElem?_toArray, List.getElem?_map]
  unfold tabZ
  rw [List.getElem?_map, List.getElem?_eq_getElem hj, List.getD_eq_getElem?_getD, List.getElem?_eq_getElem hj]
  rfl

/-- A world for the witness: as the door leaves it. -/
noncomputable def laidWorld (os : Os) : World := World.doorLaid Tryd.prog 14 os
theorem laid_met (os : Os) (args : Array Value) : laidMet Tryd.prog listed ((laidWorld os).forCall (fun _ _ => 0) ⟨#[], args, []⟩).memory :=
  laidMet_of_run' 8 (by kernel_rfl) (by kernel_rfl)
end Go.Proofs.YtdikcenhakfheaaDoor
