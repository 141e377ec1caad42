/- The program's DepsValid. -/
import Derived.Test.YtbhjglapfiegaaaDoorSetv
namespace Go.Proofs.YtbhjglapfiegaaaDoor
open Go.RowKit
set_option linter.unusedVariables false

set_option maxHeartbeats 1000000 in
theorem ival_any (u : Value) (L : List Pid) (w : World) (h : Ids w u L) :
    Calls Tryd.prog 16 #[u] w fun e w' => e = .returned (.bool (srtB L)) ∧ Below w.heap.size w w' := by
  have h := Lib.hid h
  go_enter Tryd.func16, Tryd.ntmps16
  go_wp2_with fail
  refine (iset_any u L _ h.out).mono ?_
  rintro e w1 ⟨rfl, hb⟩
  have D1 := Lib.hid hb
  clear hb h
  unfold setV
  go_wp2_with fail
  go_ret
  exact ⟨rfl, D1.out.alloc D1.out.size _⟩
end Go.Proofs.YtbhjglapfiegaaaDoor
