/- The program's DepsValid. -/
import Derived.Test.YtbklkhndjckckaaSetv
namespace Go.Proofs.Ytbklkhndjckckaa
open Go.RowKit
set_option linter.unusedVariables false

set_option maxRecDepth 100000 in
set_option maxHeartbeats 1000000 in
theorem ival_any (u : Value) (L : List Pid) (w : World) (h : Ids w u L) :
    Calls Try.prog 63 #[u] w fun e w' => e = .returned (.bool (srtB L)) ∧ Below w.heap.size w w' := by
  have h := Lib.hid h
  go_enter Try.func63, Try.ntmps63
  go_wp2_with fail
  refine (iset_any u L _ h.out).mono ?_
  rintro e w1 ⟨rfl, hb⟩
  have D1 := Lib.hid hb
  clear hb h
  unfold setV
  go_wp2_with fail
  go_ret
  exact ⟨rfl, D1.out.alloc D1.out.size _⟩
end Go.Proofs.Ytbklkhndjckckaa
