/- DrawDepsLatest. -/
import Derived.Test.YtbhjglapfiegaaaDoorDdep
namespace Go.Proofs.YtbhjglapfiegaaaDoor
open Go.RowKit
set_option linter.unusedVariables false

/-- What a draw of a list leaves. -/
def DlPost (w : World) (e : Ending) (w' : World) : Prop := ∃ u C, e = .returned u ∧ Ids w' u C ∧ C.length ≤ 13 ∧ Below w.heap.size w w'

set_option maxHeartbeats 2000000 in
theorem ddl_any (a : Option Addr) (len cap : Nat) (w : World) (hc : CodeIn w a len cap) (hcap : cap ≤ maxLen) :
    Calls Tryd.prog 20 #[.slice a len cap] w (DlPost w) := by
  have hc := Lib.hid hc
  have hcap := Lib.hid hcap
  go_enter Tryd.func20, Tryd.ntmps20
  go_wp2_with fail
  refine (open_any a len cap _ hc.out hcap.out).mono ?_
  rintro e w1 ⟨r, rfl, hr0, hr', hb'⟩
  have s1 := hb'.size
  have D1 : Hid (Below w.heap.size w w1) := Lib.hid hb'
  have hr1 := Lib.hid hr'
  clear hr' hb' hc hcap
  go_wp2_with fail
  refine (ddep_any r 0 _ hr1.out (by omega)).mono ?_
  rintro e w2 ⟨b, u, C, hb, rfl, hO, hCl, hr2, hk2⟩
  have D2 : Hid (Below w.heap.size w w2) := Lib.hid (D1.out.trans ((hk2.mono s1).below hr0))
  have hI := Lib.hid hO.read
  clear hk2 D1 hr1 hr2 hO
  go_wp2_with fail
  go_ret
  exact ⟨u, C, rfl, hI.out, hCl, D2.out⟩
end Go.Proofs.YtbhjglapfiegaaaDoor
