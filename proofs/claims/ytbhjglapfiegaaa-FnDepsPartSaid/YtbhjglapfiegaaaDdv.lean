/- DrawDepsValid. -/
import Derived.Test.YtbhjglapfiegaaaDdep
namespace Go.Proofs.Ytbhjglapfiegaaa
open Go.RowKit
set_option linter.unusedVariables false

/-- What a draw of a list leaves. -/
def D1Post (w : World) (e : Ending) (w' : World) : Prop := ∃ u C, e = .returned u ∧ Ids w' u C ∧ C.length ≤ 13 ∧ Below w.heap.size w w'

set_option maxHeartbeats 2000000 in
theorem ddv_any (a : Option Addr) (len cap : Nat) (w : World) (hc : CodeIn w a len cap) (hcap : cap ≤ maxLen) :
    Calls Try.prog 12 #[.slice a len cap] w (D1Post w) := by
  have hc := Lib.hid hc
  have hcap := Lib.hid hcap
  go_enter Try.func12, Try.ntmps12
  go_wp2_with fail
  refine (open_any a len cap _ hc.out hcap.out).mono ?_
  rintro e w1 ⟨r, rfl, hr0, hr', hb'⟩
  have s1 := hb'.size
  have D1 : Hid (Below w.heap.size w w1) := Lib.hid hb'
  have hr1 := Lib.hid hr'
  clear hr' hb' hc hcap
  go_wp2_with fail
  refine (pick_any 3 r 0 _ hr1.out (by omega)).mono ?_
  rintro e w2 ⟨x, rfl, x0, x1, hr2, hk2⟩
  have s2 := hk2.size
  have D2 : Hid (Below w.heap.size w w2) := Lib.hid (D1.out.trans ((hk2.mono s1).below hr0))
  have hr2 := Lib.hid hr2
  clear hk2 D1 hr1 x1
  by_cases e0 : x = 0
  · subst e0
    go_wp2_with fail
    refine (ids_anyN r (0 + 1) _ hr2.out (by omega)).mono ?_
    rintro e w3 ⟨u, C, rfl, hI, hCl, hr3, hk3⟩
    have D3 : Hid (Below w.heap.size w w3) := Lib.hid (D2.out.trans ((hk3.mono D2.out.size).below hr0))
    have hI := Lib.hid hI
    clear hk3 D2 hr2 hr3
    go_wp2_with fail
    go_ret
    exact ⟨u, C, rfl, hI.out, hCl, D3.out⟩
  · have e0' : (x == 0) = false := by simpa using e0
    clear e0
    go_wp2_with fail
    refine (ddep_any r (0 + 1) _ hr2.out (by omega)).mono ?_
    rintro e w3 ⟨b, u, C, hb, rfl, hO, hCl, hr3, hk3⟩
    have D3 : Hid (Below w.heap.size w w3) := Lib.hid (D2.out.trans ((hk3.mono D2.out.size).below hr0))
    have hI := Lib.hid hO.read
    clear hk3 D2 hr2 hr3 hO
    go_wp2_with fail
    go_ret
    exact ⟨u, C, rfl, hI.out, hCl, D3.out⟩
end Go.Proofs.Ytbhjglapfiegaaa
