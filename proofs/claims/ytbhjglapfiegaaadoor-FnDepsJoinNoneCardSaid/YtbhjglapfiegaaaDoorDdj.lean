/- DrawDepsJoin. -/
import Derived.Test.YtbhjglapfiegaaaDoorDwin
namespace Go.Proofs.YtbhjglapfiegaaaDoor
open Go.RowKit
set_option linter.unusedVariables false

set_option maxHeartbeats 2000000 in
theorem ddj_any (a : Option Addr) (len cap : Nat) (w : World) (hc : CodeIn w a len cap) (hcap : cap ≤ maxLen) :
    Calls Tryd.prog 11 #[.slice a len cap] w (DtPost w) := by
  have hc := Lib.hid hc
  have hcap := Lib.hid hcap
  go_enter Tryd.func11, Tryd.ntmps11
  go_wp2_with fail
  refine (open_any a len cap _ hc.out hcap.out).mono ?_
  rintro e w1 ⟨r, rfl, hr0, hr', hb'⟩
  have s1 := hb'.size
  have D1 : Hid (Below w.heap.size w w1) := Lib.hid hb'
  have hr1 := Lib.hid hr'
  clear hr' hb' hc hcap
  go_wp2_with fail
  refine (ddep_any r 0 _ hr1.out (by omega)).mono ?_
  rintro e w2 ⟨b, u, C, hb, rfl, hO, hCl, hr2, hk2⟩
  have s2 := hk2.size
  have hbr : b ≠ r := by have := hr1.out.lt; omega
  have D2 : Hid (Below w.heap.size w w2) := Lib.hid (D1.out.trans ((hk2.mono s1).below hr0))
  have hO := Lib.hid hO
  have hr2 := Lib.hid hr2
  clear hk2 D1 hr1
  go_wp2_with fail
  refine (ddep_any r (0 + 40) _ hr2.out (by omega)).mono ?_
  rintro e w3 ⟨b', u', C', hb', rfl, hO', hCl', hr3, hk3⟩
  have D3 : Hid (Below w.heap.size w w3) := Lib.hid (D2.out.trans ((hk3.mono D2.out.size).below hr0))
  have hI := Lib.hid (hO.out.stay hk3 hbr).read
  have hI' := Lib.hid hO'.read
  clear hk3 D2 hr2 hr3 hO hO'
  go_wp2_with fail
  go_ret2
  exact ⟨u, u', C, C', rfl, hI.out, hI'.out, hCl, hCl', D3.out⟩
end Go.Proofs.YtbhjglapfiegaaaDoor
