/- The walk of FnExactNodesValid. -/
import Derived.Test.YtbklkhndjckckaaNval
import Derived.Test.YtbklkhndjckckaaSnval
import Derived.Test.YtbklkhndjckckaaNdz
import Derived.Test.YtbklkhndjckckaaNdq
namespace Go.Proofs.Ytbklkhndjckckaa
open Go.RowKit
set_option linter.unusedVariables false

set_option maxRecDepth 100000 in
set_option maxHeartbeats 4000000 in
theorem exNodesValid_any (a : Option Addr) (len cap : Nat) (w : World) (h : LNs w a len cap) :
    Calls Try.prog 7 #[.slice a len cap] w fun e w' => e = .returned (.bool true) ∧ Below w.heap.size w w' := by
  have sz := szNs_any a len cap w h
  clear h
  go_enter Try.func7, Try.ntmps7
  go_wp2_with fail
  refine sz.mono ?_
  rintro e w1 ⟨⟨z, rfl, hz⟩, hb⟩
  have D1 := Lib.hid hb
  clear hb sz
  rcases hz with rfl | ⟨hz0, N, hN, hU⟩
  · go_wp2_with fail
    go_ret
    exact ⟨rfl, D1.out⟩
  · have hz1 : ¬ z < 0 := by omega
    have hU := Lib.hid hU
    have sv := fun u w h => snval_any u N w h
    have iv := fun u w h => inval_any u N w h
    generalize nodB N = q at sv iv
    go_wp2_with fail
    refine (toNs_any _ N _ (hU.out.up D1.out (Nat.le_refl _))).mono ?_
    rintro e w2 ⟨u2, rfl, O2, B⟩
    have D2 := Lib.hid (bstep D1.out B)
    have O2 := Lib.hid O2
    clear B D1
    go_wp2_with fail
    refine (sv _ _ O2.out.read).mono ?_
    rintro e w3 ⟨rfl, B⟩
    have D3 := Lib.hid (bstep D2.out B)
    clear B D2 O2
    go_wp2_with fail
    refine (toNs_any _ N _ (hU.out.up D3.out (Nat.le_refl _))).mono ?_
    rintro e w4 ⟨u4, rfl, O4, B⟩
    have D4 := Lib.hid (bstep D3.out B)
    have O4 := Lib.hid O4
    clear B D3
    go_wp2_with fail
    refine (iv _ _ O4.out.read).mono ?_
    rintro e w5 ⟨rfl, B⟩
    have D5 := Lib.hid (bstep D4.out B)
    have O5 := Lib.hid (O4.out.up B)
    clear B D4 O4
    go_wp2_with fail
    refine (toNs_any _ N _ (hU.out.up D5.out (Nat.le_refl _))).mono ?_
    rintro e w6 ⟨u6, rfl, O6, B⟩
    have D6 := Lib.hid (bstep D5.out B)
    have O7 := Lib.hid (O5.out.up B)
    have O6 := Lib.hid O6
    clear B D5 O5
    go_wp2_with fail
    refine (eqNs_any _ _ N _ O7.out.read O6.out.read).mono ?_
    rintro e w7 ⟨rfl, B⟩
    have D7 := Lib.hid (bstep D6.out B)
    clear B D6 O6 O7
    go_wp2_with fail
    go_ret
    exact ⟨rfl, D7.out⟩
end Go.Proofs.Ytbklkhndjckckaa
