/- The walk of FnExactDepsValid. -/
import Derived.Test.YtbhjglapfiegaaaDval
import Derived.Test.YtbhjglapfiegaaaSdep
import Derived.Test.YtbhjglapfiegaaaIdl
import Derived.Test.YtbhjglapfiegaaaIdz
namespace Go.Proofs.Ytbhjglapfiegaaa
open Go.RowKit
set_option linter.unusedVariables false

set_option maxHeartbeats 4000000 in
theorem exDepsValid_any (a : Option Addr) (len cap : Nat) (w : World) (hlm : len ≤ maxLen) (h : 1048576 < len ∨ ∃ C, Ids w (.slice a len cap) C) :
    Calls Try.prog 5 #[.slice a len cap] w fun e w' => e = .returned (.bool true) ∧ Below w.heap.size w w' := by
  have hm : len ≤ 9223372036854775807 := by simpa [maxLen] using hlm
  clear hlm
  have sz := szP_any a len cap 1048576
  by_cases hl : 1048576 < len
  · rw [if_pos hl] at sz
    clear h
    go_enter Try.func5, Try.ntmps5
    go_wp2_with fail
    refine (sz _ (by trivial) hm).mono ?_
    rintro e w1 ⟨rfl, hb⟩
    have D1 := Lib.hid hb
    clear hb sz
    go_wp2_with fail
    go_ret
    exact ⟨rfl, D1.out⟩
  · rw [if_neg hl] at sz
    obtain ⟨C, hU⟩ := h.resolve_left hl
    have hU := Lib.hid hU
    have sv := fun u w h => sval_any u C w h
    have iv := fun u w h => ival_any u C w h
    generalize srtB C = q at sv iv
    clear h
    go_enter Try.func5, Try.ntmps5
    go_wp2_with fail
    refine (sz _ (by trivial) hm).mono ?_
    rintro e w1 ⟨rfl, hb⟩
    have D1 := Lib.hid hb
    clear hb sz
    go_wp2_with fail
    refine (toP_any _ C _ (hU.out.up D1.out (Nat.le_refl _))).mono ?_
    rintro e w2 ⟨b2, u2, hb2, rfl, O2, B⟩
    have D2 := Lib.hid (bstep D1.out B)
    have O2 := Lib.hid O2
    clear B D1
    go_wp2_with fail
    refine (sv _ _ O2.out.read).mono ?_
    rintro e w3 ⟨rfl, B⟩
    have D3 := Lib.hid (bstep D2.out B)
    clear B D2 O2
    go_wp2_with fail
    refine (toP_any _ C _ (hU.out.up D3.out (Nat.le_refl _))).mono ?_
    rintro e w4 ⟨b4, u4, hb4, rfl, O4, B⟩
    have D4 := Lib.hid (bstep D3.out B)
    have O4 := Lib.hid O4
    clear B D3
    go_wp2_with fail
    refine (iv _ _ O4.out.read).mono ?_
    rintro e w5 ⟨rfl, B⟩
    have D5 := Lib.hid (bstep D4.out B)
    have O5 := Lib.hid (O4.out.up B O4.out.lt)
    clear B D4 O4
    go_wp2_with fail
    refine (toP_any _ C _ (hU.out.up D5.out (Nat.le_refl _))).mono ?_
    rintro e w6 ⟨b6, u6, hb6, rfl, O6, B⟩
    have D6 := Lib.hid (bstep D5.out B)
    have O7 := Lib.hid (O5.out.up B O5.out.lt)
    have O6 := Lib.hid O6
    clear B D5 O5
    go_wp2_with fail
    refine (eqP_any _ _ C _ O7.out.read O6.out.read).mono ?_
    rintro e w7 ⟨rfl, B⟩
    have D7 := Lib.hid (bstep D6.out B)
    clear B D6 O6 O7
    go_wp2_with fail
    go_ret
    exact ⟨rfl, D7.out⟩
end Go.Proofs.Ytbhjglapfiegaaa
