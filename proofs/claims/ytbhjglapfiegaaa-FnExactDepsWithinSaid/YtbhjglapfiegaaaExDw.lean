/- The walk of FnExactDepsWithin. -/
import Derived.Test.YtbhjglapfiegaaaWin
import Derived.Test.YtbhjglapfiegaaaSwin
import Derived.Test.YtbhjglapfiegaaaIdl
import Derived.Test.YtbhjglapfiegaaaIdz
namespace Go.Proofs.Ytbhjglapfiegaaa
open Go.RowKit
set_option linter.unusedVariables false

set_option maxHeartbeats 4000000 in
theorem exDepsWithin_any (a : Option Addr) (len cap : Nat) (a' : Option Addr) (len' cap' : Nat) (w : World) (hlm : len ≤ maxLen) (h : 1048576 < len ∨ ∃ C, Ids w (.slice a len cap) C) (hlm' : len' ≤ maxLen) (h' : 1048576 < len' ∨ ∃ C, Ids w (.slice a' len' cap') C) :
    Calls Try.prog 6 #[.slice a len cap, .slice a' len' cap'] w fun e w' => e = .returned (.bool true) ∧ Below w.heap.size w w' := by
  have hm : len ≤ 9223372036854775807 := by simpa [maxLen] using hlm
  have hm' : len' ≤ 9223372036854775807 := by simpa [maxLen] using hlm'
  clear hlm hlm'
  have sz := szP_any a len cap 1048576
  by_cases hl : 1048576 < len
  · rw [if_pos hl] at sz
    clear h h'
    go_enter Try.func6, Try.ntmps6
    go_wp2_with fail
    refine (sz _ (by trivial) hm).mono ?_
    rintro e w1 ⟨rfl, hb⟩
    have D1 := Lib.hid hb
    clear hb sz
    go_wp2_with fail
    go_ret
    exact ⟨rfl, D1.out⟩
  · rw [if_neg hl] at sz
    obtain ⟨A, hU⟩ := h.resolve_left hl
    have sz2 := fun w => szP_gen a' len' cap' (1048576 - (len : Int)) w (by omega) (by omega) hm'
    by_cases hl2 : (1048576 - (len : Int)) < len'
    · simp only [if_pos hl2] at sz2
      clear h h' hU
      go_enter Try.func6, Try.ntmps6
      go_wp2_with fail
      refine (sz _ (by trivial) hm).mono ?_
      rintro e w1 ⟨rfl, hb⟩
      have D1 := Lib.hid hb
      clear hb sz
      go_wp2_with fail
      refine (sz2 _).mono ?_
      rintro e w2 ⟨rfl, hb⟩
      have D2 := Lib.hid (bstep D1.out hb)
      clear hb sz2 D1
      go_wp2_with fail
      go_ret
      exact ⟨rfl, D2.out⟩
    · simp only [if_neg hl2] at sz2
      obtain ⟨B, hV⟩ := h'.resolve_left (by omega)
      have hU := Lib.hid hU
      have hV := Lib.hid hV
      have sv := fun u v w h g => swin_any u v A B w h g
      have iv := fun u v w h g => iwin_any u v A B w h g
      generalize withinB A B = q at sv iv
      clear h h'
      go_enter Try.func6, Try.ntmps6
      go_wp2_with fail
      refine (sz _ (by trivial) hm).mono ?_
      rintro e w1 ⟨rfl, hb⟩
      have D1 := Lib.hid hb
      clear hb sz
      go_wp2_with fail
      refine (sz2 _).mono ?_
      rintro e w2 ⟨rfl, hb⟩
      have D2 := Lib.hid (bstep D1.out hb)
      clear hb sz2 D1
      go_wp2_with fail
      refine (toP_any _ A _ (hU.out.up D2.out (Nat.le_refl _))).mono ?_
      rintro e w3 ⟨b3, u3, hb3, rfl, O3, hb⟩
      have D3 := Lib.hid (bstep D2.out hb)
      have O3 := Lib.hid O3
      clear hb D2
      go_wp2_with fail
      refine (toP_any _ B _ (hV.out.up D3.out (Nat.le_refl _))).mono ?_
      rintro e w4 ⟨b4, u4, hb4, rfl, O4, hb⟩
      have D4 := Lib.hid (bstep D3.out hb)
      have O3 := Lib.hid (O3.out.up hb O3.out.lt)
      have O4 := Lib.hid O4
      clear hb D3
      go_wp2_with fail
      refine (sv _ _ _ O3.out.read O4.out.read).mono ?_
      rintro e w5 ⟨rfl, hb⟩
      have D5 := Lib.hid (bstep D4.out hb)
      clear hb D4 O3 O4
      go_wp2_with fail
      refine (toP_any _ A _ (hU.out.up D5.out (Nat.le_refl _))).mono ?_
      rintro e w6 ⟨b6, u6, hb6, rfl, O6, hb⟩
      have D6 := Lib.hid (bstep D5.out hb)
      have O6 := Lib.hid O6
      clear hb D5
      go_wp2_with fail
      refine (toP_any _ B _ (hV.out.up D6.out (Nat.le_refl _))).mono ?_
      rintro e w7 ⟨b7, u7, hb7, rfl, O7, hb⟩
      have D7 := Lib.hid (bstep D6.out hb)
      have O6a := Lib.hid (O6.out.up hb O6.out.lt)
      have O7 := Lib.hid O7
      clear hb D6 O6
      go_wp2_with fail
      refine (iv _ _ _ O6a.out.read O7.out.read).mono ?_
      rintro e w8 ⟨rfl, hb⟩
      have D8 := Lib.hid (bstep D7.out hb)
      have O6b := Lib.hid (O6a.out.up hb O6a.out.lt)
      have O7b := Lib.hid (O7.out.up hb O7.out.lt)
      clear hb D7 O6a O7
      go_wp2_with fail
      refine (toP_any _ A _ (hU.out.up D8.out (Nat.le_refl _))).mono ?_
      rintro e w9 ⟨b9, u9, hb9, rfl, O9, hb⟩
      have D9 := Lib.hid (bstep D8.out hb)
      have O6c := Lib.hid (O6b.out.up hb O6b.out.lt)
      have O7c := Lib.hid (O7b.out.up hb O7b.out.lt)
      have O9 := Lib.hid O9
      clear hb D8 O6b O7b
      go_wp2_with fail
      refine (eqP_any _ _ A _ O6c.out.read O9.out.read).mono ?_
      rintro e w10 ⟨rfl, hb⟩
      have D10 := Lib.hid (bstep D9.out hb)
      have O7d := Lib.hid (O7c.out.up hb O7c.out.lt)
      clear hb D9 O6c O7c O9
      go_wp2_with fail
      refine (toP_any _ B _ (hV.out.up D10.out (Nat.le_refl _))).mono ?_
      rintro e w11 ⟨b11, u11, hb11, rfl, O11, hb⟩
      have D11 := Lib.hid (bstep D10.out hb)
      have O7e := Lib.hid (O7d.out.up hb O7d.out.lt)
      have O11 := Lib.hid O11
      clear hb D10 O7d
      go_wp2_with fail
      refine (eqP_any _ _ B _ O7e.out.read O11.out.read).mono ?_
      rintro e w12 ⟨rfl, hb⟩
      have D12 := Lib.hid (bstep D11.out hb)
      clear hb D11 O7e O11
      go_wp2_with fail
      go_ret
      exact ⟨rfl, D12.out⟩
end Go.Proofs.Ytbhjglapfiegaaa
