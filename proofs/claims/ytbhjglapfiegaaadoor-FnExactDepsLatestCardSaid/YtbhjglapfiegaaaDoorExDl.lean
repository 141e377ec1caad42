/- The walk of FnExactDepsLatest. -/
import Derived.Test.YtbhjglapfiegaaaDoorLat
import Derived.Test.YtbhjglapfiegaaaDoorSlat
import Derived.Test.YtbhjglapfiegaaaDoorIdl
import Derived.Test.YtbhjglapfiegaaaDoorIdk
import Derived.Test.YtbhjglapfiegaaaDoorIdz
import Derived.Test.YtbhjglapfiegaaaDoorDdep
namespace Go.Proofs.YtbhjglapfiegaaaDoor
open Go.RowKit
set_option linter.unusedVariables false

theorem kstep4 {w wc w' : World} {r : Nat} (D : Below w.heap.size w wc) (hk : Keep wc.heap.size r wc w') (hr : w.heap.size ≤ r) : Below w.heap.size w w' := D.trans ((hk.mono D.size).below hr)
theorem ids_len {w : World} {a : Option Addr} {len cap : Nat} {C : List Pid} (h : Ids w (.slice a len cap) C) : C.length = len := by
  obtain ⟨a', cap', e, _⟩ := h
  injection e with _ e2 _
  exact e2.symm

set_option maxHeartbeats 8000000 in
theorem exDepsLatest_any (a : Option Addr) (len cap : Nat) (w : World) (hlm : len ≤ maxLen) (h : 1048576 < len ∨ ∃ C, Ids w (.slice a len cap) C) (hT : TabIn w) :
    Calls Tryd.prog 10 #[.slice a len cap] w fun e w' => e = .returned (.bool true) ∧ Below w.heap.size w w' := by
  have hT := Lib.hid hT
  have hm : len ≤ 9223372036854775807 := by simpa [maxLen] using hlm
  clear hlm
  have sz := szP_any a len cap 1048576
  by_cases hl : 1048576 < len
  · rw [if_pos hl] at sz
    clear h hT
    go_enter Tryd.func10, Tryd.ntmps10
    go_wp2_with fail
    refine (sz _ (by trivial) hm).mono ?_
    rintro e w1 ⟨rfl, hb⟩
    have D1 := Lib.hid hb
    clear hb sz
    go_wp2_with fail
    go_ret
    exact ⟨rfl, D1.out⟩
  · rw [if_neg hl] at sz
    obtain ⟨A, hU⟩ := h.resolve_left hl
    have hlA := Lib.hid (ids_len hU)
    have hU := Lib.hid hU
    skip
    have hC3 : Hid ((latR A).length ≤ 12) := Lib.hid (latR_len A)
    obtain ⟨S, hR⟩ : ∃ S, Hid (latR A = S) := ⟨_, Lib.hid rfl⟩
    rw [hR.out] at hC3
    clear h
    go_enter Tryd.func10, Tryd.ntmps10
    go_wp2_with fail
    refine (sz _ (by trivial) hm).mono ?_
    rintro e w1 ⟨rfl, hb⟩
    have D := Lib.hid hb
    clear hb sz
    go_wp2_with fail
    refine (toP_any _ A _ (hU.out.up D.out (Nat.le_refl _))).mono ?_
    rintro e w2 ⟨p1, uP1, hp1, rfl, P1, hb⟩
    have Gp1 := Nat.le_trans D.out.size hp1
    have Lp1 := P1.lt
    have P1 := Lib.hid P1
    replace D := Lib.hid (bstep D.out hb)
    clear hb
    go_wp2_with fail
    refine (slat_any _ A _ P1.out.read).mono ?_
    rintro e w3 ⟨g4, v4, hg4, rfl, O4, hb⟩
    rw [hR.out] at O4
    have Gg4 := Nat.le_trans D.out.size hg4
    have L4 := O4.lt
    have O4 := Lib.hid O4
    replace D := Lib.hid (bstep D.out hb)
    clear hb
    clear P1
    go_wp2_with fail
    refine (toP_any _ A _ (hU.out.up D.out (Nat.le_refl _))).mono ?_
    rintro e w4 ⟨b6, uO6, hb6, rfl, O6, hb⟩
    have N46 : g4 ≠ b6 := by have := O4.out.lt; omega
    have Gb6 := Nat.le_trans D.out.size hb6
    have Lb6 := O6.lt
    have O6 := Lib.hid O6
    replace O4 := Lib.hid (O4.out.up hb O4.out.lt)
    replace D := Lib.hid (bstep D.out hb)
    clear hb
    go_wp2_with fail
    refine (dlat_any _ A _ O6.out.read (hT.out.up D.out (Nat.le_refl _))).mono ?_
    rintro e w5 ⟨g8, v8, hg8, rfl, O8, hb⟩
    have N48 : g4 ≠ g8 := by have := O4.out.lt; omega
    have N68 : b6 ≠ g8 := by have := O6.out.lt; omega
    rw [hR.out] at O8
    have Gg8 := Nat.le_trans D.out.size hg8
    have O8 := Lib.hid O8
    replace O4 := Lib.hid (O4.out.up hb O4.out.lt)
    replace O6 := Lib.hid (O6.out.up hb O6.out.lt)
    replace D := Lib.hid (bstep D.out hb)
    clear hb
    go_wp2_with fail
    refine (eqP_any _ _ S _ O8.out.read O4.out.read).mono ?_
    rintro e w6 ⟨rfl, hb⟩
    replace O4 := Lib.hid (O4.out.up hb O4.out.lt)
    replace O6 := Lib.hid (O6.out.up hb O6.out.lt)
    replace O8 := Lib.hid (O8.out.up hb O8.out.lt)
    replace D := Lib.hid (bstep D.out hb)
    clear hb
    go_wp2_with fail
    refine (toP_any _ A _ (hU.out.up D.out (Nat.le_refl _))).mono ?_
    rintro e w7 ⟨q0, uQ, hq0, rfl, Q, hb⟩
    have Gq0 := Nat.le_trans D.out.size hq0
    have Lq0 := Q.lt
    have Q := Lib.hid Q
    replace O4 := Lib.hid (O4.out.up hb O4.out.lt)
    replace O6 := Lib.hid (O6.out.up hb O6.out.lt)
    replace O8 := Lib.hid (O8.out.up hb O8.out.lt)
    replace D := Lib.hid (bstep D.out hb)
    clear hb
    go_wp2_with fail
    refine (eqP_any _ _ A _ O6.out.read Q.out.read).mono ?_
    rintro e w8 ⟨rfl, hb⟩
    replace O4 := Lib.hid (O4.out.up hb O4.out.lt)
    replace O6 := Lib.hid (O6.out.up hb O6.out.lt)
    replace O8 := Lib.hid (O8.out.up hb O8.out.lt)
    replace Q := Lib.hid (Q.out.up hb Q.out.lt)
    replace D := Lib.hid (bstep D.out hb)
    clear hb
    clear Q
    go_wp2_with fail
    refine (markP_any b6 _ A (1) _ O6.out (by omega) (by omega)).mono ?_
    rintro e w9 ⟨rfl, M9, hM, hMk, OM, hb⟩
    replace O4 := Lib.hid (O4.out.stay hb N46)
    replace O8 := Lib.hid (O8.out.stay hb (fun e => N68 e.symm))
    replace D := Lib.hid (kstep4 D.out hb Gb6)
    clear hb OM hMk hM O6
    rw [hlA.out]
    go_wp2_with fail
    refine (eqP_any _ _ S _ O8.out.read O4.out.read).mono ?_
    rintro e w10 ⟨rfl, hb⟩
    replace O4 := Lib.hid (O4.out.up hb O4.out.lt)
    replace O8 := Lib.hid (O8.out.up hb O8.out.lt)
    replace D := Lib.hid (bstep D.out hb)
    clear hb
    obtain ⟨ns, hns⟩ : ∃ ns, Hid (S.length = ns) := ⟨_, Lib.hid rfl⟩
    have hl1 := hC3.out
    rw [hns.out] at hl1
    go_wp2_with fail
    refine (markP_any g8 _ S (1) _ O8.out (by omega) (by omega)).mono ?_
    rintro e w11 ⟨rfl, M11, hM, hMk, OM, hb⟩
    replace O4 := Lib.hid (O4.out.stay hb N48)
    replace D := Lib.hid (kstep4 D.out hb Gg8)
    replace O8 := Lib.hid OM
    have hMk := Lib.hid hMk
    have hM := Lib.hid hM
    clear hb OM
    rw [hns.out]
    go_wp2_with fail
    refine (heldP_any _ 1 M11 _ hMk.out O8.out.read (by omega) (by omega)).mono ?_
    rw [hM.out, hns.out]
    rintro e w12 ⟨rfl, hb⟩
    replace O4 := Lib.hid (O4.out.up hb O4.out.lt)
    replace O8 := Lib.hid (O8.out.up hb O8.out.lt)
    replace D := Lib.hid (bstep D.out hb)
    clear hb
    go_wp2_with fail
    refine (toP_any _ A _ (hU.out.up D.out (Nat.le_refl _))).mono ?_
    rintro e w13 ⟨r1, uR1, hr1, rfl, R1, hb⟩
    have Gr1 := Nat.le_trans D.out.size hr1
    have Lr1 := R1.lt
    have R1 := Lib.hid R1
    replace O4 := Lib.hid (O4.out.up hb O4.out.lt)
    replace O8 := Lib.hid (O8.out.up hb O8.out.lt)
    replace D := Lib.hid (bstep D.out hb)
    clear hb
    go_wp2_with fail
    refine (dlat_any _ A _ R1.out.read (hT.out.up D.out (Nat.le_refl _))).mono ?_
    rintro e w14 ⟨g9, v9, hg9, rfl, O9, hb⟩
    rw [hR.out] at O9
    have O9 := Lib.hid O9
    replace O4 := Lib.hid (O4.out.up hb O4.out.lt)
    replace O8 := Lib.hid (O8.out.up hb O8.out.lt)
    replace D := Lib.hid (bstep D.out hb)
    clear hb
    clear R1
    go_wp2_with fail
    refine (eqP_any _ _ S _ O9.out.read O4.out.read).mono ?_
    rintro e w15 ⟨rfl, hb⟩
    replace O4 := Lib.hid (O4.out.up hb O4.out.lt)
    replace O8 := Lib.hid (O8.out.up hb O8.out.lt)
    replace D := Lib.hid (bstep D.out hb)
    clear hb
    clear O9 O4
    go_wp2_with fail
    refine (heldP_any _ 1 M11 _ hMk.out O8.out.read (by omega) (by omega)).mono ?_
    rw [hM.out, hns.out]
    rintro e w16 ⟨rfl, hb⟩
    replace O8 := Lib.hid (O8.out.up hb O8.out.lt)
    replace D := Lib.hid (bstep D.out hb)
    clear hb
    go_wp2_with fail
    go_ret
    exact ⟨rfl, D.out⟩
end Go.Proofs.YtbhjglapfiegaaaDoor
