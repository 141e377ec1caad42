/- The walk of FnExactStateRun. -/
import Derived.Test.YtmekkjnegmeogaaCmdl
import Derived.Test.YtmekkjnegmeogaaCmdm
import Derived.Test.YtmekkjnegmeogaaSrun
namespace Go.Proofs.Ytmekkjnegmeogaa
open Go.RowKit
set_option linter.unusedVariables false

theorem exrun_long (a : Option Addr) (len cap : Nat) (a' : Option Addr) (len' cap' : Nat) (w : World) (h : 1048576 < len) :
    Calls Try.prog 13 #[.slice a len cap, .slice a' len' cap'] w fun e w' => e = .returned (.bool true) ∧ Below w.heap.size w w' := by
  go_enter Try.func13, Try.ntmps13
  go_wp2_with fail
  go_ret
  exact ⟨rfl, Below.refl _ _⟩

theorem exrun_long2 (a : Option Addr) (len cap : Nat) (a' : Option Addr) (len' cap' : Nat) (w : World) (h : ¬ 1048576 < len) (h' : 1048576 < len') (hm : len' ≤ 9223372036854775807) :
    Calls Try.prog 13 #[.slice a len cap, .slice a' len' cap'] w fun e w' => e = .returned (.bool true) ∧ Below w.heap.size w w' := by
  go_enter Try.func13, Try.ntmps13
  go_wp2_with fail
  refine (szC_any a' len' cap' _ _ rfl hm).mono ?_
  rintro e w1 ⟨rfl, B⟩
  rw [if_pos h']
  have D := Lib.hid B
  clear B
  go_wp2_with fail
  go_ret
  exact ⟨rfl, D.out⟩

set_option maxRecDepth 100000 in
set_option maxHeartbeats 8000000 in
theorem exrun_short (a : Option Addr) (len cap : Nat) (a' : Option Addr) (len' cap' : Nat) (L : List Int) (C : List Cm) (w : World) (h : ¬ 1048576 < len) (h' : ¬ 1048576 < len') (hI : Ints w (.slice a len cap) L) (hC : Cmds w (.slice a' len' cap') C) :
    Calls Try.prog 13 #[.slice a len cap, .slice a' len' cap'] w fun e w' => e = .returned (.bool true) ∧ Below w.heap.size w w' := by
  have hL2 : L.length ≤ 2000000 := by obtain ⟨_, _, _, _, h, _⟩ := hI; exact h
  have hC2 : C.length ≤ 2000000 := by obtain ⟨_, _, _, _, h, _⟩ := hC; exact h
  have hI := Lib.hid hI
  have hC := Lib.hid hC
  obtain ⟨R, hR⟩ : ∃ R, Hid (runR L C = R) := ⟨_, Lib.hid rfl⟩
  obtain ⟨RL, RN, rb⟩ := R
  have hRl : RL.length ≤ 2000000 ∧ RN.length ≤ 2000000 := by
    have e := hR.out
    unfold runR at e
    split at e
    · rename_i hh
      obtain ⟨rfl, rfl, _⟩ := (show (runS L C).1 = RL ∧ (runS L C).2 = RN ∧ true = rb by simpa using e)
      refine ⟨?_, by rw [runS_len]; exact hC2⟩
      have hok : okC C = true := hh.2.2
      clear e hR
      have : ∀ (C : List Cm) (L : List Int), (runS L C).1.length = L.length := by
        intro C
        induction C with
        | nil => intro L; rfl
        | cons c r ih => intro L; rw [runS]; show (runS _ r).1.length = _; rw [ih, stepL_len]
      rw [this]; exact hL2
    · obtain ⟨rfl, rfl, _⟩ := (show [] = RL ∧ [] = RN ∧ false = rb by simpa using e)
      simp
  obtain ⟨hRL2, hRN2⟩ := hRl
  have hir : ∀ (u x : Value) (w : World), Ints w u L → Cmds w x C → Calls Try.prog 21 #[u, x] w (fun e w' => ∃ b u b' u', w.heap.size ≤ b ∧ w.heap.size ≤ b' ∧ ¬ b = b' ∧ e = .returned (.tuple #[u, u', .bool rb]) ∧ Own w' b u RL ∧ Own w' b' u' RN ∧ Below w.heap.size w w') := fun u x w h g => by
    have X := irun_any u x L C w h g
    rw [hR.out] at X
    exact X
  have hir := Lib.hid hir
  have hsr : ∀ (u x : Value) (w : World), Ints w u L → Cmds w x C → Calls Try.prog 22 #[u, x] w (fun e w' => ∃ b u b' u', e = .returned (.tuple #[u, u', .bool rb]) ∧ Own w' b u RL ∧ Own w' b' u' RN ∧ Below w.heap.size w w') := fun u x w h g => by
    have X := srun_any u x L C w h g
    rw [hR.out] at X
    exact X
  have hsr := Lib.hid hsr
  clear hR
  go_enter Try.func13, Try.ntmps13
  go_wp2_with fail
  refine (szC_any a' len' cap' _ _ rfl (by omega)).mono ?_
  rintro e w1 ⟨rfl, B⟩
  rw [if_neg h']
  have D := Lib.hid B
  clear B
  go_wp2_with fail
  refine (toI_any _ L _ (hI.out.up D.out (Nat.le_refl _))).mono ?_
  rintro e w2 ⟨bY0, y0, g, rfl, Y0, B⟩
  have Y0 := Lib.hid Y0
  have lbY0 := Lib.hid (Nat.le_trans D.out.size g)
  clear g
  replace D := Lib.hid (bstep D.out B)
  clear B
  go_wp2_with fail
  refine (toC_any _ C _ (hC.out.up D.out (Nat.le_refl _))).mono ?_
  rintro e w3 ⟨bYC, yc, g, rfl, YC, B⟩
  have YC := Lib.hid YC
  have nbY0bYC := Lib.hid (Nat.lt_of_lt_of_le Y0.out.lt g)
  have lbYC := Lib.hid (Nat.le_trans D.out.size g)
  clear g
  replace Y0 := Lib.hid (Y0.out.up B Y0.out.lt)
  replace D := Lib.hid (bstep D.out B)
  clear B
  go_wp2_with fail
  refine (hsr.out _ _ _ Y0.out.read YC.out.read).mono ?_
  rintro e w4 ⟨bW0, v0, bW1, v1, rfl, W0, W1, B⟩
  have W0 := Lib.hid W0
  have W1 := Lib.hid W1
  clear Y0 YC
  replace D := Lib.hid (bstep D.out B)
  clear B
  go_wp2_with fail
  refine (toI_any _ L _ (hI.out.up D.out (Nat.le_refl _))).mono ?_
  rintro e w5 ⟨bX0, x0, g, rfl, X0, B⟩
  have X0 := Lib.hid X0
  have nbW0bX0 := Lib.hid (Nat.lt_of_lt_of_le W0.out.lt g)
  have nbW1bX0 := Lib.hid (Nat.lt_of_lt_of_le W1.out.lt g)
  have lbX0 := Lib.hid (Nat.le_trans D.out.size g)
  clear g
  replace W0 := Lib.hid (W0.out.up B W0.out.lt)
  replace W1 := Lib.hid (W1.out.up B W1.out.lt)
  replace D := Lib.hid (bstep D.out B)
  clear B
  go_wp2_with fail
  refine (toC_any _ C _ (hC.out.up D.out (Nat.le_refl _))).mono ?_
  rintro e w6 ⟨bXC, xc, g, rfl, XC, B⟩
  have XC := Lib.hid XC
  have nbW0bXC := Lib.hid (Nat.lt_of_lt_of_le W0.out.lt g)
  have nbW1bXC := Lib.hid (Nat.lt_of_lt_of_le W1.out.lt g)
  have nbX0bXC := Lib.hid (Nat.lt_of_lt_of_le X0.out.lt g)
  have lbXC := Lib.hid (Nat.le_trans D.out.size g)
  clear g
  replace W0 := Lib.hid (W0.out.up B W0.out.lt)
  replace W1 := Lib.hid (W1.out.up B W1.out.lt)
  replace X0 := Lib.hid (X0.out.up B X0.out.lt)
  replace D := Lib.hid (bstep D.out B)
  clear B
  go_wp2_with fail
  refine (hir.out _ _ _ X0.out.read XC.out.read).mono ?_
  rintro e w7 ⟨bG0, g0, bG1, g1, g, g', nn, rfl, G0, G1, B⟩
  have G0 := Lib.hid G0
  have G1 := Lib.hid G1
  have nbG0bG1 := Lib.hid nn
  have nbW0bG0 := Lib.hid (Nat.lt_of_lt_of_le W0.out.lt g)
  have nbW0bG1 := Lib.hid (Nat.lt_of_lt_of_le W0.out.lt g')
  have nbW1bG0 := Lib.hid (Nat.lt_of_lt_of_le W1.out.lt g)
  have nbW1bG1 := Lib.hid (Nat.lt_of_lt_of_le W1.out.lt g')
  have nbX0bG0 := Lib.hid (Nat.lt_of_lt_of_le X0.out.lt g)
  have nbX0bG1 := Lib.hid (Nat.lt_of_lt_of_le X0.out.lt g')
  have nbXCbG0 := Lib.hid (Nat.lt_of_lt_of_le XC.out.lt g)
  have nbXCbG1 := Lib.hid (Nat.lt_of_lt_of_le XC.out.lt g')
  have lbG0 := Lib.hid (Nat.le_trans D.out.size g)
  have lbG1 := Lib.hid (Nat.le_trans D.out.size g')
  clear g g' nn
  replace W0 := Lib.hid (W0.out.up B W0.out.lt)
  replace W1 := Lib.hid (W1.out.up B W1.out.lt)
  replace X0 := Lib.hid (X0.out.up B X0.out.lt)
  replace XC := Lib.hid (XC.out.up B XC.out.lt)
  replace D := Lib.hid (bstep D.out B)
  clear B
  go_wp2_with fail
  refine (eqI_any _ _ RL RL _ G0.out.read W0.out.read).mono ?_
  rintro e w8 ⟨rfl, B⟩
  rw [show decide (RL = RL) = true from by simp]
  replace W0 := Lib.hid (W0.out.up B W0.out.lt)
  replace W1 := Lib.hid (W1.out.up B W1.out.lt)
  replace X0 := Lib.hid (X0.out.up B X0.out.lt)
  replace XC := Lib.hid (XC.out.up B XC.out.lt)
  replace G0 := Lib.hid (G0.out.up B G0.out.lt)
  replace G1 := Lib.hid (G1.out.up B G1.out.lt)
  replace D := Lib.hid (bstep D.out B)
  clear B
  go_wp2_with fail
  refine (eqI_any _ _ RN RN _ G1.out.read W1.out.read).mono ?_
  rintro e w9 ⟨rfl, B⟩
  rw [show decide (RN = RN) = true from by simp]
  replace W0 := Lib.hid (W0.out.up B W0.out.lt)
  replace W1 := Lib.hid (W1.out.up B W1.out.lt)
  replace X0 := Lib.hid (X0.out.up B X0.out.lt)
  replace XC := Lib.hid (XC.out.up B XC.out.lt)
  replace G0 := Lib.hid (G0.out.up B G0.out.lt)
  replace G1 := Lib.hid (G1.out.up B G1.out.lt)
  replace D := Lib.hid (bstep D.out B)
  clear B
  go_wp2_with fail
  refine (toI_any _ L _ (hI.out.up D.out (Nat.le_refl _))).mono ?_
  rintro e w10 ⟨bT0, t0, g, rfl, T0, B⟩
  have T0 := Lib.hid T0
  have nbW0bT0 := Lib.hid (Nat.lt_of_lt_of_le W0.out.lt g)
  have nbW1bT0 := Lib.hid (Nat.lt_of_lt_of_le W1.out.lt g)
  have nbX0bT0 := Lib.hid (Nat.lt_of_lt_of_le X0.out.lt g)
  have nbXCbT0 := Lib.hid (Nat.lt_of_lt_of_le XC.out.lt g)
  have nbG0bT0 := Lib.hid (Nat.lt_of_lt_of_le G0.out.lt g)
  have nbG1bT0 := Lib.hid (Nat.lt_of_lt_of_le G1.out.lt g)
  have lbT0 := Lib.hid (Nat.le_trans D.out.size g)
  clear g
  replace W0 := Lib.hid (W0.out.up B W0.out.lt)
  replace W1 := Lib.hid (W1.out.up B W1.out.lt)
  replace X0 := Lib.hid (X0.out.up B X0.out.lt)
  replace XC := Lib.hid (XC.out.up B XC.out.lt)
  replace G0 := Lib.hid (G0.out.up B G0.out.lt)
  replace G1 := Lib.hid (G1.out.up B G1.out.lt)
  replace D := Lib.hid (bstep D.out B)
  clear B
  go_wp2_with fail
  refine (eqI_any _ _ L L _ X0.out.read T0.out.read).mono ?_
  rintro e w11 ⟨rfl, B⟩
  rw [show decide (L = L) = true from by simp]
  replace W0 := Lib.hid (W0.out.up B W0.out.lt)
  replace W1 := Lib.hid (W1.out.up B W1.out.lt)
  replace X0 := Lib.hid (X0.out.up B X0.out.lt)
  replace XC := Lib.hid (XC.out.up B XC.out.lt)
  replace G0 := Lib.hid (G0.out.up B G0.out.lt)
  replace G1 := Lib.hid (G1.out.up B G1.out.lt)
  replace T0 := Lib.hid (T0.out.up B T0.out.lt)
  replace D := Lib.hid (bstep D.out B)
  clear B
  clear T0
  go_wp2_with fail
  refine (toC_any _ C _ (hC.out.up D.out (Nat.le_refl _))).mono ?_
  rintro e w12 ⟨bTC, tc, g, rfl, TC, B⟩
  have TC := Lib.hid TC
  have nbW0bTC := Lib.hid (Nat.lt_of_lt_of_le W0.out.lt g)
  have nbW1bTC := Lib.hid (Nat.lt_of_lt_of_le W1.out.lt g)
  have nbX0bTC := Lib.hid (Nat.lt_of_lt_of_le X0.out.lt g)
  have nbXCbTC := Lib.hid (Nat.lt_of_lt_of_le XC.out.lt g)
  have nbG0bTC := Lib.hid (Nat.lt_of_lt_of_le G0.out.lt g)
  have nbG1bTC := Lib.hid (Nat.lt_of_lt_of_le G1.out.lt g)
  have lbTC := Lib.hid (Nat.le_trans D.out.size g)
  clear g
  replace W0 := Lib.hid (W0.out.up B W0.out.lt)
  replace W1 := Lib.hid (W1.out.up B W1.out.lt)
  replace X0 := Lib.hid (X0.out.up B X0.out.lt)
  replace XC := Lib.hid (XC.out.up B XC.out.lt)
  replace G0 := Lib.hid (G0.out.up B G0.out.lt)
  replace G1 := Lib.hid (G1.out.up B G1.out.lt)
  replace D := Lib.hid (bstep D.out B)
  clear B
  go_wp2_with fail
  refine (eqC_any _ _ C _ XC.out.read TC.out.read).mono ?_
  rintro e w13 ⟨rfl, B⟩
  replace W0 := Lib.hid (W0.out.up B W0.out.lt)
  replace W1 := Lib.hid (W1.out.up B W1.out.lt)
  replace X0 := Lib.hid (X0.out.up B X0.out.lt)
  replace XC := Lib.hid (XC.out.up B XC.out.lt)
  replace G0 := Lib.hid (G0.out.up B G0.out.lt)
  replace G1 := Lib.hid (G1.out.up B G1.out.lt)
  replace TC := Lib.hid (TC.out.up B TC.out.lt)
  replace D := Lib.hid (bstep D.out B)
  clear B
  clear TC
  go_wp2_with fail
  refine (mark_any bX0 x0 L 1 _ X0.out (by omega) (by omega)).mono ?_
  rintro e w14 ⟨rfl, XMM, XMK, XM, hK⟩
  have XM := Lib.hid XM
  have XMK := Lib.hid XMK
  replace W0 := Lib.hid (W0.out.same (hK.block _ W0.out.lt (by have := nbW0bX0.out; omega)))
  replace W1 := Lib.hid (W1.out.same (hK.block _ W1.out.lt (by have := nbW1bX0.out; omega)))
  replace XC := Lib.hid (XC.out.same (hK.block _ XC.out.lt (by have := nbX0bXC.out; omega)))
  replace G0 := Lib.hid (G0.out.same (hK.block _ G0.out.lt (by have := nbX0bG0.out; omega)))
  replace G1 := Lib.hid (G1.out.same (hK.block _ G1.out.lt (by have := nbX0bG1.out; omega)))
  replace D := Lib.hid (D.out.trans ((hK.mono D.out.size).below lbX0.out))
  clear hK X0
  clear XM
  go_wp2_with fail
  refine (markC_any bXC xc C (1 + (L.length : Int)) _ XC.out (by omega) (by omega)).mono ?_
  rintro e w15 ⟨rfl, hK⟩
  replace W0 := Lib.hid (W0.out.same (hK.block _ W0.out.lt (by have := nbW0bXC.out; omega)))
  replace W1 := Lib.hid (W1.out.same (hK.block _ W1.out.lt (by have := nbW1bXC.out; omega)))
  replace G0 := Lib.hid (G0.out.same (hK.block _ G0.out.lt (by have := nbXCbG0.out; omega)))
  replace G1 := Lib.hid (G1.out.same (hK.block _ G1.out.lt (by have := nbXCbG1.out; omega)))
  replace D := Lib.hid (D.out.trans ((hK.mono D.out.size).below lbXC.out))
  clear hK XC
  go_wp2_with fail
  refine (eqI_any _ _ RL RL _ G0.out.read W0.out.read).mono ?_
  rintro e w16 ⟨rfl, B⟩
  rw [show decide (RL = RL) = true from by simp]
  replace W0 := Lib.hid (W0.out.up B W0.out.lt)
  replace W1 := Lib.hid (W1.out.up B W1.out.lt)
  replace G0 := Lib.hid (G0.out.up B G0.out.lt)
  replace G1 := Lib.hid (G1.out.up B G1.out.lt)
  replace D := Lib.hid (bstep D.out B)
  clear B
  go_wp2_with fail
  refine (eqI_any _ _ RN RN _ G1.out.read W1.out.read).mono ?_
  rintro e w17 ⟨rfl, B⟩
  rw [show decide (RN = RN) = true from by simp]
  replace W0 := Lib.hid (W0.out.up B W0.out.lt)
  replace W1 := Lib.hid (W1.out.up B W1.out.lt)
  replace G0 := Lib.hid (G0.out.up B G0.out.lt)
  replace G1 := Lib.hid (G1.out.up B G1.out.lt)
  replace D := Lib.hid (bstep D.out B)
  clear B
  go_wp2_with fail
  refine (mark_any bG0 g0 RL 1 _ G0.out (by omega) (by omega)).mono ?_
  rintro e w18 ⟨rfl, H0M, H0K, H0, hK⟩
  have H0 := Lib.hid H0
  have H0K := Lib.hid H0K
  replace W0 := Lib.hid (W0.out.same (hK.block _ W0.out.lt (by have := nbW0bG0.out; omega)))
  replace W1 := Lib.hid (W1.out.same (hK.block _ W1.out.lt (by have := nbW1bG0.out; omega)))
  replace G1 := Lib.hid (G1.out.same (hK.block _ G1.out.lt (by have := nbG0bG1.out; omega)))
  replace D := Lib.hid (D.out.trans ((hK.mono D.out.size).below lbG0.out))
  clear hK G0
  go_wp2_with fail
  refine (mark_any bG1 g1 RN (1 + (RL.length : Int)) _ G1.out (by omega) (by omega)).mono ?_
  rintro e w19 ⟨rfl, H1M, H1K, H1, hK⟩
  have H1 := Lib.hid H1
  have H1K := Lib.hid H1K
  replace W0 := Lib.hid (W0.out.same (hK.block _ W0.out.lt (by have := nbW0bG1.out; omega)))
  replace W1 := Lib.hid (W1.out.same (hK.block _ W1.out.lt (by have := nbW1bG1.out; omega)))
  replace H0 := Lib.hid (H0.out.same (hK.block _ H0.out.lt (by have := nbG0bG1.out; omega)))
  replace D := Lib.hid (D.out.trans ((hK.mono D.out.size).below lbG1.out))
  clear hK G1
  go_wp2_with fail
  refine (held_any _ 1 RL.length H0M _ H0K.out H0.out.read (by omega) (by omega)).mono ?_
  rintro e w20 ⟨rfl, B⟩
  replace W0 := Lib.hid (W0.out.up B W0.out.lt)
  replace W1 := Lib.hid (W1.out.up B W1.out.lt)
  replace H0 := Lib.hid (H0.out.up B H0.out.lt)
  replace H1 := Lib.hid (H1.out.up B H1.out.lt)
  replace D := Lib.hid (bstep D.out B)
  clear B
  go_wp2_with fail
  refine (held_any _ (1 + (RL.length : Int)) RN.length H1M _ H1K.out H1.out.read (by omega) (by omega)).mono ?_
  rintro e w21 ⟨rfl, B⟩
  replace W0 := Lib.hid (W0.out.up B W0.out.lt)
  replace W1 := Lib.hid (W1.out.up B W1.out.lt)
  replace H0 := Lib.hid (H0.out.up B H0.out.lt)
  replace H1 := Lib.hid (H1.out.up B H1.out.lt)
  replace D := Lib.hid (bstep D.out B)
  clear B
  go_wp2_with fail
  refine (toI_any _ L _ (hI.out.up D.out (Nat.le_refl _))).mono ?_
  rintro e w22 ⟨bS0, s0, g, rfl, S0, B⟩
  have S0 := Lib.hid S0
  have nbW0bS0 := Lib.hid (Nat.lt_of_lt_of_le W0.out.lt g)
  have nbW1bS0 := Lib.hid (Nat.lt_of_lt_of_le W1.out.lt g)
  have nbG0bS0 := Lib.hid (Nat.lt_of_lt_of_le H0.out.lt g)
  have nbG1bS0 := Lib.hid (Nat.lt_of_lt_of_le H1.out.lt g)
  have lbS0 := Lib.hid (Nat.le_trans D.out.size g)
  clear g
  replace W0 := Lib.hid (W0.out.up B W0.out.lt)
  replace W1 := Lib.hid (W1.out.up B W1.out.lt)
  replace H0 := Lib.hid (H0.out.up B H0.out.lt)
  replace H1 := Lib.hid (H1.out.up B H1.out.lt)
  replace D := Lib.hid (bstep D.out B)
  clear B
  go_wp2_with fail
  refine (toC_any _ C _ (hC.out.up D.out (Nat.le_refl _))).mono ?_
  rintro e w23 ⟨bSC, sc, g, rfl, SC, B⟩
  have SC := Lib.hid SC
  have nbW0bSC := Lib.hid (Nat.lt_of_lt_of_le W0.out.lt g)
  have nbW1bSC := Lib.hid (Nat.lt_of_lt_of_le W1.out.lt g)
  have nbG0bSC := Lib.hid (Nat.lt_of_lt_of_le H0.out.lt g)
  have nbG1bSC := Lib.hid (Nat.lt_of_lt_of_le H1.out.lt g)
  have nbS0bSC := Lib.hid (Nat.lt_of_lt_of_le S0.out.lt g)
  have lbSC := Lib.hid (Nat.le_trans D.out.size g)
  clear g
  replace W0 := Lib.hid (W0.out.up B W0.out.lt)
  replace W1 := Lib.hid (W1.out.up B W1.out.lt)
  replace H0 := Lib.hid (H0.out.up B H0.out.lt)
  replace H1 := Lib.hid (H1.out.up B H1.out.lt)
  replace S0 := Lib.hid (S0.out.up B S0.out.lt)
  replace D := Lib.hid (bstep D.out B)
  clear B
  go_wp2_with fail
  refine (hir.out _ _ _ S0.out.read SC.out.read).mono ?_
  rintro e w24 ⟨bK0, k0, bK1, k1, g, g', nn, rfl, K0, K1, B⟩
  have K0 := Lib.hid K0
  have K1 := Lib.hid K1
  have nbK0bK1 := Lib.hid nn
  have nbW0bK0 := Lib.hid (Nat.lt_of_lt_of_le W0.out.lt g)
  have nbW0bK1 := Lib.hid (Nat.lt_of_lt_of_le W0.out.lt g')
  have nbW1bK0 := Lib.hid (Nat.lt_of_lt_of_le W1.out.lt g)
  have nbW1bK1 := Lib.hid (Nat.lt_of_lt_of_le W1.out.lt g')
  have nbG0bK0 := Lib.hid (Nat.lt_of_lt_of_le H0.out.lt g)
  have nbG0bK1 := Lib.hid (Nat.lt_of_lt_of_le H0.out.lt g')
  have nbG1bK0 := Lib.hid (Nat.lt_of_lt_of_le H1.out.lt g)
  have nbG1bK1 := Lib.hid (Nat.lt_of_lt_of_le H1.out.lt g')
  have nbS0bK0 := Lib.hid (Nat.lt_of_lt_of_le S0.out.lt g)
  have nbS0bK1 := Lib.hid (Nat.lt_of_lt_of_le S0.out.lt g')
  have nbSCbK0 := Lib.hid (Nat.lt_of_lt_of_le SC.out.lt g)
  have nbSCbK1 := Lib.hid (Nat.lt_of_lt_of_le SC.out.lt g')
  have lbK0 := Lib.hid (Nat.le_trans D.out.size g)
  have lbK1 := Lib.hid (Nat.le_trans D.out.size g')
  clear g g' nn
  replace W0 := Lib.hid (W0.out.up B W0.out.lt)
  replace W1 := Lib.hid (W1.out.up B W1.out.lt)
  replace H0 := Lib.hid (H0.out.up B H0.out.lt)
  replace H1 := Lib.hid (H1.out.up B H1.out.lt)
  replace S0 := Lib.hid (S0.out.up B S0.out.lt)
  replace SC := Lib.hid (SC.out.up B SC.out.lt)
  replace D := Lib.hid (bstep D.out B)
  clear B
  clear S0 SC
  go_wp2_with fail
  refine (eqI_any _ _ RL RL _ K0.out.read W0.out.read).mono ?_
  rintro e w25 ⟨rfl, B⟩
  rw [show decide (RL = RL) = true from by simp]
  replace W0 := Lib.hid (W0.out.up B W0.out.lt)
  replace W1 := Lib.hid (W1.out.up B W1.out.lt)
  replace H0 := Lib.hid (H0.out.up B H0.out.lt)
  replace H1 := Lib.hid (H1.out.up B H1.out.lt)
  replace K0 := Lib.hid (K0.out.up B K0.out.lt)
  replace K1 := Lib.hid (K1.out.up B K1.out.lt)
  replace D := Lib.hid (bstep D.out B)
  clear B
  go_wp2_with fail
  refine (eqI_any _ _ RN RN _ K1.out.read W1.out.read).mono ?_
  rintro e w26 ⟨rfl, B⟩
  rw [show decide (RN = RN) = true from by simp]
  replace W0 := Lib.hid (W0.out.up B W0.out.lt)
  replace W1 := Lib.hid (W1.out.up B W1.out.lt)
  replace H0 := Lib.hid (H0.out.up B H0.out.lt)
  replace H1 := Lib.hid (H1.out.up B H1.out.lt)
  replace K0 := Lib.hid (K0.out.up B K0.out.lt)
  replace K1 := Lib.hid (K1.out.up B K1.out.lt)
  replace D := Lib.hid (bstep D.out B)
  clear B
  clear K0 K1 W0 W1
  go_wp2_with fail
  refine (held_any _ 1 RL.length H0M _ H0K.out H0.out.read (by omega) (by omega)).mono ?_
  rintro e w27 ⟨rfl, B⟩
  replace H0 := Lib.hid (H0.out.up B H0.out.lt)
  replace H1 := Lib.hid (H1.out.up B H1.out.lt)
  replace D := Lib.hid (bstep D.out B)
  clear B
  go_wp2_with fail
  refine (held_any _ (1 + (RL.length : Int)) RN.length H1M _ H1K.out H1.out.read (by omega) (by omega)).mono ?_
  rintro e w28 ⟨rfl, B⟩
  replace H0 := Lib.hid (H0.out.up B H0.out.lt)
  replace H1 := Lib.hid (H1.out.up B H1.out.lt)
  replace D := Lib.hid (bstep D.out B)
  clear B
  go_wp2_with fail
  go_ret
  exact ⟨rfl, D.out⟩

theorem exrun_any (a : Option Addr) (len cap : Nat) (a' : Option Addr) (len' cap' : Nat) (w : World) (h : IntsIn w a len cap) (hm : len' ≤ maxLen) (g : 1048576 < len' ∨ ∃ C, Cmds w (.slice a' len' cap') C) :
    Calls Try.prog 13 #[.slice a len cap, .slice a' len' cap'] w fun e w' => e = .returned (.bool true) ∧ Below w.heap.size w w' := by
  unfold maxLen at hm
  by_cases hl : 1048576 < len
  · exact exrun_long a len cap a' len' cap' w hl
  · by_cases hl' : 1048576 < len'
    · exact exrun_long2 a len cap a' len' cap' w hl hl' (by omega)
    · rcases h with h | ⟨L, h⟩
      · exact absurd h hl
      · rcases g with g | ⟨C, g⟩
        · exact absurd g hl'
        · exact exrun_short a len cap a' len' cap' L C w hl hl' h g
end Go.Proofs.Ytmekkjnegmeogaa
