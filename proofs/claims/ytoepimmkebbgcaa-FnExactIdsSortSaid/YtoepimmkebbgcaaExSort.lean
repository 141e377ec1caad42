/- The walk of FnExactIdsSort. -/
import Derived.Test.YtoepimmkebbgcaaIsort
import Derived.Test.YtoepimmkebbgcaaIdl
import Derived.Test.YtoepimmkebbgcaaIdk
namespace Go.Proofs.Ytoepimmkebbgcaa
open Go.RowKit
set_option linter.unusedVariables false

theorem OwnP.keep {w w' : World} {b r : Nat} {v : Value} {C : List Pid} (h : OwnP w b v C) (hk : Keep w.heap.size r w w') (hr : b ≠ r) : OwnP w' b v C := h.same (hk.block b h.lt hr)
theorem kstep {w wc w' : World} {r : Nat} (D : Below w.heap.size w wc) (hk : Keep wc.heap.size r wc w') (hr : w.heap.size ≤ r) : Below w.heap.size w w' := D.trans ((hk.mono D.size).below hr)

set_option maxHeartbeats 8000000 in
theorem exIdsSort_any (a : Option Addr) (len cap : Nat) (w : World) (hlm : len ≤ maxLen) (h : 1048576 < len ∨ ∃ C, Ids w (.slice a len cap) C) :
    Calls Try.prog 10 #[.slice a len cap] w fun e w' => e = .returned (.bool true) ∧ Below w.heap.size w w' := by
  have hm : len ≤ 9223372036854775807 := by simpa [maxLen] using hlm
  clear hlm
  have sz := szP_any a len cap 1048576
  by_cases hl : 1048576 < len
  · rw [if_pos hl] at sz
    clear h
    go_enter Try.func10, Try.ntmps10
    go_wp2_with fail
    refine (sz _ (by trivial) hm).mono ?_
    rintro e w1 ⟨rfl, hb⟩
    have D1 := Lib.hid hb
    clear hb sz
    go_wp2_with fail
    go_ret
    exact ⟨rfl, D1.out⟩
  · rw [if_neg hl] at sz
    obtain ⟨C, hU⟩ := h.resolve_left hl
    have hCl : C.length = len := by
      obtain ⟨a', cap', e, _⟩ := hU
      injection e with _ e2 _
      exact e2.symm
    have hU := Lib.hid hU
    have hC2 : Hid (C.length ≤ 1800000) := Lib.hid (by omega)
    have hC3 : Hid ((sortR C).1.length ≤ 12) := Lib.hid (sortR_len C)
    have hCl := Lib.hid hCl
    clear h
    go_enter Try.func10, Try.ntmps10
    go_wp2_with fail
    refine (sz _ (by trivial) hm).mono ?_
    rintro e w1 ⟨rfl, hb⟩
    have D1 := Lib.hid hb
    clear hb sz
    go_wp2_with fail
    refine (toP_any _ C _ (hU.out.up D1.out (Nat.le_refl _))).mono ?_
    rintro e w2 ⟨b2, u2, hb2, rfl, O2, B⟩
    have D2 := Lib.hid (bstep D1.out B)
    have O2 := Lib.hid O2
    clear B D1
    go_wp2_with fail
    refine (ssort_any _ C _ O2.out.read hC2.out).mono ?_
    rintro e w3 ⟨g4, v4, hg4, rfl, O4, B⟩
    have D3 := Lib.hid (bstep D2.out B)
    have O4 := Lib.hid O4
    clear B D2 O2
    obtain ⟨S, f, hR⟩ : ∃ S f, Hid (sortR C = (S, f)) := ⟨_, _, Lib.hid rfl⟩
    rw [hR.out] at O4 hC3 ⊢
    dsimp only at O4 hC3 ⊢
    have G4 := O4.out.lt
    go_wp2_with fail
    refine (toP_any _ C _ (hU.out.up D3.out (Nat.le_refl _))).mono ?_
    rintro e w4 ⟨b6, u6, hb6, rfl, O6, B⟩
    have D4 := Lib.hid (bstep D3.out B)
    have O4a := Lib.hid (O4.out.up B G4)
    have hne1 : g4 ≠ b6 := by omega
    have G6 := O6.lt
    have hw6 : w.heap.size ≤ b6 := Nat.le_trans D3.out.size hb6
    have O6 := Lib.hid O6
    clear B D3 O4
    go_wp2_with fail
    refine (isort_any _ C _ O6.out.read hC2.out).mono ?_
    rintro e w5 ⟨g7, v7, hg7, rfl, O7, B⟩
    rw [hR.out] at O7 ⊢
    dsimp only at O7 ⊢
    have D5 := Lib.hid (bstep D4.out B)
    have O4b := Lib.hid (O4a.out.up B O4a.out.lt)
    have O6b := Lib.hid (O6.out.up B G6)
    have hne2 : b6 ≠ g7 := by omega
    have hne3 : g4 ≠ g7 := by have := O4a.out.lt; omega
    have hw7 : w.heap.size ≤ g7 := Nat.le_trans D4.out.size hg7
    have O7 := Lib.hid O7
    clear B D4 O4a O6
    go_wp2_with fail
    refine (eqP_any _ _ S _ O7.out.read O4b.out.read).mono ?_
    rintro e w6 ⟨rfl, B⟩
    have D6 := Lib.hid (bstep D5.out B)
    have O4c := Lib.hid (O4b.out.up B O4b.out.lt)
    have O6c := Lib.hid (O6b.out.up B O6b.out.lt)
    have O7c := Lib.hid (O7.out.up B O7.out.lt)
    clear B D5 O4b O6b O7
    go_wp2_with fail
    refine (toP_any _ C _ (hU.out.up D6.out (Nat.le_refl _))).mono ?_
    rintro e w7 ⟨b8, u8, hb8, rfl, O8, B⟩
    have D7 := Lib.hid (bstep D6.out B)
    have O4d := Lib.hid (O4c.out.up B O4c.out.lt)
    have O6d := Lib.hid (O6c.out.up B O6c.out.lt)
    have O7d := Lib.hid (O7c.out.up B O7c.out.lt)
    have O8 := Lib.hid O8
    clear B D6 O4c O6c O7c
    go_wp2_with fail
    refine (eqP_any _ _ C _ O6d.out.read O8.out.read).mono ?_
    rintro e w8 ⟨rfl, B⟩
    have D8 := Lib.hid (bstep D7.out B)
    have O4e := Lib.hid (O4d.out.up B O4d.out.lt)
    have O6e := Lib.hid (O6d.out.up B O6d.out.lt)
    have O7e := Lib.hid (O7d.out.up B O7d.out.lt)
    clear B D7 O4d O6d O7d O8
    go_wp2_with fail
    refine (markP_any b6 _ C 1 _ O6e.out (by omega) (by omega)).mono ?_
    rintro e w9 ⟨rfl, M, hM, hMk, O9, K⟩
    have D9 := Lib.hid (kstep D8.out K hw6)
    have O4f := Lib.hid (O4e.out.keep K hne1)
    have O7f := Lib.hid (O7e.out.keep K (fun e => hne2 e.symm))
    clear K D8 O4e O6e O7e O9 hMk hM
    rw [hCl.out]
    go_wp2_with fail
    refine (eqP_any _ _ S _ O7f.out.read O4f.out.read).mono ?_
    rintro e w10 ⟨rfl, B⟩
    have D10 := Lib.hid (bstep D9.out B)
    have O4g := Lib.hid (O4f.out.up B O4f.out.lt)
    have O7g := Lib.hid (O7f.out.up B O7f.out.lt)
    clear B D9 O4f O7f
    go_wp2_with fail
    refine (markP_any g7 _ S 1 _ O7g.out (by omega) (by omega)).mono ?_
    rintro e w11 ⟨rfl, M2, hM2, hMk2, O11, K⟩
    have D11 := Lib.hid (kstep D10.out K hw7)
    have O4h := Lib.hid (O4g.out.keep K hne3)
    have O11 := Lib.hid O11
    have hMk2 := Lib.hid hMk2
    have hM2 := Lib.hid hM2
    clear K D10 O4g O7g
    have hl1 := hC3.out
    obtain ⟨ns, hns⟩ : ∃ ns, Hid (S.length = ns) := ⟨_, Lib.hid rfl⟩
    rw [hns.out] at hl1 ⊢
    go_wp2_with fail
    refine (heldP_any _ 1 M2 _ hMk2.out O11.out.read (by omega) (by omega)).mono ?_
    rw [hM2.out, hns.out]
    rintro e w12 ⟨rfl, B⟩
    have D12 := Lib.hid (bstep D11.out B)
    have O4i := Lib.hid (O4h.out.up B O4h.out.lt)
    have O12 := Lib.hid (O11.out.up B O11.out.lt)
    clear B D11 O4h O11
    go_wp2_with fail
    refine (toP_any _ C _ (hU.out.up D12.out (Nat.le_refl _))).mono ?_
    rintro e w13 ⟨b13, u13, hb13, rfl, O13, B⟩
    have D13 := Lib.hid (bstep D12.out B)
    have O4j := Lib.hid (O4i.out.up B O4i.out.lt)
    have O12b := Lib.hid (O12.out.up B O12.out.lt)
    have O13 := Lib.hid O13
    clear B D12 O4i O12
    go_wp2_with fail
    refine (isort_any _ C _ O13.out.read hC2.out).mono ?_
    rintro e w14 ⟨g14, v14, hg14, rfl, O14, B⟩
    rw [hR.out] at O14 ⊢
    dsimp only at O14 ⊢
    have D14 := Lib.hid (bstep D13.out B)
    have O4k := Lib.hid (O4j.out.up B O4j.out.lt)
    have O12c := Lib.hid (O12b.out.up B O12b.out.lt)
    have O14 := Lib.hid O14
    clear B D13 O4j O12b O13
    go_wp2_with fail
    refine (eqP_any _ _ S _ O14.out.read O4k.out.read).mono ?_
    rintro e w15 ⟨rfl, B⟩
    have D15 := Lib.hid (bstep D14.out B)
    have O12d := Lib.hid (O12c.out.up B O12c.out.lt)
    clear B D14 O4k O12c O14
    go_wp2_with fail
    refine (heldP_any _ 1 M2 _ hMk2.out O12d.out.read (by omega) (by omega)).mono ?_
    rw [hM2.out, hns.out]
    rintro e w16 ⟨rfl, B⟩
    have D16 := Lib.hid (bstep D15.out B)
    clear B D15 O12d
    go_wp2_with fail
    go_ret
    exact ⟨rfl, D16.out⟩
end Go.Proofs.Ytoepimmkebbgcaa
