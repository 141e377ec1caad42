/- The walk of FnWithinBoth. -/
import Derived.Test.YtbhjglapfiegaaaWin
import Derived.Test.YtbhjglapfiegaaaSwin
import Derived.Test.YtbhjglapfiegaaaDwin
import Derived.Test.YtbhjglapfiegaaaLsameg
namespace Go.Proofs.Ytbhjglapfiegaaa
open Go.RowKit
set_option linter.unusedVariables false

theorem in_both {A B : List Pid} (ha : srtB A = true) (hb : srtB B = true) : (inP A B && inP B A) = decide (A = B) := by
  rw [Bool.eq_iff_iff, Bool.and_eq_true, inP_iff, inP_iff, decide_eq_true_iff]
  constructor
  · rintro ⟨h1, h2⟩; exact asc_ext (srt_of ha).2.2 (srt_of hb).2.2 (fun x => ⟨h1 x, h2 x⟩)
  · rintro rfl; exact ⟨fun x h => h, fun x h => h⟩

set_option maxHeartbeats 4000000 in
theorem fnWithinBoth_walk (a : Option Addr) (len cap : Nat) (w : World) (hc : CodeIn w a len cap) (hcap : cap ≤ maxLen) :
    Calls Try.prog 3 #[.slice a len cap] w fun e w' => e = .returned (.bool true) ∧ Below w.heap.size w w' := by
  have hm : cap ≤ 9223372036854775807 := by simpa [maxLen] using hcap
  have hlc := hc.1
  by_cases hl : 1048576 < len
  · clear hcap hc
    go_enter Try.func3, Try.ntmps3
    go_wp2_with fail
    go_ret
    exact ⟨rfl, Below.refl _ _⟩
  · have hc1 := Lib.hid hc
    have hcap1 := Lib.hid hcap
    clear hc hcap
    go_enter Try.func3, Try.ntmps3
    go_wp2_with fail
    refine (dwin_any a len cap w hc1.out hcap1.out).mono ?_
    rintro e w1 ⟨u, v, A, B, rfl, hA, hB, hAl, hBl, D1'⟩
    have D1 := Lib.hid D1'
    have hA := Lib.hid hA
    have hB := Lib.hid hB
    clear hc1 hcap1 D1'
    go_wp2_with fail
    refine (iwin_any u v A B _ hA.out hB.out).mono ?_
    rintro e w2 ⟨rfl, hb⟩
    have D2 := Lib.hid (bstep D1.out hb)
    have hA2 := Lib.hid (hA.out.up hb (Nat.le_refl _))
    have hB2 := Lib.hid (hB.out.up hb (Nat.le_refl _))
    clear hb hA hB D1
    go_wp2_with fail
    refine (swin_any u v A B _ hA2.out hB2.out).mono ?_
    rintro e w3 ⟨rfl, hb⟩
    have D3 := Lib.hid (bstep D2.out hb)
    have hA3 := Lib.hid (hA2.out.up hb (Nat.le_refl _))
    have hB3 := Lib.hid (hB2.out.up hb (Nat.le_refl _))
    clear hb hA2 hB2 D2
    have hboth : Hid (srtB A = true → srtB B = true → (inP A B && inP B A) = decide (A = B)) := Lib.hid in_both
    have s1 := fun w h => sval_any u A w h
    have s2 := fun w h => sval_any v B w h
    have s3 := fun w h g => iwin_any v u B A w h g
    have s4 := fun w h g => sameg_any u v A B w h g
    unfold withinB at s3 ⊢
    generalize srtB A = qa at s1 s3 hboth ⊢
    generalize srtB B = qb at s2 s3 hboth ⊢
    generalize inP A B = qi at hboth ⊢
    generalize inP B A = qj at s3 hboth
    generalize decide (A = B) = qe at s4 hboth
    cases qa
    · simp only [Bool.false_and]
      go_wp2_with fail
      refine (s1 _ hA3.out).mono ?_
      rintro e w4 ⟨rfl, hb⟩
      have D4 := Lib.hid (bstep D3.out hb)
      clear hb hA3 hB3 D3
      go_wp2_with fail
      go_ret
      exact ⟨rfl, D4.out⟩
    · cases qb
      · simp only [Bool.true_and, Bool.false_and]
        go_wp2_with fail
        refine (s1 _ hA3.out).mono ?_
        rintro e w4 ⟨rfl, hb⟩
        have D4 := Lib.hid (bstep D3.out hb)
        have hB4 := Lib.hid (hB3.out.up hb (Nat.le_refl _))
        clear hb hA3 hB3 D3
        go_wp2_with fail
        refine (s2 _ hB4.out).mono ?_
        rintro e w5 ⟨rfl, hb⟩
        have D5 := Lib.hid (bstep D4.out hb)
        clear hb hB4 D4
        go_wp2_with fail
        go_ret
        exact ⟨rfl, D5.out⟩
      · have hq := hboth.out rfl rfl
        subst hq
        clear hboth
        simp only [Bool.true_and] at s3 ⊢
        have hne : (qi != qi) = false := by simp
        cases qi
        · go_wp2_with fail
          refine (s1 _ hA3.out).mono ?_
          rintro e w4 ⟨rfl, hb⟩
          have D4 := Lib.hid (bstep D3.out hb)
          have hA4 := Lib.hid (hA3.out.up hb (Nat.le_refl _))
          have hB4 := Lib.hid (hB3.out.up hb (Nat.le_refl _))
          clear hb hA3 hB3 D3
          go_wp2_with fail
          refine (s2 _ hB4.out).mono ?_
          rintro e w5 ⟨rfl, hb⟩
          have D5 := Lib.hid (bstep D4.out hb)
          have hA5 := Lib.hid (hA4.out.up hb (Nat.le_refl _))
          have hB5 := Lib.hid (hB4.out.up hb (Nat.le_refl _))
          clear hb hA4 hB4 D4
          go_wp2_with fail
          refine (s4 _ hA5.out hB5.out).mono ?_
          rintro e w6 ⟨rfl, hb⟩
          have D6 := Lib.hid (bstep D5.out hb)
          clear hb hA5 hB5 D5
          go_wp2_with fail
          go_ret
          exact ⟨rfl, D6.out⟩
        · go_wp2_with fail
          refine (s1 _ hA3.out).mono ?_
          rintro e w4 ⟨rfl, hb⟩
          have D4 := Lib.hid (bstep D3.out hb)
          have hA4 := Lib.hid (hA3.out.up hb (Nat.le_refl _))
          have hB4 := Lib.hid (hB3.out.up hb (Nat.le_refl _))
          clear hb hA3 hB3 D3
          go_wp2_with fail
          refine (s2 _ hB4.out).mono ?_
          rintro e w5 ⟨rfl, hb⟩
          have D5 := Lib.hid (bstep D4.out hb)
          have hA5 := Lib.hid (hA4.out.up hb (Nat.le_refl _))
          have hB5 := Lib.hid (hB4.out.up hb (Nat.le_refl _))
          clear hb hA4 hB4 D4
          go_wp2_with fail
          refine (s3 _ hB5.out hA5.out).mono ?_
          rintro e w6 ⟨rfl, hb⟩
          have D6 := Lib.hid (bstep D5.out hb)
          have hA6 := Lib.hid (hA5.out.up hb (Nat.le_refl _))
          have hB6 := Lib.hid (hB5.out.up hb (Nat.le_refl _))
          clear hb hA5 hB5 D5
          go_wp2_with fail
          refine (s4 _ hA6.out hB6.out).mono ?_
          rintro e w7 ⟨rfl, hb⟩
          have D7 := Lib.hid (bstep D6.out hb)
          clear hb hA6 hB6 D6
          go_wp2_with fail
          go_ret
          exact ⟨by simp, D7.out⟩
end Go.Proofs.Ytbhjglapfiegaaa
