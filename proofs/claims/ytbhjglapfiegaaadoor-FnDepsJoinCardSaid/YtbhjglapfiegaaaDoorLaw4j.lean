/- The walk of FnDepsJoin. -/
import Derived.Test.YtbhjglapfiegaaaDoorLaw4
import Derived.Test.YtbhjglapfiegaaaDoorLhas
namespace Go.Proofs.YtbhjglapfiegaaaDoor
open Go.RowKit
set_option linter.unusedVariables false

theorem join_has {A B S : List Pid} (h : S = joinP A B) {i : Nat} (hi : i < S.length) : hasP A (S.getD i nop) = false → hasP B (S.getD i nop) = true := by
  intro hn
  have hm : S.getD i nop ∈ S := by rw [List.getD_eq_getElem?_getD, List.getElem?_eq_getElem hi]; exact List.getElem_mem _
  rw [h] at hm
  unfold hasP at hn ⊢
  rw [decide_eq_false_iff_not] at hn
  rw [decide_eq_true_iff]
  rw [h] at hn ⊢
  rcases joinP_mem.1 hm with h' | h'
  · exact absurd h' hn
  · exact h'
theorem join_within {A B S : List Pid} (h : S = joinP A B) (ha : srtB A = true) (hb : srtB B = true) (hs : srtB S = true) : withinB A S = true ∧ withinB B S = true := by
  unfold withinB
  rw [ha, hb, hs, Bool.true_and, Bool.true_and, Bool.true_and, Bool.true_and, inP_iff, inP_iff]
  subst h
  exact ⟨fun x hx => joinP_mem.2 (.inl hx), fun x hx => joinP_mem.2 (.inr hx)⟩

set_option maxHeartbeats 8000000 in
theorem fnDepsJoin_walk (a : Option Addr) (len cap : Nat) (w : World) (hc : CodeIn w a len cap) (hcap : cap ≤ maxLen) (hT : TabIn w) :
    Calls Tryd.prog 3 #[.slice a len cap] w fun e w' => e = .returned (.bool true) ∧ Below w.heap.size w w' := by
  have hm : cap ≤ 9223372036854775807 := by simpa [maxLen] using hcap
  have hlc := hc.1
  by_cases hl : 1048576 < len
  · clear hcap hc hT
    go_enter Tryd.func3, Tryd.ntmps3
    go_wp2_with fail
    go_ret
    exact ⟨rfl, Below.refl _ _⟩
  · have hc1 := Lib.hid hc
    have hcap1 := Lib.hid hcap
    have hT := Lib.hid hT
    clear hc hcap
    go_enter Tryd.func3, Tryd.ntmps3
    go_wp2_with fail
    refine (ddj_any a len cap w hc1.out hcap1.out).mono ?_
    rintro e w0 ⟨u, v, A, B, rfl, hA, hB, hAl, hBl, D1'⟩
    have D := Lib.hid D1'
    have hA := Lib.hid hA
    have hB := Lib.hid hB
    clear hc1 hcap1 D1'
    go_wp2_with fail
    refine (djoin_any u v A B _ hA.out hB.out (hT.out.up D.out (Nat.le_refl _))).mono ?_
    rintro e w1 ⟨g, x, hg, rfl, hO, hb⟩
    have hO := Lib.hid hO
    replace hA := Lib.hid (hA.out.up hb (Nat.le_refl _))
    replace hB := Lib.hid (hB.out.up hb (Nat.le_refl _))
    replace D := Lib.hid (bstep D.out hb)
    clear hb
    go_wp2_with fail
    refine (sdj_any u v A B _ hA.out hB.out).mono ?_
    rintro e w2 ⟨g2, y, hg2, rfl, hP, hb⟩
    have hP := Lib.hid hP
    replace hA := Lib.hid (hA.out.up hb (Nat.le_refl _))
    replace hB := Lib.hid (hB.out.up hb (Nat.le_refl _))
    replace hO := Lib.hid (hO.out.up hb hO.out.lt)
    replace D := Lib.hid (bstep D.out hb)
    clear hb
    have hyes : Hid ((joinR A B).2 = true → (joinR A B).1 = joinP A B ∧ srtB A = true ∧ srtB B = true ∧ (joinP A B).length ≤ 12) := Lib.hid joinR_yes
    generalize joinR A B = R at hO hP hyes ⊢
    obtain ⟨S, f⟩ := R
    dsimp only at hO hP hyes ⊢
    go_wp2_with fail
    refine (same_any x y S _ hO.out.read hP.out.read).mono ?_
    rintro e w3 ⟨rfl, hb⟩
    replace hA := Lib.hid (hA.out.up hb (Nat.le_refl _))
    replace hB := Lib.hid (hB.out.up hb (Nat.le_refl _))
    replace hO := Lib.hid (hO.out.up hb hO.out.lt)
    replace hP := Lib.hid (hP.out.up hb hP.out.lt)
    replace D := Lib.hid (bstep D.out hb)
    clear hb
    cases f
    · go_wp2_with fail
      refine (same_any x y S _ hO.out.read hP.out.read).mono ?_
      rintro e w4 ⟨rfl, hb⟩
      replace D := Lib.hid (bstep D.out hb)
      clear hb
      clear hA hB hO hP
      go_wp2_with fail
      go_ret
      exact ⟨rfl, D.out⟩
    · obtain ⟨hSJ, hqa, hqb, hle⟩ := hyes.out rfl
      have hSJ := Lib.hid hSJ
      have hqa := Lib.hid hqa
      have hqb := Lib.hid hqb
      have hSs : Hid (srtB S = true) := Lib.hid (by rw [hSJ.out]; exact join_srt hqa.out hqb.out hle)
      have hle : Hid (S.length ≤ 12) := Lib.hid (by rw [hSJ.out]; exact hle)
      clear hyes hP
      have hw1 := fun w h g => iwin_any u x A S w h g
      have hw2 := fun w h g => iwin_any v x B S w h g
      have hv1 := fun w h => ival_any x S w h
      rw [hSs.out] at hv1
      rw [(join_within hSJ.out hqa.out hqb.out hSs.out).1] at hw1
      rw [(join_within hSJ.out hqa.out hqb.out hSs.out).2] at hw2
      obtain ⟨n, hn⟩ : ∃ n, Hid (S.length = n) := ⟨_, Lib.hid rfl⟩
      have hjh : Hid (∀ i, i < n → hasP A (S.getD i nop) = false → hasP B (S.getD i nop) = true) := Lib.hid fun i hi => join_has hSJ.out (by rw [hn.out]; exact hi)
      obtain ⟨cS, hx, hcS⟩ := hO.out.shape
      have hle := hle.out
      rw [hn.out] at hx hcS hle
      subst hx
      clear hSs hqa hqb hSJ
      go_wp2_with fail
      go_loopw [9] (fun i wr => ∃ k : Nat, k ≤ n ∧ i = .int .i64 k ∧ Hid (Below w3.heap.size w3 wr)) (fun i _ => n - (intOf i).toNat)
      case atStart => exact ⟨0, Nat.zero_le _, rfl, Lib.hid (Below.refl _ _)⟩
      case round =>
        obtain ⟨k, hk, rfl, hnx⟩ := hrel
        by_cases hlt : k < n
        · obtain ⟨q0, q1⟩ := (hO.out.up hnx.out hO.out.lt).cell k (by rw [hn.out]; exact hlt)
          have hjk := hjh.out k hlt
          have hA2 := Lib.hid (hA.out.up hnx.out (Nat.le_refl _))
          have hB2 := Lib.hid (hB.out.up hnx.out (Nat.le_refl _))
          generalize S.getD k nop = c at q0 q1 hjk
          obtain ⟨p, r⟩ := c
          dsimp only at q0 q1
          have s1 := fun w h => lhas_any u A p r w h
          have s2 := fun w h => lhas_any v B p r w h
          generalize hasP A (p, r) = qa at s1 hjk
          clear hO hA hB hw1 hw2 hv1
          cases qa
          · rw [hjk rfl] at s2
            go_wp2_with fail
            refine (s1 _ hA2.out).mono ?_
            rintro e w6 ⟨rfl, hb⟩
            replace hB2 := Lib.hid (hB2.out.up hb (Nat.le_refl _))
            have D6 := Lib.hid (bstep hnx.out hb)
            replace q0 := cell_later hb q0
            replace q1 := cell_later hb q1
            clear hb hA2
            go_wp2_with fail
            refine (s2 _ hB2.out).mono ?_
            rintro e w7 ⟨rfl, hb⟩
            have D7 := Lib.hid (bstep D6.out hb)
            clear hb hB2 q0 q1 D6
            go_wp2_with fail
            go_roundw
            case rel => exact ⟨k + 1, by omega, by go_num, D7⟩
            case measure => simp [intOf]; omega
          · go_wp2_with fail
            refine (s1 _ hA2.out).mono ?_
            rintro e w6 ⟨rfl, hb⟩
            have D6 := Lib.hid (bstep hnx.out hb)
            clear hb hA2 hB2 q0 q1
            go_wp2_with fail
            go_roundw
            case rel => exact ⟨k + 1, by omega, by go_num, D6⟩
            case measure => simp [intOf]; omega
        · replace hA := Lib.hid (hA.out.up hnx.out (Nat.le_refl _))
          replace hB := Lib.hid (hB.out.up hnx.out (Nat.le_refl _))
          replace hO := Lib.hid (hO.out.up hnx.out hO.out.lt)
          replace D := Lib.hid (bstep D.out hnx.out)
          clear hnx hjh
          go_wp2_with fail
          refine (hv1 _ hO.out.read).mono ?_
          rintro e w8 ⟨rfl, hb⟩
          replace hA := Lib.hid (hA.out.up hb (Nat.le_refl _))
          replace hB := Lib.hid (hB.out.up hb (Nat.le_refl _))
          replace hO := Lib.hid (hO.out.up hb hO.out.lt)
          replace D := Lib.hid (bstep D.out hb)
          clear hb
          go_wp2_with fail
          refine (hw1 _ hA.out hO.out.read).mono ?_
          rintro e w9 ⟨rfl, hb⟩
          replace hB := Lib.hid (hB.out.up hb (Nat.le_refl _))
          replace hO := Lib.hid (hO.out.up hb hO.out.lt)
          replace D := Lib.hid (bstep D.out hb)
          clear hb
          go_wp2_with fail
          refine (hw2 _ hB.out hO.out.read).mono ?_
          rintro e w10 ⟨rfl, hb⟩
          replace D := Lib.hid (bstep D.out hb)
          clear hb
          go_wp2_with fail
          go_ret
          exact ⟨rfl, D.out⟩
end Go.Proofs.YtbhjglapfiegaaaDoor
