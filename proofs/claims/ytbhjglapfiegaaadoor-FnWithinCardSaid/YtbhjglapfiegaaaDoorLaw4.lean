/- The walks of FnDepsJoinBoth, FnDepsJoinNone, FnWithin. -/
import Derived.Test.YtbhjglapfiegaaaDoorSdj
import Derived.Test.YtbhjglapfiegaaaDoorDdj
import Derived.Test.YtbhjglapfiegaaaDoorDwin
import Derived.Test.YtbhjglapfiegaaaDoorWin
import Derived.Test.YtbhjglapfiegaaaDoorSwin
import Derived.Test.YtbhjglapfiegaaaDoorLsame
import Derived.Test.YtbhjglapfiegaaaDoorDval
namespace Go.Proofs.YtbhjglapfiegaaaDoor
open Go.RowKit
set_option linter.unusedVariables false

theorem joinR_yes {a b : List Pid} (h : (joinR a b).2 = true) : (joinR a b).1 = joinP a b ∧ srtB a = true ∧ srtB b = true ∧ (joinP a b).length ≤ 12 := by
  unfold joinR at h ⊢
  split at h
  · rename_i hh; rw [if_pos hh]; exact ⟨rfl, hh⟩
  · cases h
theorem join_srt {a b : List Pid} (ha : srtB a = true) (hb : srtB b = true) (h : (joinP a b).length ≤ 12) : srtB (joinP a b) = true := by
  refine srt_to h (List.all_eq_true.2 fun x hx => ?_) (joinP_asc (srt_of ha).2.2)
  rcases joinP_mem.1 hx with h | h
  · exact List.all_eq_true.1 (srt_of ha).2.1 x h
  · exact List.all_eq_true.1 (srt_of hb).2.1 x h
theorem join_comm {a b : List Pid} (ha : srtB a = true) (hb : srtB b = true) : joinP b a = joinP a b :=
  asc_ext (joinP_asc (srt_of hb).2.2) (joinP_asc (srt_of ha).2.2) (fun x => by rw [joinP_mem, joinP_mem]; exact Or.comm)
theorem join_abs {a b : List Pid} (ha : srtB a = true) : joinP (joinP a b) b = joinP a b :=
  asc_ext (joinP_asc (joinP_asc (srt_of ha).2.2)) (joinP_asc (srt_of ha).2.2) (fun x => by
    rw [joinP_mem, joinP_mem]
    constructor
    · rintro (h | h)
      · exact h
      · exact .inr h
    · exact .inl)
theorem join_self {a : List Pid} (ha : srtB a = true) : joinP a a = a :=
  asc_ext (joinP_asc (srt_of ha).2.2) (srt_of ha).2.2 (fun x => by rw [joinP_mem]; exact or_self_iff)
theorem join_in {a b : List Pid} (ha : srtB a = true) (hb : srtB b = true) (h : inP a b = true) : joinP a b = b :=
  asc_ext (joinP_asc (srt_of ha).2.2) (srt_of hb).2.2 (fun x => by
    rw [joinP_mem]
    constructor
    · rintro (h' | h')
      · exact inP_iff.1 h x h'
      · exact h'
    · exact .inr)
theorem joinR_both {a b S : List Pid} (ha : srtB a = true) (hb : srtB b = true) (hS : joinP a b = S) (hl : S.length ≤ 12) : joinR a b = (S, true) := by
  rw [joinR_t ha hb (by rw [hS]; exact hl), hS]
theorem in_len {a b : List Pid} (ha : srtB a = true) (hb : srtB b = true) (h : inP a b = true) : a.length ≤ b.length := by
  have := (foldl_len b a).1
  rw [show b.foldl putP a = b from join_in ha hb h] at this; exact this

set_option maxHeartbeats 8000000 in
theorem fnDepsJoinBoth_walk (a : Option Addr) (len cap : Nat) (w : World) (hc : CodeIn w a len cap) (hcap : cap ≤ maxLen) (hT : TabIn w) :
    Calls Tryd.prog 4 #[.slice a len cap] w fun e w' => e = .returned (.bool true) ∧ Below w.heap.size w w' := by
  have hm : cap ≤ 9223372036854775807 := by simpa [maxLen] using hcap
  have hlc := hc.1
  by_cases hl : 1048576 < len
  · clear hcap hc hT
    go_enter Tryd.func4, Tryd.ntmps4
    go_wp2_with fail
    go_ret
    exact ⟨rfl, Below.refl _ _⟩
  · have hc1 := Lib.hid hc
    have hcap1 := Lib.hid hcap
    have hT := Lib.hid hT
    clear hc hcap
    go_enter Tryd.func4, Tryd.ntmps4
    go_wp2_with fail
    refine (ddj_any a len cap w hc1.out hcap1.out).mono ?_
    rintro e w0 ⟨u, v, A, B, rfl, hA, hB, hAl, hBl, D1'⟩
    have D := Lib.hid D1'
    have hA := Lib.hid hA
    have hB := Lib.hid hB
    clear hc1 hcap1 D1'
    go_wp2_with fail
    refine (djoin_any u v A B _ hA.out hB.out (hT.out.up D.out (Nat.le_refl _))).mono ?_
    rintro e w1 ⟨g, x, hg, rfl, hO, hb⟩
    have hO := Lib.hid hO
    replace hA := Lib.hid (hA.out.up hb (Nat.le_refl _))
    replace hB := Lib.hid (hB.out.up hb (Nat.le_refl _))
    replace D := Lib.hid (bstep D.out hb)
    clear hb
    go_wp2_with fail
    refine (sdj_any u v A B _ hA.out hB.out).mono ?_
    rintro e w2 ⟨g2, y, hg2, rfl, hP, hb⟩
    have hP := Lib.hid hP
    replace hA := Lib.hid (hA.out.up hb (Nat.le_refl _))
    replace hB := Lib.hid (hB.out.up hb (Nat.le_refl _))
    replace hO := Lib.hid (hO.out.up hb hO.out.lt)
    replace D := Lib.hid (bstep D.out hb)
    clear hb
    have hyes : Hid ((joinR A B).2 = true → (joinR A B).1 = joinP A B ∧ srtB A = true ∧ srtB B = true ∧ (joinP A B).length ≤ 12) := Lib.hid joinR_yes
    generalize joinR A B = R at hO hP hyes ⊢
    obtain ⟨S, f⟩ := R
    dsimp only at hO hP hyes ⊢
    go_wp2_with fail
    refine (same_any x y S _ hO.out.read hP.out.read).mono ?_
    rintro e w3 ⟨rfl, hb⟩
    replace hA := Lib.hid (hA.out.up hb (Nat.le_refl _))
    replace hB := Lib.hid (hB.out.up hb (Nat.le_refl _))
    replace hO := Lib.hid (hO.out.up hb hO.out.lt)
    replace hP := Lib.hid (hP.out.up hb hP.out.lt)
    replace D := Lib.hid (bstep D.out hb)
    clear hb
    cases f
    · go_wp2_with fail
      refine (same_any x y S _ hO.out.read hP.out.read).mono ?_
      rintro e w4 ⟨rfl, hb⟩
      replace D := Lib.hid (bstep D.out hb)
      clear hb
      clear hA hB hO hP
      go_wp2_with fail
      go_ret
      exact ⟨rfl, D.out⟩
    · obtain ⟨hSJ, hqa, hqb, hle⟩ := hyes.out rfl
      have hSJ := Lib.hid hSJ
      have hqa := Lib.hid hqa
      have hqb := Lib.hid hqb
      have hSs : Hid (srtB S = true) := Lib.hid (by rw [hSJ.out]; exact join_srt hqa.out hqb.out hle)
      have hle : Hid (S.length ≤ 12) := Lib.hid (by rw [hSJ.out]; exact hle)
      clear hyes hP
      have hr1 : Hid (joinR B A = (S, true)) := Lib.hid (joinR_both hqb.out hqa.out ((join_comm hqa.out hqb.out).trans hSJ.out.symm) hle.out)
      have hr2 : Hid (joinR S B = (S, true)) := Lib.hid (joinR_both hSs.out hqb.out (by rw [hSJ.out]; exact join_abs hqa.out) hle.out)
      go_wp2_with fail
      refine (djoin_any v u B A _ hB.out hA.out (hT.out.up D.out (Nat.le_refl _))).mono ?_
      rintro e w5 ⟨g3, x3, hg3, rfl, hX, hb⟩
      rw [hr1.out] at hX ⊢
      have hX := Lib.hid hX
      replace hA := Lib.hid (hA.out.up hb (Nat.le_refl _))
      replace hB := Lib.hid (hB.out.up hb (Nat.le_refl _))
      replace hO := Lib.hid (hO.out.up hb hO.out.lt)
      replace D := Lib.hid (bstep D.out hb)
      clear hb
      go_wp2_with fail
      refine (djoin_any x v S B _ hO.out.read hB.out (hT.out.up D.out (Nat.le_refl _))).mono ?_
      rintro e w6 ⟨g4, x4, hg4, rfl, hY, hb⟩
      rw [hr2.out] at hY ⊢
      have hY := Lib.hid hY
      replace hO := Lib.hid (hO.out.up hb hO.out.lt)
      replace hX := Lib.hid (hX.out.up hb hX.out.lt)
      replace D := Lib.hid (bstep D.out hb)
      clear hb
      go_wp2_with fail
      refine (same_any x3 x S _ hX.out.read hO.out.read).mono ?_
      rintro e w7 ⟨rfl, hb⟩
      replace hO := Lib.hid (hO.out.up hb hO.out.lt)
      replace hY := Lib.hid (hY.out.up hb hY.out.lt)
      replace D := Lib.hid (bstep D.out hb)
      clear hb
      go_wp2_with fail
      refine (same_any x4 x S _ hY.out.read hO.out.read).mono ?_
      rintro e w8 ⟨rfl, hb⟩
      replace D := Lib.hid (bstep D.out hb)
      clear hb
      clear hA hB hO hX hY
      go_wp2_with fail
      go_ret
      exact ⟨rfl, D.out⟩

set_option maxHeartbeats 8000000 in
theorem fnDepsJoinNone_walk (a : Option Addr) (len cap : Nat) (w : World) (hc : CodeIn w a len cap) (hcap : cap ≤ maxLen) (hT : TabIn w) :
    Calls Tryd.prog 5 #[.slice a len cap] w fun e w' => e = .returned (.bool true) ∧ Below w.heap.size w w' := by
  have hm : cap ≤ 9223372036854775807 := by simpa [maxLen] using hcap
  have hlc := hc.1
  by_cases hl : 1048576 < len
  · clear hcap hc hT
    go_enter Tryd.func5, Tryd.ntmps5
    go_wp2_with fail
    go_ret
    exact ⟨rfl, Below.refl _ _⟩
  · have hc1 := Lib.hid hc
    have hcap1 := Lib.hid hcap
    have hT := Lib.hid hT
    clear hc hcap
    go_enter Tryd.func5, Tryd.ntmps5
    go_wp2_with fail
    refine (ddj_any a len cap w hc1.out hcap1.out).mono ?_
    rintro e w0 ⟨u, v, A, B, rfl, hA, hB, hAl, hBl, D1'⟩
    have D := Lib.hid D1'
    have hA := Lib.hid hA
    have hB := Lib.hid hB
    clear hc1 hcap1 D1'
    go_wp2_with fail
    refine (djoin_any u v A B _ hA.out hB.out (hT.out.up D.out (Nat.le_refl _))).mono ?_
    rintro e w1 ⟨g, x, hg, rfl, hO, hb⟩
    have hO := Lib.hid hO
    replace hA := Lib.hid (hA.out.up hb (Nat.le_refl _))
    replace hB := Lib.hid (hB.out.up hb (Nat.le_refl _))
    replace D := Lib.hid (bstep D.out hb)
    clear hb
    go_wp2_with fail
    refine (sdj_any u v A B _ hA.out hB.out).mono ?_
    rintro e w2 ⟨g2, y, hg2, rfl, hP, hb⟩
    have hP := Lib.hid hP
    replace hA := Lib.hid (hA.out.up hb (Nat.le_refl _))
    replace hB := Lib.hid (hB.out.up hb (Nat.le_refl _))
    replace hO := Lib.hid (hO.out.up hb hO.out.lt)
    replace D := Lib.hid (bstep D.out hb)
    clear hb
    have hyes : Hid ((joinR A B).2 = true → (joinR A B).1 = joinP A B ∧ srtB A = true ∧ srtB B = true ∧ (joinP A B).length ≤ 12) := Lib.hid joinR_yes
    generalize joinR A B = R at hO hP hyes ⊢
    obtain ⟨S, f⟩ := R
    dsimp only at hO hP hyes ⊢
    go_wp2_with fail
    refine (same_any x y S _ hO.out.read hP.out.read).mono ?_
    rintro e w3 ⟨rfl, hb⟩
    replace hA := Lib.hid (hA.out.up hb (Nat.le_refl _))
    replace hB := Lib.hid (hB.out.up hb (Nat.le_refl _))
    replace hO := Lib.hid (hO.out.up hb hO.out.lt)
    replace hP := Lib.hid (hP.out.up hb hP.out.lt)
    replace D := Lib.hid (bstep D.out hb)
    clear hb
    cases f
    · go_wp2_with fail
      refine (same_any x y S _ hO.out.read hP.out.read).mono ?_
      rintro e w4 ⟨rfl, hb⟩
      replace D := Lib.hid (bstep D.out hb)
      clear hb
      clear hA hB hO hP
      go_wp2_with fail
      go_ret
      exact ⟨rfl, D.out⟩
    · obtain ⟨hSJ, hqa, hqb, hle⟩ := hyes.out rfl
      have hSJ := Lib.hid hSJ
      have hqa := Lib.hid hqa
      have hqb := Lib.hid hqb
      have hSs : Hid (srtB S = true) := Lib.hid (by rw [hSJ.out]; exact join_srt hqa.out hqb.out hle)
      have hle : Hid (S.length ≤ 12) := Lib.hid (by rw [hSJ.out]; exact hle)
      clear hyes hP
      have hla : Hid (A.length ≤ 12) := Lib.hid (srt_of hqa.out).1
      have hr1 : Hid (joinR A [] = (A, true)) := Lib.hid (joinR_both hqa.out (by decide) rfl hla.out)
      have hr2 : Hid (joinR A A = (A, true)) := Lib.hid (joinR_both hqa.out hqa.out (join_self hqa.out) hla.out)
      clear hB hO
      go_wp2_with fail
      refine (djoin_any u _ A [] _ (hA.out.up ((Below.refl _ _).alloc (Nat.le_refl _) _) (Nat.le_refl _)) (ownP_nil _ _).read (hT.out.up (D.out.alloc D.out.size _) (Nat.le_refl _))).mono ?_
      rintro e w5 ⟨g3, x3, hg3, rfl, hX, hb⟩
      rw [hr1.out] at hX ⊢
      have hX := Lib.hid hX
      replace hA := Lib.hid ((hA.out.up ((Below.refl _ _).alloc (Nat.le_refl _) (.cells #[] 31)) (Nat.le_refl _)).up hb (Nat.le_refl _))
      replace D := Lib.hid (D.out.alloc D.out.size (.cells #[] 31))
      replace D := Lib.hid (bstep D.out hb)
      clear hb
      go_wp2_with fail
      refine (djoin_any u u A A _ hA.out hA.out (hT.out.up D.out (Nat.le_refl _))).mono ?_
      rintro e w6 ⟨g4, x4, hg4, rfl, hY, hb⟩
      rw [hr2.out] at hY ⊢
      have hY := Lib.hid hY
      replace hA := Lib.hid (hA.out.up hb (Nat.le_refl _))
      replace hX := Lib.hid (hX.out.up hb hX.out.lt)
      replace D := Lib.hid (bstep D.out hb)
      clear hb
      go_wp2_with fail
      refine (same_any x3 u A _ hX.out.read hA.out).mono ?_
      rintro e w7 ⟨rfl, hb⟩
      replace hA := Lib.hid (hA.out.up hb (Nat.le_refl _))
      replace hY := Lib.hid (hY.out.up hb hY.out.lt)
      replace D := Lib.hid (bstep D.out hb)
      clear hb
      go_wp2_with fail
      refine (same_any x4 u A _ hY.out.read hA.out).mono ?_
      rintro e w8 ⟨rfl, hb⟩
      replace D := Lib.hid (bstep D.out hb)
      clear hb
      clear hA hX hY
      go_wp2_with fail
      go_ret
      exact ⟨rfl, D.out⟩

set_option maxHeartbeats 8000000 in
theorem fnWithin_walk (a : Option Addr) (len cap : Nat) (w : World) (hc : CodeIn w a len cap) (hcap : cap ≤ maxLen) (hT : TabIn w) :
    Calls Tryd.prog 6 #[.slice a len cap] w fun e w' => e = .returned (.bool true) ∧ Below w.heap.size w w' := by
  have hm : cap ≤ 9223372036854775807 := by simpa [maxLen] using hcap
  have hlc := hc.1
  by_cases hl : 1048576 < len
  · clear hcap hc hT
    go_enter Tryd.func6, Tryd.ntmps6
    go_wp2_with fail
    go_ret
    exact ⟨rfl, Below.refl _ _⟩
  · have hc1 := Lib.hid hc
    have hcap1 := Lib.hid hcap
    have hT := Lib.hid hT
    clear hc hcap
    go_enter Tryd.func6, Tryd.ntmps6
    go_wp2_with fail
    refine (dwin_any a len cap w hc1.out hcap1.out).mono ?_
    rintro e w0 ⟨u, v, A, B, rfl, hA, hB, hAl, hBl, D1'⟩
    have D := Lib.hid D1'
    have hA := Lib.hid hA
    have hB := Lib.hid hB
    clear hc1 hcap1 D1'
    go_wp2_with fail
    refine (iwin_any u v A B _ hA.out hB.out).mono ?_
    rintro e w1 ⟨rfl, hb⟩
    replace hA := Lib.hid (hA.out.up hb (Nat.le_refl _))
    replace hB := Lib.hid (hB.out.up hb (Nat.le_refl _))
    replace D := Lib.hid (bstep D.out hb)
    clear hb
    go_wp2_with fail
    refine (swin_any u v A B _ hA.out hB.out).mono ?_
    rintro e w2 ⟨rfl, hb⟩
    replace hA := Lib.hid (hA.out.up hb (Nat.le_refl _))
    replace hB := Lib.hid (hB.out.up hb (Nat.le_refl _))
    replace D := Lib.hid (bstep D.out hb)
    clear hb
    have hyes : Hid (withinB A B = true → srtB A = true ∧ srtB B = true ∧ inP A B = true) := Lib.hid fun h => by simpa [withinB] using h
    generalize withinB A B = q at hyes ⊢
    cases q
    · clear hA hB
      go_wp2_with fail
      go_ret
      exact ⟨rfl, D.out⟩
    · obtain ⟨hqa, hqb, hqi⟩ := hyes.out rfl
      have hlb := (srt_of hqb).1
      have hll := in_len hqa hqb hqi
      have hr1 : Hid (joinR A B = (B, true)) := Lib.hid (joinR_both hqa hqb (join_in hqa hqb hqi) hlb)
      have hlb := Lib.hid hlb
      have hll := Lib.hid hll
      clear hyes hqa hqb hqi
      go_wp2_with fail
      refine (djoin_any u v A B _ hA.out hB.out (hT.out.up D.out (Nat.le_refl _))).mono ?_
      rintro e w3 ⟨g3, x3, hg3, rfl, hX, hb⟩
      rw [hr1.out] at hX ⊢
      have hX := Lib.hid hX
      replace hA := Lib.hid (hA.out.up hb (Nat.le_refl _))
      replace hB := Lib.hid (hB.out.up hb (Nat.le_refl _))
      replace D := Lib.hid (bstep D.out hb)
      clear hb
      go_wp2_with fail
      refine (same_any x3 v B _ hX.out.read hB.out).mono ?_
      rintro e w4 ⟨rfl, hb⟩
      replace hA := Lib.hid (hA.out.up hb (Nat.le_refl _))
      replace hB := Lib.hid (hB.out.up hb (Nat.le_refl _))
      replace D := Lib.hid (bstep D.out hb)
      clear hb
      obtain ⟨a1, c1, hu, hc1, _, _⟩ := hA.out
      obtain ⟨a2, c2, hv, hc2, _, _⟩ := hB.out
      have hlb := hlb.out
      have hll := hll.out
      clear hA hB hX hr1
      obtain ⟨na, hna⟩ : ∃ n, A.length = n := ⟨_, rfl⟩
      obtain ⟨nb, hnb⟩ : ∃ n, B.length = n := ⟨_, rfl⟩
      rw [hna] at hll hu hc1
      rw [hnb] at hll hv hc2 hlb
      subst hu hv
      have hle2 : (na : Int) ≤ (nb : Int) := by omega
      clear hna hnb
      go_wp2_with fail
      go_ret
      exact ⟨by simp, D.out⟩
end Go.Proofs.YtbhjglapfiegaaaDoor
