/- Texts laid together. -/
import Derived.Test.YtdikcenhakfheaaC01
import Derived.Test.YtdikcenhakfheaaC04
/- The walks of the laws on ballots: FnBallot, FnBallotNext, FnBallotNextOther, and the exact ones. -/
namespace Go.Proofs.Ytdikcenhakfheaa
open Go.RowKit
set_option linter.unusedVariables false

set_option maxRecDepth 100000 in
set_option maxHeartbeats 4000000 in
theorem fnExactBallotOf_walk (n p : Int) (w : World) :
    Calls Try.prog 6 #[.int .i64 n, .int .i64 p] w fun e w' => e = .returned (.bool true) ∧ Below w.heap.size w w' := by
  go_enter Try.func6, Try.ntmps6
  go_wp2_with fail
  refine (sball_any n p _).mono ?_
  rintro e w' ⟨rfl, rfl⟩
  go_wp2_with fail
  refine (iball_any n p _).mono ?_
  rintro e w' ⟨rfl, rfl⟩
  go_wp2_with fail
  go_ret
  exact ⟨rfl, Below.refl _ _⟩

set_option maxRecDepth 100000 in
set_option maxHeartbeats 4000000 in
theorem fnExactBallotNext_walk (n p : Int) (w : World) :
    Calls Try.prog 7 #[.int .i64 n, .int .i64 p] w fun e w' => e = .returned (.bool true) ∧ Below w.heap.size w w' := by
  go_enter Try.func7, Try.ntmps7
  go_wp2_with fail
  refine (snbal_any n p _).mono ?_
  rintro e w' ⟨rfl, rfl⟩
  go_wp2_with fail
  refine (inbal_any n p _).mono ?_
  rintro e w' ⟨rfl, rfl⟩
  go_wp2_with fail
  go_ret
  exact ⟨rfl, Below.refl _ _⟩

set_option maxRecDepth 100000 in
set_option maxHeartbeats 4000000 in
theorem fnBallot_walk (a : Option Addr) (len cap : Nat) (w : World) (hc : CodeIn w a len cap) (hcap : cap ≤ maxLen) :
    Calls Try.prog 3 #[.slice a len cap] w fun e w' => e = .returned (.bool true) ∧ Below w.heap.size w w' := by
  have dn := dball_any a len cap w hc hcap
  by_cases hlen : 1048576 < len
  · go_enter Try.func3, Try.ntmps3
    go_wp2_with fail
    go_ret
    exact ⟨rfl, Below.refl _ _⟩
  · go_enter Try.func3, Try.ntmps3
    go_wp2_with fail
    refine dn.mono ?_
    rintro e w1 ⟨⟨n, p, rfl, n0, n1, p0, p1⟩, B⟩
    have D := Lib.hid B
    clear dn B
    have is := iball_any n p w1
    have ss := sball_any n p w1
    rcases bal_cases n p with ec | ⟨v, v0, v1, rfl, rfl, ec⟩
    · rw [ec] at is ss
      clear ec
      go_wp2_with fail
      refine is.mono ?_
      rintro e w' ⟨rfl, rfl⟩
      clear is
      go_wp2_with fail
      refine ss.mono ?_
      rintro e w' ⟨rfl, rfl⟩
      clear ss
      go_wp2_with fail
      go_ret
      exact ⟨rfl, D.out⟩
    · rw [ec] at is ss
      clear ec
      go_wp2_with fail
      refine is.mono ?_
      rintro e w' ⟨rfl, rfl⟩
      clear is
      go_wp2_with fail
      refine ss.mono ?_
      rintro e w' ⟨rfl, rfl⟩
      clear ss
      go_wp2_with fail
      go_ret
      exact ⟨rfl, D.out⟩

set_option maxRecDepth 100000 in
set_option maxHeartbeats 4000000 in
theorem fnBallotNext_walk (a : Option Addr) (len cap : Nat) (w : World) (hc : CodeIn w a len cap) (hcap : cap ≤ maxLen) :
    Calls Try.prog 4 #[.slice a len cap] w fun e w' => e = .returned (.bool true) ∧ Below w.heap.size w w' := by
  have dn := dnbal_any a len cap w hc hcap
  by_cases hlen : 1048576 < len
  · go_enter Try.func4, Try.ntmps4
    go_wp2_with fail
    go_ret
    exact ⟨rfl, Below.refl _ _⟩
  · go_enter Try.func4, Try.ntmps4
    go_wp2_with fail
    refine dn.mono ?_
    rintro e w1 ⟨⟨n, p, rfl, n0, n1, p0, p1⟩, B⟩
    have D := Lib.hid B
    clear dn B
    have is := inbal_any n p w1
    have ss := snbal_any n p w1
    rcases nbal_cases n p with ec | ⟨⟨b0, b1⟩, v, v0, v1, v5, rfl, ec⟩
    · rw [ec] at is ss
      clear ec
      go_wp2_with fail
      refine is.mono ?_
      rintro e w' ⟨rfl, rfl⟩
      clear is
      go_wp2_with fail
      refine ss.mono ?_
      rintro e w' ⟨rfl, rfl⟩
      clear ss
      go_wp2_with fail
      go_ret
      exact ⟨rfl, D.out⟩
    · have v2 : 0 ≤ v := by omega
      rw [ec] at is ss
      clear ec
      go_wp2_with fail
      refine is.mono ?_
      rintro e w' ⟨rfl, rfl⟩
      clear is
      go_wp2_with fail
      refine ss.mono ?_
      rintro e w' ⟨rfl, rfl⟩
      clear ss
      go_wp2_with fail
      go_ret
      exact ⟨rfl, D.out⟩

set_option maxRecDepth 100000 in
set_option maxHeartbeats 4000000 in
theorem fnBallotNextOther_walk (a : Option Addr) (len cap : Nat) (w : World) (hc : CodeIn w a len cap) (hcap : cap ≤ maxLen) :
    Calls Try.prog 5 #[.slice a len cap] w fun e w' => e = .returned (.bool true) ∧ Below w.heap.size w w' := by
  have dn := dnbal_any a len cap w hc hcap
  by_cases hlen : 1048576 < len
  · go_enter Try.func5, Try.ntmps5
    go_wp2_with fail
    go_ret
    exact ⟨rfl, Below.refl _ _⟩
  · go_enter Try.func5, Try.ntmps5
    go_wp2_with fail
    refine dn.mono ?_
    rintro e w1 ⟨⟨n, p, rfl, n0, n1, p0, p1⟩, B⟩
    have D := Lib.hid B
    clear dn B
    have is := inbal_any n p w1
    have ss := snbal_any n p w1
    rcases nbal_cases n p with ec | ⟨⟨b0, b1⟩, v, v0, v1, v5, hp, ec⟩
    · rw [ec] at is ss
      clear ec
      go_wp2_with fail
      refine is.mono ?_
      rintro e w' ⟨rfl, rfl⟩
      clear is
      go_wp2_with fail
      refine ss.mono ?_
      rintro e w' ⟨rfl, rfl⟩
      clear ss
      go_wp2_with fail
      go_ret
      exact ⟨rfl, D.out⟩
    · have hne := nbal_other (b := n) (p := p) (v := v) (by omega) hp
      have io := inbal_any n ((p + 1) % 5) w1
      generalize nbalR n ((p + 1) % 5) = m at io hne
      have q0 : 0 ≤ p := by omega
      have q1 : p < 5 := by omega
      have v2 : 0 ≤ v := by omega
      rw [ec] at is ss
      clear hp ec v5 p0 p1
      go_wp2_with fail
      refine is.mono ?_
      rintro e w' ⟨rfl, rfl⟩
      clear is
      go_wp2_with fail
      refine ss.mono ?_
      rintro e w' ⟨rfl, rfl⟩
      clear ss
      go_wp2_with fail
      refine io.mono ?_
      rintro e w' ⟨rfl, rfl⟩
      clear io
      go_wp2_with fail
      go_ret
      exact ⟨by simp [hne], D.out⟩

end Go.Proofs.Ytdikcenhakfheaa
