/- The walks of the laws on sizes: FnSlow, FnFast, FnFastSlow, FnMeet, FnMeetMore, FnMeetAll, and the exact ones. -/
import Derived.Test.YtbamdeaonfgjgaaQme
import Derived.Test.YtbamdeaonfgjgaaQdr
namespace Go.Proofs.Ytbamdeaonfgjgaa
open Go.RowKit
set_option linter.unusedVariables false

set_option maxRecDepth 100000 in
set_option maxHeartbeats 4000000 in
theorem fnExactSlowSize_walk (n : Int) (w : World) :
    Calls Try.prog 9 #[.int .i64 n] w fun e w' => e = .returned (.bool true) ∧ Below w.heap.size w w' := by
  go_enter Try.func9, Try.ntmps9
  go_wp2_with fail
  refine (sslow_any n _).mono ?_
  rintro e w' ⟨rfl, rfl⟩
  go_wp2_with fail
  refine (islow_any n _).mono ?_
  rintro e w' ⟨rfl, rfl⟩
  go_wp2_with fail
  go_ret
  exact ⟨rfl, Below.refl _ _⟩

set_option maxRecDepth 100000 in
set_option maxHeartbeats 4000000 in
theorem fnExactFastSize_walk (n : Int) (w : World) :
    Calls Try.prog 10 #[.int .i64 n] w fun e w' => e = .returned (.bool true) ∧ Below w.heap.size w w' := by
  go_enter Try.func10, Try.ntmps10
  go_wp2_with fail
  refine (sfast_any n _).mono ?_
  rintro e w' ⟨rfl, rfl⟩
  go_wp2_with fail
  refine (ifast_any n _).mono ?_
  rintro e w' ⟨rfl, rfl⟩
  go_wp2_with fail
  go_ret
  exact ⟨rfl, Below.refl _ _⟩

set_option maxRecDepth 100000 in
set_option maxHeartbeats 4000000 in
theorem fnExactMeetSize_walk (n a : Int) (w : World) :
    Calls Try.prog 11 #[.int .i64 n, .int .i64 a] w fun e w' => e = .returned (.bool true) ∧ Below w.heap.size w w' := by
  go_enter Try.func11, Try.ntmps11
  go_wp2_with fail
  refine (smeet_any n a _).mono ?_
  rintro e w' ⟨rfl, rfl⟩
  go_wp2_with fail
  refine (imeet_any n a _).mono ?_
  rintro e w' ⟨rfl, rfl⟩
  go_wp2_with fail
  go_ret
  exact ⟨rfl, Below.refl _ _⟩

theorem slow1 : slowR 1 = 1 := rfl
theorem fast1 : fastR 1 = 1 := rfl

theorem slow2 : slowR 2 = 2 := rfl
theorem fast2 : fastR 2 = 2 := rfl

theorem slow3 : slowR 3 = 2 := rfl
theorem fast3 : fastR 3 = 3 := rfl

theorem slow4 : slowR 4 = 3 := rfl
theorem fast4 : fastR 4 = 3 := rfl

theorem slow5 : slowR 5 = 3 := rfl
theorem fast5 : fastR 5 = 4 := rfl

set_option maxRecDepth 100000 in
set_option maxHeartbeats 4000000 in
theorem fnSlow_walk (a : Option Addr) (len cap : Nat) (w : World) (hc : CodeIn w a len cap) (hcap : cap ≤ maxLen) :
    Calls Try.prog 3 #[.slice a len cap] w fun e w' => e = .returned (.bool true) ∧ Below w.heap.size w w' := by
  have dn := dslow_any a len cap w hc hcap
  by_cases hlen : 1048576 < len
  · go_enter Try.func3, Try.ntmps3
    go_wp2_with fail
    go_ret
    exact ⟨rfl, Below.refl _ _⟩
  · go_enter Try.func3, Try.ntmps3
    go_wp2_with fail
    refine dn.mono ?_
    rintro e w1 ⟨⟨n, rfl, h0, h7⟩, B⟩
    have D := Lib.hid B
    clear dn B
    have is := islow_any n w1
    have ss := sslow_any n w1

    by_cases h : 1 ≤ n ∧ n ≤ 5
    · rcases five_of h with rfl | rfl | rfl | rfl | rfl <;>
      · simp only [slow1, slow2, slow3, slow4, slow5] at is ss 
        go_wp2_with fail
        refine is.mono ?_
        rintro e w' ⟨rfl, rfl⟩
        clear is
        go_wp2_with fail
        refine ss.mono ?_
        rintro e w' ⟨rfl, rfl⟩
        clear ss
        go_wp2_with fail

        go_ret
        exact ⟨rfl, D.out⟩
    · rw [slow_bad h] at is ss
      clear h7
      go_wp2_with fail
      refine is.mono ?_
      rintro e w' ⟨rfl, rfl⟩
      clear is
      go_wp2_with fail
      refine ss.mono ?_
      rintro e w' ⟨rfl, rfl⟩
      clear ss
      go_wp2_with fail
      go_ret
      exact ⟨rfl, D.out⟩

set_option maxRecDepth 100000 in
set_option maxHeartbeats 4000000 in
theorem fnFast_walk (a : Option Addr) (len cap : Nat) (w : World) (hc : CodeIn w a len cap) (hcap : cap ≤ maxLen) :
    Calls Try.prog 4 #[.slice a len cap] w fun e w' => e = .returned (.bool true) ∧ Below w.heap.size w w' := by
  have dn := dfast_any a len cap w hc hcap
  by_cases hlen : 1048576 < len
  · go_enter Try.func4, Try.ntmps4
    go_wp2_with fail
    go_ret
    exact ⟨rfl, Below.refl _ _⟩
  · go_enter Try.func4, Try.ntmps4
    go_wp2_with fail
    refine dn.mono ?_
    rintro e w1 ⟨⟨n, rfl, h0, h7⟩, B⟩
    have D := Lib.hid B
    clear dn B
    have is := ifast_any n w1
    have ss := sfast_any n w1
    have m0 := islow_any n w1

    by_cases h : 1 ≤ n ∧ n ≤ 5
    · rcases five_of h with rfl | rfl | rfl | rfl | rfl <;>
      · simp only [slow1, slow2, slow3, slow4, slow5, fast1, fast2, fast3, fast4, fast5] at is ss m0
        go_wp2_with fail
        refine is.mono ?_
        rintro e w' ⟨rfl, rfl⟩
        clear is
        go_wp2_with fail
        refine ss.mono ?_
        rintro e w' ⟨rfl, rfl⟩
        clear ss
        go_wp2_with fail
        refine m0.mono ?_
        rintro e w' ⟨rfl, rfl⟩
        clear m0
        go_wp2_with fail

        go_ret
        exact ⟨rfl, D.out⟩
    · rw [fast_bad h] at is ss
      clear h7 m0
      go_wp2_with fail
      refine is.mono ?_
      rintro e w' ⟨rfl, rfl⟩
      clear is
      go_wp2_with fail
      refine ss.mono ?_
      rintro e w' ⟨rfl, rfl⟩
      clear ss
      go_wp2_with fail
      go_ret
      exact ⟨rfl, D.out⟩

set_option maxRecDepth 100000 in
set_option maxHeartbeats 4000000 in
theorem fnFastSlow_walk (a : Option Addr) (len cap : Nat) (w : World) (hc : CodeIn w a len cap) (hcap : cap ≤ maxLen) :
    Calls Try.prog 5 #[.slice a len cap] w fun e w' => e = .returned (.bool true) ∧ Below w.heap.size w w' := by
  have dn := dfast_any a len cap w hc hcap
  by_cases hlen : 1048576 < len
  · go_enter Try.func5, Try.ntmps5
    go_wp2_with fail
    go_ret
    exact ⟨rfl, Below.refl _ _⟩
  · go_enter Try.func5, Try.ntmps5
    go_wp2_with fail
    refine dn.mono ?_
    rintro e w1 ⟨⟨n, rfl, h0, h7⟩, B⟩
    have D := Lib.hid B
    clear dn B
    have is := ifast_any n w1
    have ss := sfast_any n w1
    have m0 := islow_any n w1

    by_cases h : 1 ≤ n ∧ n ≤ 5
    · rcases five_of h with rfl | rfl | rfl | rfl | rfl <;>
      · simp only [slow1, slow2, slow3, slow4, slow5, fast1, fast2, fast3, fast4, fast5] at is ss m0
        go_wp2_with fail
        refine is.mono ?_
        rintro e w' ⟨rfl, rfl⟩
        clear is
        go_wp2_with fail
        refine ss.mono ?_
        rintro e w' ⟨rfl, rfl⟩
        clear ss
        go_wp2_with fail
        refine m0.mono ?_
        rintro e w' ⟨rfl, rfl⟩
        clear m0
        go_wp2_with fail

        go_ret
        exact ⟨rfl, D.out⟩
    · rw [fast_bad h] at is ss
      clear h7 m0
      go_wp2_with fail
      refine is.mono ?_
      rintro e w' ⟨rfl, rfl⟩
      clear is
      go_wp2_with fail
      refine ss.mono ?_
      rintro e w' ⟨rfl, rfl⟩
      clear ss
      go_wp2_with fail
      go_ret
      exact ⟨rfl, D.out⟩

end Go.Proofs.Ytbamdeaonfgjgaa
