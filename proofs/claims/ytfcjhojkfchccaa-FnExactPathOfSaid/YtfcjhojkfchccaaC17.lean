/- Texts laid together. -/
import Derived.Test.YtfcjhojkfchccaaC01
import Derived.IntWalk
/- The sizes of majorities and of fast sets, of the program and of the model. -/
namespace Go.Proofs.Ytfcjhojkfchccaa
open Go.RowKit
set_option linter.unusedVariables false

def slowR (n : Int) : Int := if 1 ≤ n ∧ n ≤ 5 then n / 2 + 1 else -1
def fastR (n : Int) : Int := if 1 ≤ n ∧ n ≤ 5 then (3 * n + 3) / 4 else -1
def meetR (n a : Int) : Int := if (1 ≤ n ∧ n ≤ 5) ∧ 0 ≤ a ∧ a ≤ n then max 0 (fastR n + a - n) else -1
theorem five_of {n : Int} (h : 1 ≤ n ∧ n ≤ 5) : n = 1 ∨ n = 2 ∨ n = 3 ∨ n = 4 ∨ n = 5 := by omega
theorem slow_bad {n : Int} (h : ¬ (1 ≤ n ∧ n ≤ 5)) : slowR n = -1 := if_neg h
theorem fast_bad {n : Int} (h : ¬ (1 ≤ n ∧ n ≤ 5)) : fastR n = -1 := if_neg h
theorem meet_bad {n a : Int} (h : ¬ ((1 ≤ n ∧ n ≤ 5) ∧ 0 ≤ a ∧ a ≤ n)) : meetR n a = -1 := if_neg h
theorem fast_ok {n : Int} (h : 1 ≤ n ∧ n ≤ 5) : 1 ≤ fastR n ∧ fastR n ≤ n := by
  rcases five_of h with rfl | rfl | rfl | rfl | rfl <;> decide

set_option maxRecDepth 100000 in
set_option maxHeartbeats 2000000 in
theorem ivr_any (n : Int) (w : World) :
    Calls Try.prog 19 #[.int .i64 n] w fun e w' => e = .returned (.bool (decide (1 ≤ n ∧ n ≤ 5))) ∧ w = w' := by
  by_cases h1 : 1 ≤ n
  · by_cases h2 : n ≤ 5
    · go_enter Try.func19, Try.ntmps19
      go_wp2_with fail
      go_ret
      simp [h1, h2]
    · go_enter Try.func19, Try.ntmps19
      go_wp2_with fail
      go_ret
      simp [h2]
  · go_enter Try.func19, Try.ntmps19
    go_wp2_with fail
    go_ret
    simp
    omega

set_option maxRecDepth 100000 in
set_option maxHeartbeats 2000000 in
theorem islow_any (n : Int) (w : World) :
    Calls Try.prog 8 #[.int .i64 n] w fun e w' => e = .returned (.int .i64 (slowR n)) ∧ w = w' := by
  have vr := ivr_any n w
  by_cases h : 1 ≤ n ∧ n ≤ 5
  · rw [decide_eq_true h] at vr
    rcases five_of h with rfl | rfl | rfl | rfl | rfl <;>
    · go_enter Try.func8, Try.ntmps8
      go_wp2_with fail
      refine vr.mono ?_
      rintro e w' ⟨rfl, rfl⟩
      clear vr
      go_wp2_with fail
      go_ret
      exact ⟨rfl, rfl⟩
  · rw [decide_eq_false h] at vr
    rw [slow_bad h]
    go_enter Try.func8, Try.ntmps8
    go_wp2_with fail
    refine vr.mono ?_
    rintro e w' ⟨rfl, rfl⟩
    clear vr
    go_wp2_with fail
    go_ret
    exact ⟨rfl, rfl⟩

set_option maxRecDepth 100000 in
set_option maxHeartbeats 2000000 in
theorem ifast_any (n : Int) (w : World) :
    Calls Try.prog 21 #[.int .i64 n] w fun e w' => e = .returned (.int .i64 (fastR n)) ∧ w = w' := by
  have vr := ivr_any n w
  by_cases h : 1 ≤ n ∧ n ≤ 5
  · rw [decide_eq_true h] at vr
    rcases five_of h with rfl | rfl | rfl | rfl | rfl <;>
    · go_enter Try.func21, Try.ntmps21
      go_wp2_with fail
      refine vr.mono ?_
      rintro e w' ⟨rfl, rfl⟩
      clear vr
      go_wp2_with fail
      go_ret
      exact ⟨rfl, rfl⟩
  · rw [decide_eq_false h] at vr
    rw [fast_bad h]
    go_enter Try.func21, Try.ntmps21
    go_wp2_with fail
    refine vr.mono ?_
    rintro e w' ⟨rfl, rfl⟩
    clear vr
    go_wp2_with fail
    go_ret
    exact ⟨rfl, rfl⟩

theorem inB_five (n : Int) : inB n 1 5 = decide (1 ≤ n ∧ n ≤ 5) := by unfold inB; first | rfl | simp
set_option maxRecDepth 100000 in
set_option maxHeartbeats 2000000 in
theorem sslow_any (n : Int) (w : World) :
    Calls Try.prog 28 #[.int .i64 n] w fun e w' => e = .returned (.int .i64 (slowR n)) ∧ w = w' := by
  have vr := in_any n 1 5 w
  rw [inB_five] at vr
  by_cases h : 1 ≤ n ∧ n ≤ 5
  · rw [decide_eq_true h] at vr
    rcases five_of h with rfl | rfl | rfl | rfl | rfl <;>
    · go_enter Try.func28, Try.ntmps28
      go_wp2_with fail
      refine vr.mono ?_
      rintro e w' ⟨rfl, rfl⟩
      clear vr
      go_wp2_with fail
      go_ret
      exact ⟨rfl, rfl⟩
  · rw [decide_eq_false h] at vr
    rw [slow_bad h]
    go_enter Try.func28, Try.ntmps28
    go_wp2_with fail
    refine vr.mono ?_
    rintro e w' ⟨rfl, rfl⟩
    clear vr
    go_wp2_with fail
    go_ret
    exact ⟨rfl, rfl⟩

set_option maxRecDepth 100000 in
set_option maxHeartbeats 2000000 in
theorem sfast_any (n : Int) (w : World) :
    Calls Try.prog 27 #[.int .i64 n] w fun e w' => e = .returned (.int .i64 (fastR n)) ∧ w = w' := by
  have vr := in_any n 1 5 w
  rw [inB_five] at vr
  by_cases h : 1 ≤ n ∧ n ≤ 5
  · rw [decide_eq_true h] at vr
    rcases five_of h with rfl | rfl | rfl | rfl | rfl <;>
    · go_enter Try.func27, Try.ntmps27
      go_wp2_with fail
      refine vr.mono ?_
      rintro e w' ⟨rfl, rfl⟩
      clear vr
      go_wp2_with fail
      go_ret
      exact ⟨rfl, rfl⟩
  · rw [decide_eq_false h] at vr
    rw [fast_bad h]
    go_enter Try.func27, Try.ntmps27
    go_wp2_with fail
    refine vr.mono ?_
    rintro e w' ⟨rfl, rfl⟩
    clear vr
    go_wp2_with fail
    go_ret
    exact ⟨rfl, rfl⟩
end Go.Proofs.Ytfcjhojkfchccaa
