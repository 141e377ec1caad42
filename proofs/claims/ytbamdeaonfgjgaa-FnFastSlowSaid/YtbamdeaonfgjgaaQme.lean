/- MeetSize, of the program and of the model. -/
import Derived.Test.YtbamdeaonfgjgaaQsz
namespace Go.Proofs.Ytbamdeaonfgjgaa
open Go.RowKit
set_option linter.unusedVariables false

set_option maxRecDepth 100000 in
set_option maxHeartbeats 4000000 in
theorem imeet_any (n a : Int) (w : World) :
    Calls Try.prog 19 #[.int .i64 n, .int .i64 a] w fun e w' => e = .returned (.int .i64 (meetR n a)) ∧ w = w' := by
  have vr := ivr_any n w
  have fs := ifast_any n w
  by_cases h : 1 ≤ n ∧ n ≤ 5
  · have hf := fast_ok h
    rw [decide_eq_true h] at vr
    by_cases h1 : a < 0
    · rw [meet_bad (show ¬ ((1 ≤ n ∧ n ≤ 5) ∧ 0 ≤ a ∧ a ≤ n) by omega)]
      clear fs
      go_enter Try.func19, Try.ntmps19
      go_wp2_with fail
      refine vr.mono ?_
      rintro e w' ⟨rfl, rfl⟩
      clear vr
      go_wp2_with fail
      go_ret
      exact ⟨rfl, rfl⟩
    · by_cases h2 : a > n
      · rw [meet_bad (show ¬ ((1 ≤ n ∧ n ≤ 5) ∧ 0 ≤ a ∧ a ≤ n) by omega)]
        clear fs
        go_enter Try.func19, Try.ntmps19
        go_wp2_with fail
        refine vr.mono ?_
        rintro e w' ⟨rfl, rfl⟩
        clear vr
        go_wp2_with fail
        go_ret
        exact ⟨rfl, rfl⟩
      · have hm : Hid (meetR n a = max 0 (fastR n + a - n)) := Lib.hid (if_pos (by omega))
        obtain ⟨f, hff⟩ : ∃ f, Hid (fastR n = f) := ⟨_, Lib.hid rfl⟩
        rw [hff.out] at fs hf hm
        by_cases hx : f + a - n ≤ 0
        · have hm2 : Hid (meetR n a = 0) := Lib.hid (by rw [hm.out]; omega)
          rw [hm2.out]
          clear hm hm2
          go_enter Try.func19, Try.ntmps19
          go_wp2_with fail
          refine vr.mono ?_
          rintro e w' ⟨rfl, rfl⟩
          clear vr
          go_wp2_with fail
          refine fs.mono ?_
          rintro e w' ⟨rfl, rfl⟩
          clear fs
          go_wp2_with fail
          go_ret
          exact ⟨rfl, rfl⟩
        · have hm2 : Hid (meetR n a = f + a - n) := Lib.hid (by rw [hm.out]; omega)
          rw [hm2.out]
          clear hm hm2
          go_enter Try.func19, Try.ntmps19
          go_wp2_with fail
          refine vr.mono ?_
          rintro e w' ⟨rfl, rfl⟩
          clear vr
          go_wp2_with fail
          refine fs.mono ?_
          rintro e w' ⟨rfl, rfl⟩
          clear fs
          go_wp2_with fail
          go_ret
          exact ⟨rfl, rfl⟩
  · rw [decide_eq_false h] at vr
    rw [meet_bad (show ¬ ((1 ≤ n ∧ n ≤ 5) ∧ 0 ≤ a ∧ a ≤ n) by omega)]
    clear fs
    go_enter Try.func19, Try.ntmps19
    go_wp2_with fail
    refine vr.mono ?_
    rintro e w' ⟨rfl, rfl⟩
    clear vr
    go_wp2_with fail
    go_ret
    exact ⟨rfl, rfl⟩

set_option maxRecDepth 100000 in
set_option maxHeartbeats 4000000 in
theorem smeet_any (n a : Int) (w : World) :
    Calls Try.prog 20 #[.int .i64 n, .int .i64 a] w fun e w' => e = .returned (.int .i64 (meetR n a)) ∧ w = w' := by
  have vr := in_any n 1 5 w
  have va := in_any a 0 n w
  have fs := sfast_any n w
  rw [inB_five] at vr
  by_cases h : 1 ≤ n ∧ n ≤ 5
  · have hf := fast_ok h
    rw [decide_eq_true h] at vr
    by_cases h1 : 0 ≤ a ∧ a ≤ n
    · rw [inB_t h1.1 h1.2] at va
      have hm : Hid (meetR n a = max 0 (fastR n + a - n)) := Lib.hid (if_pos (by omega))
      obtain ⟨f, hff⟩ : ∃ f, Hid (fastR n = f) := ⟨_, Lib.hid rfl⟩
      rw [hff.out] at fs hf hm
      by_cases hx : 0 ≤ f + a - n
      · have hm2 : Hid (meetR n a = f + a - n) := Lib.hid (by rw [hm.out]; omega)
        rw [hm2.out]
        clear hm hm2
        go_enter Try.func20, Try.ntmps20
        go_wp2_with fail
        refine vr.mono ?_
        rintro e w' ⟨rfl, rfl⟩
        clear vr
        go_wp2_with fail
        refine va.mono ?_
        rintro e w' ⟨rfl, rfl⟩
        clear va
        go_wp2_with fail
        refine fs.mono ?_
        rintro e w' ⟨rfl, rfl⟩
        clear fs
        go_wp2_with fail
        go_ret
        exact ⟨rfl, rfl⟩
      · have hm2 : Hid (meetR n a = 0) := Lib.hid (by rw [hm.out]; omega)
        rw [hm2.out]
        clear hm hm2
        go_enter Try.func20, Try.ntmps20
        go_wp2_with fail
        refine vr.mono ?_
        rintro e w' ⟨rfl, rfl⟩
        clear vr
        go_wp2_with fail
        refine va.mono ?_
        rintro e w' ⟨rfl, rfl⟩
        clear va
        go_wp2_with fail
        refine fs.mono ?_
        rintro e w' ⟨rfl, rfl⟩
        clear fs
        go_wp2_with fail
        go_ret
        exact ⟨rfl, rfl⟩
    · rw [show inB a 0 n = false from decide_eq_false h1] at va
      rw [meet_bad (show ¬ ((1 ≤ n ∧ n ≤ 5) ∧ 0 ≤ a ∧ a ≤ n) by omega)]
      clear fs
      go_enter Try.func20, Try.ntmps20
      go_wp2_with fail
      refine vr.mono ?_
      rintro e w' ⟨rfl, rfl⟩
      clear vr
      go_wp2_with fail
      refine va.mono ?_
      rintro e w' ⟨rfl, rfl⟩
      clear va
      go_wp2_with fail
      go_ret
      exact ⟨rfl, rfl⟩
  · rw [decide_eq_false h] at vr
    rw [meet_bad (show ¬ ((1 ≤ n ∧ n ≤ 5) ∧ 0 ≤ a ∧ a ≤ n) by omega)]
    clear fs va
    go_enter Try.func20, Try.ntmps20
    go_wp2_with fail
    refine vr.mono ?_
    rintro e w' ⟨rfl, rfl⟩
    clear vr
    go_wp2_with fail
    go_ret
    exact ⟨rfl, rfl⟩
end Go.Proofs.Ytbamdeaonfgjgaa
