/- Draws of numbers of replicas and of answers. -/
import Derived.Test.YtbamdeaonfgjgaaOpen
namespace Go.Proofs.Ytbamdeaonfgjgaa
open Go.RowKit
set_option linter.unusedVariables false

set_option maxRecDepth 100000 in
set_option maxHeartbeats 4000000 in
theorem dslow_any (a : Option Addr) (len cap : Nat) (w : World) (hc : CodeIn w a len cap) (hcap : cap ≤ maxLen) :
    Calls Try.prog 12 #[.slice a len cap] w fun e w' => (∃ n : Int, e = .returned (.int .i64 n) ∧ 0 ≤ n ∧ n < 7) ∧ Below w.heap.size w w' := by
  go_enter Try.func12, Try.ntmps12
  go_wp2_with fail
  refine (open_any a len cap _ hc hcap).mono ?_
  rintro e w1 ⟨r, rfl, hr0, hr', hb'⟩
  have hr1 := Lib.hid hr'
  have D1 := Lib.hid hb'
  clear hr' hb'
  go_wp2_with fail
  refine (pick_any 7 r 0 _ hr1.out (by omega)).mono ?_
  rintro e w2 ⟨x, rfl, x0, x1', hr', hk⟩
  have x1 := x1' (by omega)
  have s1 := D1.out.size
  have D2 := Lib.hid (D1.out.trans ((hk.mono s1).below hr0))
  clear hk D1 hr1 hr' x1'
  go_wp2_with fail
  go_ret
  exact ⟨⟨_, rfl, x0, x1⟩, D2.out⟩

set_option maxRecDepth 100000 in
set_option maxHeartbeats 4000000 in
theorem dfast_any (a : Option Addr) (len cap : Nat) (w : World) (hc : CodeIn w a len cap) (hcap : cap ≤ maxLen) :
    Calls Try.prog 15 #[.slice a len cap] w fun e w' => (∃ n : Int, e = .returned (.int .i64 n) ∧ 0 ≤ n ∧ n < 7) ∧ Below w.heap.size w w' := by
  go_enter Try.func15, Try.ntmps15
  go_wp2_with fail
  refine (open_any a len cap _ hc hcap).mono ?_
  rintro e w1 ⟨r, rfl, hr0, hr', hb'⟩
  have hr1 := Lib.hid hr'
  have D1 := Lib.hid hb'
  clear hr' hb'
  go_wp2_with fail
  refine (pick_any 7 r 0 _ hr1.out (by omega)).mono ?_
  rintro e w2 ⟨x, rfl, x0, x1', hr', hk⟩
  have x1 := x1' (by omega)
  have s1 := D1.out.size
  have D2 := Lib.hid (D1.out.trans ((hk.mono s1).below hr0))
  clear hk D1 hr1 hr' x1'
  go_wp2_with fail
  go_ret
  exact ⟨⟨_, rfl, x0, x1⟩, D2.out⟩

set_option maxRecDepth 100000 in
set_option maxHeartbeats 4000000 in
theorem dmeet_any (a : Option Addr) (len cap : Nat) (w : World) (hc : CodeIn w a len cap) (hcap : cap ≤ maxLen) :
    Calls Try.prog 18 #[.slice a len cap] w fun e w' => (∃ n m : Int, e = .returned (.tuple #[.int .i64 n, .int .i64 m]) ∧ 0 ≤ n ∧ n < 7 ∧ -1 ≤ m ∧ m ≤ n + 1) ∧ Below w.heap.size w w' := by
  go_enter Try.func18, Try.ntmps18
  go_wp2_with fail
  refine (open_any a len cap _ hc hcap).mono ?_
  rintro e w1 ⟨r, rfl, hr0, hr', hb'⟩
  have hr1 := Lib.hid hr'
  have D1 := Lib.hid hb'
  clear hr' hb'
  go_wp2_with fail
  refine (pick_any 7 r 0 _ hr1.out (by omega)).mono ?_
  rintro e w2 ⟨x, rfl, x0, x1', hr', hk⟩
  have x1 := x1' (by omega)
  have hrw : w.heap.size ≤ r := hr0
  have s1 := D1.out.size
  replace D1 := Lib.hid (D1.out.trans ((hk.mono s1).below hrw))
  replace hr1 := Lib.hid hr'
  clear hk hr' x1'
  go_wp2_with fail
  refine (pick_any (x + 2) r _ _ hr1.out (by omega)).mono ?_
  rintro e w3 ⟨y, rfl, y0, y1', hr', hk⟩
  have y1 := y1' (by omega)
  have s2 := D1.out.size
  replace D1 := Lib.hid (D1.out.trans ((hk.mono s2).below hrw))
  replace hr1 := Lib.hid hr'
  clear hk hr' y1'
  go_wp2_with fail
  refine (pick_any 10 r _ _ hr1.out (by omega)).mono ?_
  rintro e w4 ⟨z, rfl, z0, z1', hr', hk⟩
  have z1 := z1' (by omega)
  have s3 := D1.out.size
  replace D1 := Lib.hid (D1.out.trans ((hk.mono s3).below hrw))
  clear hk hr' z1' hr1
  go_wp2_with fail
  go_ret2
  exact ⟨⟨_, _, rfl, x0, x1, by omega, by omega⟩, D1.out⟩

end Go.Proofs.Ytbamdeaonfgjgaa
