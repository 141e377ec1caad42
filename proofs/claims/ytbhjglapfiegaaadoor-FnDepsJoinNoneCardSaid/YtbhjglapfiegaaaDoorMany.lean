/- The program's many. -/
import Derived.Test.YtbhjglapfiegaaaDoorOnes
import Derived.Test.YtbhjglapfiegaaaDoorSeto
import Derived.Test.YtbhjglapfiegaaaDoorJoin
namespace Go.Proofs.YtbhjglapfiegaaaDoor
open Go.RowKit
set_option linter.unusedVariables false

set_option maxHeartbeats 2000000 in
theorem many_any (f : Nat → Nat) (w : World) (hf : ∀ r, f r < 2251799813685248) :
    Calls Tryd.prog 33 #[setV f] w fun e w' => e = .returned (.int .i64 (manyN f)) ∧ Below w.heap.size w w' := by
  have c0 := fun w => ones_any (f 0) w (by have := hf 0; omega)
  have c1 := fun w => ones_any (f 1) w (by have := hf 1; omega)
  have c2 := fun w => ones_any (f 2) w (by have := hf 2; omega)
  have c3 := fun w => ones_any (f 3) w (by have := hf 3; omega)
  have c4 := fun w => ones_any (f 4) w (by have := hf 4; omega)
  have b0 := pc_le 64 (f 0); have b1 := pc_le 64 (f 1); have b2 := pc_le 64 (f 2); have b3 := pc_le 64 (f 3); have b4 := pc_le 64 (f 4)
  have k0 := fun w => sx_i0 (.int .u64 (f 0)) (.int .u64 (f 1)) (.int .u64 (f 2)) (.int .u64 (f 3)) (.int .u64 (f 4)) w
  have k1 := fun w => sx_i1 (.int .u64 (f 0)) (.int .u64 (f 1)) (.int .u64 (f 2)) (.int .u64 (f 3)) (.int .u64 (f 4)) w
  have k2 := fun w => sx_i2 (.int .u64 (f 0)) (.int .u64 (f 1)) (.int .u64 (f 2)) (.int .u64 (f 3)) (.int .u64 (f 4)) w
  have k3 := fun w => sx_i3 (.int .u64 (f 0)) (.int .u64 (f 1)) (.int .u64 (f 2)) (.int .u64 (f 3)) (.int .u64 (f 4)) w
  have k4 := fun w => sx_i4 (.int .u64 (f 0)) (.int .u64 (f 1)) (.int .u64 (f 2)) (.int .u64 (f 3)) (.int .u64 (f 4)) w
  clear hf
  unfold setV manyN
  generalize pc 64 (f 0) = p0 at *
  generalize pc 64 (f 1) = p1 at *
  generalize pc 64 (f 2) = p2 at *
  generalize pc 64 (f 3) = p3 at *
  generalize pc 64 (f 4) = p4 at *
  go_enter Tryd.func33, Tryd.ntmps33
  go_wp2_with fail
  refine wp_loop_rounds 6 ?_
  rw [rounds_succ]
  go_wp2_with fail
  refine (c0 _).mono ?_
  rintro e w1 ⟨rfl, rfl⟩
  go_wp2_with fail
  rw [rounds_succ]
  go_wp2_with fail
  refine (c1 _).mono ?_
  rintro e w1 ⟨rfl, rfl⟩
  go_wp2_with fail
  rw [rounds_succ]
  go_wp2_with fail
  refine (c2 _).mono ?_
  rintro e w1 ⟨rfl, rfl⟩
  go_wp2_with fail
  rw [rounds_succ]
  go_wp2_with fail
  refine (c3 _).mono ?_
  rintro e w1 ⟨rfl, rfl⟩
  go_wp2_with fail
  rw [rounds_succ]
  go_wp2_with fail
  refine (c4 _).mono ?_
  rintro e w1 ⟨rfl, rfl⟩
  go_wp2_with fail
  rw [rounds_succ]
  go_wp2_with fail
  go_ret
  exact ⟨by congr 2, (Below.refl _ _).alloc (Nat.le_refl _) _⟩
end Go.Proofs.YtbhjglapfiegaaaDoor
