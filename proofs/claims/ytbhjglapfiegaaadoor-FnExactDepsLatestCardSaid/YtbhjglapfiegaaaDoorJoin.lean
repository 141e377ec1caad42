/- The program's join of two sets. -/
import Derived.Test.YtbhjglapfiegaaaDoorSetv
namespace Go.Proofs.YtbhjglapfiegaaaDoor
open Go.RowKit
set_option linter.unusedVariables false

theorem sx_i0 (x0 x1 x2 x3 x4 : Value) (w : World) : (Instr.index 47 (.agg #[x0, x1, x2, x3, x4]) (.int .i64 0)).run Tryd.prog w = .ok x0 w := by kernel_rfl
theorem sx_i1 (x0 x1 x2 x3 x4 : Value) (w : World) : (Instr.index 47 (.agg #[x0, x1, x2, x3, x4]) (.int .i64 1)).run Tryd.prog w = .ok x1 w := by kernel_rfl
theorem sx_i2 (x0 x1 x2 x3 x4 : Value) (w : World) : (Instr.index 47 (.agg #[x0, x1, x2, x3, x4]) (.int .i64 2)).run Tryd.prog w = .ok x2 w := by kernel_rfl
theorem sx_i3 (x0 x1 x2 x3 x4 : Value) (w : World) : (Instr.index 47 (.agg #[x0, x1, x2, x3, x4]) (.int .i64 3)).run Tryd.prog w = .ok x3 w := by kernel_rfl
theorem sx_i4 (x0 x1 x2 x3 x4 : Value) (w : World) : (Instr.index 47 (.agg #[x0, x1, x2, x3, x4]) (.int .i64 4)).run Tryd.prog w = .ok x4 w := by kernel_rfl

theorem join_res (tm : Array Value) (w : World) (b : Nat) (g : Nat → Nat) (h4 : tm[4]? = some (.pointer (some ⟨b, 0, none⟩))) (h : Set5 w b g) :
    (results Tryd.f32 tm).run Tryd.prog w = .ok (setV g) w := by
  obtain ⟨t0, t1, t2, t3, t4⟩ := h.five
  simp [results, Tryd.results32, go_sem, setV, h4, t0, t1, t2, t3, t4]

def joinF (f g : Nat → Nat) : Nat → Nat := fun r => f r ||| g r

set_option maxHeartbeats 4000000 in
theorem join_any (f g : Nat → Nat) (w : World) (hf : ∀ r, f r < 2251799813685248) (hg : ∀ r, g r < 2251799813685248) :
    Calls Tryd.prog 32 #[setV f, setV g] w fun e w' => e = .returned (setV (joinF f g)) ∧ Below w.heap.size w w' := by
  have ob : ∀ r, bits .or .u64 (f r : Int) (g r : Int) = ((joinF f g r : Nat) : Int) := fun r => bits_or_u64_nat _ _ (by have := hf r; omega) (by have := hg r; omega)
  have o0 := ob 0; have o1 := ob 1; have o2 := ob 2; have o3 := ob 3; have o4 := ob 4
  clear ob hf hg
  unfold setV
  obtain ⟨j, hj⟩ : ∃ j, Hid (joinF f g = j) := ⟨_, Lib.hid rfl⟩
  rw [hj.out] at o0 o1 o2 o3 o4 ⊢
  have k0 := fun w => sx_i0 (.int .u64 (g 0)) (.int .u64 (g 1)) (.int .u64 (g 2)) (.int .u64 (g 3)) (.int .u64 (g 4)) w
  have k1 := fun w => sx_i1 (.int .u64 (g 0)) (.int .u64 (g 1)) (.int .u64 (g 2)) (.int .u64 (g 3)) (.int .u64 (g 4)) w
  have k2 := fun w => sx_i2 (.int .u64 (g 0)) (.int .u64 (g 1)) (.int .u64 (g 2)) (.int .u64 (g 3)) (.int .u64 (g 4)) w
  have k3 := fun w => sx_i3 (.int .u64 (g 0)) (.int .u64 (g 1)) (.int .u64 (g 2)) (.int .u64 (g 3)) (.int .u64 (g 4)) w
  have k4 := fun w => sx_i4 (.int .u64 (g 0)) (.int .u64 (g 1)) (.int .u64 (g 2)) (.int .u64 (g 3)) (.int .u64 (g 4)) w
  go_enter Tryd.func32, Tryd.ntmps32
  go_wp2_with fail
  refine wp_loop_rounds 6 ?_
  rw [rounds_succ]
  go_wp2_with fail
  rw [rounds_succ]
  go_wp2_with fail
  rw [rounds_succ]
  go_wp2_with fail
  rw [rounds_succ]
  go_wp2_with fail
  rw [rounds_succ]
  go_wp2_with fail
  rw [rounds_succ]
  go_wp2_with fail
  exact bodyPost_ret (join_res _ _ (w.heap.size + 1 + 1) j rfl (heap_alloc_at _ _ _ (by simp))) rfl ⟨rfl, (((Below.refl _ _).alloc (Nat.le_refl _) _).alloc (by simp) _).alloc (by simp; omega) _⟩
end Go.Proofs.YtbhjglapfiegaaaDoor
