/- The program's idSetOf at every slice. -/
import Derived.Test.YtbklkhndjckckaaSet
namespace Go.Proofs.Ytbklkhndjckckaa
open Go.RowKit
set_option linter.unusedVariables false

set_option maxRecDepth 100000 in
set_option maxHeartbeats 1000000 in
theorem iset_nil (a : Option Addr) (ca : Nat) (w : World) :
    Calls Try.prog 72 #[.slice a 0 ca] w (SetPost [] w) := by
  have R0 : Set5 ((w.alloc (.cells #[.int .u64 0, .int .u64 0, .int .u64 0, .int .u64 0, .int .u64 0] 56)).alloc (.cells #[.int .u64 0, .int .u64 0, .int .u64 0, .int .u64 0, .int .u64 0] 56)) w.heap.size (fun _ => 0) := (Below.heap_alloc _ _ _ (by simp)).trans (heap_alloc_new w _)
  have R0 := Lib.hid R0
  have e1 : Hid (srtB [] = true) := Lib.hid (by decide)
  have e2 : Hid (setF [] = fun _ => 0) := Lib.hid (by rw [setF_t e1.out]; funext r; rfl)
  go_enter Try.func72, Try.ntmps72
  go_wp2_with fail
  refine wp_loop_rounds 1 ?_
  rw [rounds_succ]
  go_wp2_with fail
  exact bodyPost_ret (set_res _ _ w.heap.size _ true rfl rfl R0.out) rfl ⟨by rw [e2.out, e1.out], ((Below.refl _ _).alloc (Nat.le_refl _) _).alloc (by simp) _⟩

theorem iset_any (u : Value) (L : List Pid) (w : World) (h : Ids w u L) :
    Calls Try.prog 72 #[u] w (SetPost L w) := by
  obtain ⟨a, cap, rfl, h1, h2, h3⟩ := h
  rcases h3 with h3 | ⟨b, off, rfl, h4, h5⟩
  · obtain rfl : L = [] := List.length_eq_zero_iff.1 h3
    exact iset_nil a cap w
  · exact set_at b off cap L w h4 h2 h5
end Go.Proofs.Ytbklkhndjckckaa
