/- The laws' sizes of slices of ids. -/
import Derived.Test.YtbklkhndjckckaaIds
namespace Go.Proofs.Ytbklkhndjckckaa
open Go.RowKit
set_option linter.unusedVariables false

theorem szP_any (a : Option Addr) (n cap : Nat) (k : Int) (w : World) (hk : k = 1048576) (h : n ≤ 9223372036854775807) :
    Calls Try.prog 67 #[.slice a n cap, .int .i64 k] w fun e w' => e = .returned (.int .i64 (if 1048576 < n then -1 else 1048576 - n)) ∧ Below w.heap.size w w' := by
  subst hk
  by_cases hl : 1048576 < n
  · rw [if_pos hl]
    go_enter Try.func67, Try.ntmps67
    go_wp2_with fail
    go_ret
    exact ⟨rfl, Below.refl _ _⟩
  · rw [if_neg hl]
    go_enter Try.func67, Try.ntmps67
    go_wp2_with fail
    go_ret
    exact ⟨rfl, Below.refl _ _⟩

/-- .. with whatever is left. -/
theorem szP_gen (a : Option Addr) (n cap : Nat) (k : Int) (w : World) (hk : 0 ≤ k) (hk2 : k ≤ 1048576) (h : n ≤ 9223372036854775807) :
    Calls Try.prog 67 #[.slice a n cap, .int .i64 k] w fun e w' => e = .returned (.int .i64 (if k < n then -1 else k - n)) ∧ Below w.heap.size w w' := by
  by_cases hl : k < n
  · rw [if_pos hl]
    go_enter Try.func67, Try.ntmps67
    go_wp2_with fail
    go_ret
    exact ⟨rfl, Below.refl _ _⟩
  · rw [if_neg hl]
    go_enter Try.func67, Try.ntmps67
    go_wp2_with fail
    go_ret
    exact ⟨rfl, Below.refl _ _⟩
end Go.Proofs.Ytbklkhndjckckaa
