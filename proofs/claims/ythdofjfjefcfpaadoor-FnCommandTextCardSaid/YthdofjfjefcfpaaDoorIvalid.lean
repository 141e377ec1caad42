/- CommandValid of the program. -/
import Derived.Test.YthdofjfjefcfpaaDoorAct
namespace Go.Proofs.YthdofjfjefcfpaaDoor
open Go.RowKit
set_option linter.unusedVariables false

theorem ivalid_any (k key v : Int) (w : World) :
    Calls Tryd.prog 13 #[.agg #[.int .i64 k, .int .i64 key, .int .i64 v]] w fun e w' => e = .returned (.bool (cvB k key v)) ∧ Below w.heap.size w w' := by
  have s1 := act_any k key v
  generalize actV k key v = x1 at s1
  generalize cvB k key v = q1 at s1
  go_enter Tryd.func13, Tryd.ntmps13
  go_wp2_with fail
  refine (s1 _).mono ?_
  rintro e w1 ⟨rfl, hb1⟩
  have D1 := Lib.hid (((Below.refl _ _).alloc (Nat.le_refl _) _).trans (hb1.mono (by simp)))
  clear hb1
  go_wp2_with fail
  go_ret
  exact ⟨rfl, D1.out⟩
end Go.Proofs.YthdofjfjefcfpaaDoor
