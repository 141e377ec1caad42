/- Texts laid together. -/
import Derived.Test.YtanjogflolmgdaaC01
/- What actOf answers, by kinds. -/
namespace Go.Proofs.Ytanjogflolmgdaa
open Go.RowKit
set_option linter.unusedVariables false

theorem cv_r {key : Int} (h1 : 0 ≤ key) (h2 : key ≤ 5) : cvB 0 key 0 = true := by simp [cvB]; omega
theorem cv_p {key v : Int} (h1 : 0 ≤ key) (h2 : key ≤ 5) (h3 : 0 ≤ v) (h4 : v ≤ 99) : cvB 1 key v = true := by simp [cvB]; omega
theorem cv_a {key v : Int} (h1 : 0 ≤ key) (h2 : key ≤ 5) (h3 : 0 ≤ v) (h4 : v ≤ 99) : cvB 2 key v = true := by simp [cvB]; omega
theorem cv_n : cvB 3 0 0 = true := by simp [cvB]
theorem act_r (key : Int) (w : World) (h1 : 0 ≤ key) (h2 : key ≤ 5) :
    Calls Try.prog 80 #[.agg #[.int .i64 0, .int .i64 key, .int .i64 0]] w fun e w' => e = .returned (.tuple #[.iface 124 (.agg #[.int .i64 key]), .bool true]) ∧ Below w.heap.size w w' := by
  have h := act_yes 0 key 0 w (cv_r h1 h2)
  unfold actV at h
  rw [if_pos (cv_r h1 h2), cv_r h1 h2] at h
  exact h
theorem act_p (key v : Int) (w : World) (h1 : 0 ≤ key) (h2 : key ≤ 5) (h3 : 0 ≤ v) (h4 : v ≤ 99) :
    Calls Try.prog 80 #[.agg #[.int .i64 1, .int .i64 key, .int .i64 v]] w fun e w' => e = .returned (.tuple #[.iface 126 (.agg #[.int .i64 key, .int .i64 v]), .bool true]) ∧ Below w.heap.size w w' := by
  have h := act_yes 1 key v w (cv_p h1 h2 h3 h4)
  unfold actV at h
  rw [if_pos (cv_p h1 h2 h3 h4), cv_p h1 h2 h3 h4] at h
  exact h
theorem act_a (key v : Int) (w : World) (h1 : 0 ≤ key) (h2 : key ≤ 5) (h3 : 0 ≤ v) (h4 : v ≤ 99) :
    Calls Try.prog 80 #[.agg #[.int .i64 2, .int .i64 key, .int .i64 v]] w fun e w' => e = .returned (.tuple #[.iface 127 (.agg #[.int .i64 key, .int .i64 v]), .bool true]) ∧ Below w.heap.size w w' := by
  have h := act_yes 2 key v w (cv_a h1 h2 h3 h4)
  unfold actV at h
  rw [if_pos (cv_a h1 h2 h3 h4), cv_a h1 h2 h3 h4] at h
  exact h
theorem act_n (w : World)  :
    Calls Try.prog 80 #[.agg #[.int .i64 3, .int .i64 0, .int .i64 0]] w fun e w' => e = .returned (.tuple #[.iface 129 (.agg #[]), .bool true]) ∧ Below w.heap.size w w' := by
  have h := act_yes 3 0 0 w (cv_n )
  unfold actV at h
  rw [if_pos (cv_n ), cv_n ] at h
  exact h

theorem act_any (k key v : Int) (w : World) :
    Calls Try.prog 80 #[.agg #[.int .i64 k, .int .i64 key, .int .i64 v]] w fun e w' => e = .returned (.tuple #[actV k key v, .bool (cvB k key v)]) ∧ Below w.heap.size w w' := by
  by_cases h : cvB k key v = true
  · exact act_yes k key v w h
  · exact act_no k key v w (by simpa using h)

theorem cv_of {k key v : Int} (h : cvB k key v = true) : (k = 0 ∧ 0 ≤ key ∧ key ≤ 5 ∧ v = 0) ∨ (k = 1 ∧ 0 ≤ key ∧ key ≤ 5 ∧ 0 ≤ v ∧ v ≤ 99) ∨ (k = 2 ∧ 0 ≤ key ∧ key ≤ 5 ∧ 0 ≤ v ∧ v ≤ 99) ∨ (k = 3 ∧ key = 0 ∧ v = 0) := by
  unfold cvB at h; exact of_decide_eq_true h
end Go.Proofs.Ytanjogflolmgdaa

/- CommandValid of the program. -/
namespace Go.Proofs.Ytanjogflolmgdaa
open Go.RowKit
set_option linter.unusedVariables false

theorem ivalid_any (k key v : Int) (w : World) :
    Calls Try.prog 71 #[.agg #[.int .i64 k, .int .i64 key, .int .i64 v]] w fun e w' => e = .returned (.bool (cvB k key v)) ∧ Below w.heap.size w w' := by
  have s1 := act_any k key v
  generalize actV k key v = x1 at s1
  generalize cvB k key v = q1 at s1
  go_enter Try.func71, Try.ntmps71
  go_wp2_with fail
  refine (s1 _).mono ?_
  rintro e w1 ⟨rfl, hb1⟩
  have D1 := Lib.hid (((Below.refl _ _).alloc (Nat.le_refl _) _).trans (hb1.mono (by simp)))
  clear hb1
  go_wp2_with fail
  go_ret
  exact ⟨rfl, D1.out⟩
end Go.Proofs.Ytanjogflolmgdaa
