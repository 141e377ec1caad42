/- Texts laid together. -/
import Derived.Test.YtblkpkjgmjnimaaC01
import Derived.WalkKit
import Derived.WalkSpells
import Derived.Lib.Hide
/- Contracts of the functions on commands: l6In, CommandValid of the model and of the program. -/
namespace Go.Proofs.Ytblkpkjgmjnimaa
open Go.RowKit
set_option linter.unusedVariables false

/-- What a valid command is. -/
def cvB (k key v : Int) : Bool :=
  decide ((k = 0 ∧ 0 ≤ key ∧ key ≤ 5 ∧ v = 0) ∨ (k = 1 ∧ 0 ≤ key ∧ key ≤ 5 ∧ 0 ≤ v ∧ v ≤ 99) ∨ (k = 2 ∧ 0 ≤ key ∧ key ≤ 5 ∧ 0 ≤ v ∧ v ≤ 99) ∨ (k = 3 ∧ key = 0 ∧ v = 0))

theorem sv1 {k key v : Int} (h : ¬inB k 0 3 = true) : false = cvB k key v := by rw [Bool.eq_iff_iff]; simp [cvB, inB] at *; omega
theorem sv2 {k key v : Int} (h : ¬inB key 0 5 = true) : false = cvB k key v := by rw [Bool.eq_iff_iff]; simp [cvB, inB] at *; omega
theorem sv3 {k key v : Int} (h : (!inB v 0 99) = true) : false = cvB k key v := by rw [Bool.eq_iff_iff]; simp [cvB, inB] at *; omega
theorem sv4 {k key v : Int} (h1 : inB key 0 5 = true) (h2 : (!inB v 0 99) = false) (h : (k == 0) = true) : (v == 0) = cvB k key v := by rw [Bool.eq_iff_iff]; simp [cvB, inB] at *; omega
theorem sv5 {k v : Int} (h : (k == 3) = true) : (v == 0) = cvB k 0 v := by rw [Bool.eq_iff_iff]; simp [cvB] at *; omega
theorem sv5' {k key v : Int} (h : (k == 3) = true) (h0 : key = 0) : (v == 0) = cvB k key v := by rw [Bool.eq_iff_iff]; simp [cvB] at *; omega
theorem sv6 {k key v : Int} (h : (k == 3) = true) (h0 : ¬key = 0) : false = cvB k key v := by rw [Bool.eq_iff_iff]; simp [cvB] at *; omega
theorem sv7 {k key v : Int} (h1 : inB k 0 3 = true) (h2 : inB key 0 5 = true) (h3 : (!inB v 0 99) = false) (h4 : (k == 0) = false) (h5 : (k == 3) = false) : true = cvB k key v := by rw [Bool.eq_iff_iff]; simp [cvB, inB] at *; omega

theorem svalid_any (k key v : Int) (w : World) :
    Calls Try.prog 30 #[.agg #[.int .i64 k, .int .i64 key, .int .i64 v]] w fun e w' => e = .returned (.bool (cvB k key v)) ∧ Below w.heap.size w w' := by
  go_enter Try.func30, Try.ntmps30
  go_wp2_with (go_at_call 18; refine (in_any _ _ _ _).mono ?_; rintro e w' ⟨rfl, rfl⟩)
  all_goals
    go_ret
    refine ⟨ret_bool ?_, (Below.refl _ _).alloc (Nat.le_refl _) _⟩
    first | exact sv1 ‹_› | exact sv2 ‹_› | exact sv3 ‹_› | exact sv4 ‹_› ‹_› ‹_› | exact sv5 ‹_› | exact sv5' ‹_› ‹_› | exact sv6 ‹_› ‹_› | exact sv7 ‹_› ‹_› ‹_› ‹_› ‹_›

/-- What a command does, as the program has it. -/
def actV (k key v : Int) : Value :=
  if cvB k key v then
    (if k = 0 then .iface 98 (.agg #[.int .i64 key]) else if k = 1 then .iface 100 (.agg #[.int .i64 key, .int .i64 v]) else if k = 2 then .iface 101 (.agg #[.int .i64 key, .int .i64 v]) else .iface 103 (.agg #[]))
  else .nilIface


set_option maxRecDepth 100000 in
set_option maxHeartbeats 2000000 in
theorem act_yes (k key v : Int) (w : World) (h : cvB k key v = true) :
    Calls Try.prog 51 #[.agg #[.int .i64 k, .int .i64 key, .int .i64 v]] w fun e w' => e = .returned (.tuple #[actV k key v, .bool (cvB k key v)]) ∧ Below w.heap.size w w' := by
  unfold actV
  rw [if_pos h, h]
  unfold cvB at h
  rcases of_decide_eq_true h with ⟨rfl, h1, h2, rfl⟩ | ⟨rfl, h1, h2, h3, h4⟩ | ⟨rfl, h1, h2, h3, h4⟩ | ⟨rfl, rfl, rfl⟩
  all_goals
    clear h
    go_enter Try.func51, Try.ntmps51
    go_wp2_with fail
    go_ret2
    exact ⟨rfl, (Below.refl _ _).alloc (Nat.le_refl _) _⟩

theorem actV_no {k key v : Int} (h : cvB k key v = false) : actV k key v = .nilIface := by unfold actV; rw [h]; rfl
/-- The walk of what is invalid, under a decided kind. -/
theorem cv_no {k key v : Int} (h : cvB k key v = false) : (¬ (0 ≤ k ∧ k ≤ 3)) ∨ (k = 0 ∧ ¬(0 ≤ key ∧ key ≤ 5)) ∨ (k = 0 ∧ (0 ≤ key ∧ key ≤ 5) ∧ ¬ v = 0) ∨ ((k = 1 ∨ k = 2) ∧ ¬(0 ≤ key ∧ key ≤ 5)) ∨ ((k = 1 ∨ k = 2) ∧ (0 ≤ key ∧ key ≤ 5) ∧ ¬(0 ≤ v ∧ v ≤ 99)) ∨ (k = 3 ∧ ¬ key = 0) ∨ (k = 3 ∧ key = 0 ∧ ¬ v = 0) := by
  simp [cvB] at h; omega
set_option maxRecDepth 100000 in
set_option maxHeartbeats 4000000 in
theorem act_no (k key v : Int) (w : World) (h : cvB k key v = false) :
    Calls Try.prog 51 #[.agg #[.int .i64 k, .int .i64 key, .int .i64 v]] w fun e w' => e = .returned (.tuple #[actV k key v, .bool (cvB k key v)]) ∧ Below w.heap.size w w' := by
  rw [actV_no h, h]
  rcases cv_no h with a | ⟨rfl, a⟩ | ⟨rfl, ⟨a, b⟩, c⟩ | ⟨rfl | rfl, a⟩ | ⟨rfl | rfl, ⟨a, b⟩, c⟩ | ⟨rfl, a⟩ | ⟨rfl, rfl, a⟩
  all_goals
    clear h
    go_enter Try.func51, Try.ntmps51
    go_wp2_with fail
  all_goals (try go_ret2)
  all_goals exact ⟨rfl, (Below.refl _ _).alloc (Nat.le_refl _) _⟩
end Go.Proofs.Ytblkpkjgmjnimaa
