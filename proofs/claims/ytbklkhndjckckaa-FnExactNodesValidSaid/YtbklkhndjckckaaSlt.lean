/- l3Before of the model; boxes of a call with two ids. -/
import Derived.Test.YtbklkhndjckckaaId
namespace Go.Proofs.Ytbklkhndjckckaa
open Go.RowKit
set_option linter.unusedVariables false

/-- l3Before of the model. -/
theorem slt_any (r n r' n' : Int) (w : World) :
    Calls Try.prog 43 #[.agg #[.int .i64 r, .int .i64 n], .agg #[.int .i64 r', .int .i64 n']] w fun e w' => e = .returned (.bool (ltB r n r' n')) ∧ Below w.heap.size w w' := by
  rcases Int.lt_trichotomy r r' with h | rfl | h
  · have e1 : ltB r n r' n' = true := by simp [ltB]; omega
    rw [e1]; clear e1
    go_enter Try.func43, Try.ntmps43
    go_wp2_with fail
    go_ret
    exact ⟨rfl, ((Below.refl _ _).alloc (Nat.le_refl _) _).alloc (by simp) _⟩
  · have e1 : ltB r n r n' = decide (n < n') := by simp [ltB]
    rw [e1]; clear e1
    go_enter Try.func43, Try.ntmps43
    go_wp2_with fail
    go_ret
    exact ⟨by simp, ((Below.refl _ _).alloc (Nat.le_refl _) _).alloc (by simp) _⟩
  · have e1 : ltB r n r' n' = false := by simp [ltB]; omega
    rw [e1]; clear e1
    have h1 : ¬ r < r' := by omega
    have h2 : (r == r') = false := by simp; omega
    go_enter Try.func43, Try.ntmps43
    go_wp2_with fail
    go_ret
    exact ⟨rfl, ((Below.refl _ _).alloc (Nat.le_refl _) _).alloc (by simp) _⟩

/-- Two boxes of a call with two ids, behind callees that only make memory. -/
structure Two (w : World) (r n r' n' : Int) (w' : World) : Prop where
  a : w'.heap[w.heap.size]? = some (.cells #[.int .i64 r, .int .i64 n] 31 (0, 0))
  b : w'.heap[w.heap.size + 1]? = some (.cells #[.int .i64 r', .int .i64 n'] 31 (0, 0))
  z : w.heap.size + 2 ≤ w'.heap.size
  d : Below w.heap.size w w'

theorem Two.start (w : World) (r n r' n' : Int) : Two w r n r' n' ((w.alloc (.cells #[.int .i64 r, .int .i64 n] 31)).alloc (.cells #[.int .i64 r', .int .i64 n'] 31)) :=
  ⟨(Below.heap_alloc _ _ _ (by simp)).trans (heap_alloc_new w _), heap_alloc_at _ _ _ (by simp), by simp, ((Below.refl _ _).alloc (Nat.le_refl _) _).alloc (by simp) _⟩
theorem Two.up {w w1 w2 : World} {r n r' n' : Int} (h : Two w r n r' n' w1) (hb : Below w1.heap.size w1 w2) : Two w r n r' n' w2 :=
  ⟨(hb.block _ (by have := h.z; omega)).trans h.a, (hb.block _ (by have := h.z; omega)).trans h.b, Nat.le_trans h.z hb.size, h.d.trans (hb.mono (by have := h.z; omega))⟩
end Go.Proofs.Ytbklkhndjckckaa
