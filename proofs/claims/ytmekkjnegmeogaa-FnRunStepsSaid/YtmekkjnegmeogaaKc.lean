/- Which commands clash, as a sum of tests; two boxes of a call with two commands. -/
import Derived.Test.YtmekkjnegmeogaaAct
namespace Go.Proofs.Ytmekkjnegmeogaa
open Go.RowKit
set_option linter.unusedVariables false

def kcB (k key k' key' : Int) : Bool := decide (k ≠ 3 ∧ k' ≠ 3 ∧ key = key' ∧ (k ≠ k' ∨ k = 1))
theorem kc1 {k key k' key' : Int} (h : k = 3) : false = kcB k key k' key' := by rw [Bool.eq_iff_iff]; simp [kcB] at *; omega
theorem kc2 {k key k' key' : Int} (h : k' = 3) : false = kcB k key k' key' := by rw [Bool.eq_iff_iff]; simp [kcB] at *; omega
theorem kc3 {k key k' key' : Int} (h : ((k == 3) = true ∨ (k' == 3) = true) ∨ (key != key') = true) : false = kcB k key k' key' := by rw [Bool.eq_iff_iff]; simp [kcB] at *; omega
theorem kc4 {k key k' key' : Int} (h : ((k == 3) = false ∧ (k' == 3) = false) ∧ (key != key') = false) (h2 : k = k') : (k' == 1) = kcB k key k' key' := by rw [Bool.eq_iff_iff]; simp [kcB] at *; omega
theorem kc5 {k key k' key' : Int} (h : ((k == 3) = false ∧ (k' == 3) = false) ∧ (key != key') = false) (h2 : ¬k = k') : true = kcB k key k' key' := by rw [Bool.eq_iff_iff]; simp [kcB] at *; omega
/-- What CommandsClash answers. -/
def clB (k key v k' key' v' : Int) : Bool := cvB k key v && cvB k' key' v' && kcB k key k' key'
/-- The two boxes of a call with two commands, behind a callee that only makes memory. -/
theorem boxes2 {w w1 : World} {xs ys : Array Value} {t u : TypeId} (hb : Below ((w.alloc (.cells xs t)).alloc (.cells ys u)).heap.size ((w.alloc (.cells xs t)).alloc (.cells ys u)) w1) :
    w1.heap[w.heap.size]? = some (.cells xs t (0, 0)) ∧ w1.heap[w.heap.size + 1]? = some (.cells ys u (0, 0)) ∧ w.heap.size + 2 ≤ w1.heap.size ∧ Below w.heap.size w w1 :=
  ⟨(hb.block _ (by simp; omega)).trans ((Below.heap_alloc _ _ _ (by simp)).trans (heap_alloc_new w _)), (hb.block _ (by simp)).trans (heap_alloc_at _ _ _ (by simp)), by simpa using hb.size, (((Below.refl _ _).alloc (Nat.le_refl _) _).alloc (by simp) _).trans (hb.mono (by simp; omega))⟩
end Go.Proofs.Ytmekkjnegmeogaa
