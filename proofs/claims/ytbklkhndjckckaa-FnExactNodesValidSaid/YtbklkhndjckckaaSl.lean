/- Small facts of slices and worlds. -/
import Derived.Test.YtbklkhndjckckaaBase
import Derived.Deep.DeepCutAuto
import Derived.OwnWalk
import Derived.Deep.QuietTactic
import Derived.BigQuiet
namespace Go.Proofs.Ytbklkhndjckckaa
open Go.RowKit
set_option linter.unusedVariables false

theorem lt_of_heap {w : World} {b : Nat} {o : Obj} (h : w.heap[b]? = some o) : b < w.heap.size := by
  have := Array.getElem?_eq_some_iff.1 h
  exact this.1

theorem cell_of_cells {w : World} {b i : Nat} {cur : Array Value} {t : TypeId} (h : w.heap[b]? = some (.cells cur t (0, 0))) : w.cell? ⟨b, i, none⟩ = cur[i]? := by
  simp [World.cell?, h]

theorem bstep {w w0 w1 : World} (D : Below w.heap.size w w0) (h : Below w0.heap.size w0 w1) : Below w.heap.size w w1 := D.trans (h.mono D.size)

theorem bblk {w0 w1 : World} {b : Nat} {o : Obj} (h : Below w0.heap.size w0 w1) (s : b + 1 ≤ w0.heap.size) (A : w0.heap[b]? = some o) : w1.heap[b]? = some o := (h.block b s).trans A

theorem bdrewN {B : Nat} {a w : World} (h : Below B a w) (n : Nat) : Below B a (w.drewN n) := ⟨h.os, h.tape, h.output, h.size, h.block⟩

theorem up_to {P : Nat → Prop} {k : Nat} (h : ∀ j, j < k → P j) (hk : P k) : ∀ j, j < k + 1 → P j := fun j hj => by
  rcases Nat.lt_or_ge j k with h' | h'
  · exact h j h'
  · obtain rfl : j = k := by omega
    exact hk
end Go.Proofs.Ytbklkhndjckckaa
