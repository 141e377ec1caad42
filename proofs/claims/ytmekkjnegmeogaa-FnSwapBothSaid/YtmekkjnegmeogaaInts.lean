/- Slices of numbers: read, owned; the loops that compare them. -/
import Derived.Test.YtmekkjnegmeogaaCmd
import Derived.Deep.DeepCutAuto
import Derived.OwnWalk
import Derived.Deep.QuietTactic
import Derived.BigQuiet
namespace Go.Proofs.Ytmekkjnegmeogaa
open Go.RowKit
set_option linter.unusedVariables false

/-- Numbers as values. -/
def ints (L : List Int) : List Value := L.map (Value.int .i64)
theorem ints_len (L : List Int) : (ints L).length = L.length := List.length_map _
theorem ints_get {L : List Int} {i : Nat} (h : i < L.length) : (ints L)[i]? = some (.int .i64 L[i]) := by simp [ints, h]

/-- A slice that reads as L. -/
def Ints (w : World) (v : Value) (L : List Int) : Prop :=
  ∃ a cap, v = .slice a L.length cap ∧ L.length ≤ cap ∧ L.length ≤ 2000000 ∧ (L.length = 0 ∨ ∃ b off, a = some ⟨b, off, none⟩ ∧ b < w.heap.size ∧ ∀ i (h : i < L.length), w.cell? ⟨b, off + i, none⟩ = some (.int .i64 L[i]))

/-- A slice in a block of its own, from its head. -/
def Own (w : World) (b : Nat) (v : Value) (L : List Int) : Prop :=
  ∃ cap cur t, v = .slice (some ⟨b, 0, none⟩) L.length cap ∧ w.heap[b]? = some (.cells cur t (0, 0)) ∧ L.length ≤ cap ∧ L.length ≤ 2000000 ∧ L.length ≤ cur.size ∧ cur.toList.take L.length = ints L

theorem lt_of_heap {w : World} {b : Nat} {o : Obj} (h : w.heap[b]? = some o) : b < w.heap.size := by
  have := Array.getElem?_eq_some_iff.1 h
  exact this.1

theorem Own.lt {w : World} {b : Nat} {v : Value} {L : List Int} (h : Own w b v L) : b < w.heap.size := by
  obtain ⟨cap, cur, t, rfl, hb, _⟩ := h
  exact lt_of_heap hb

theorem Own.same {w w' : World} {b : Nat} {v : Value} {L : List Int} (h : Own w b v L) (hb : w'.heap[b]? = w.heap[b]?) : Own w' b v L := by
  obtain ⟨cap, cur, t, e, h1, h2, h3, h4⟩ := h
  exact ⟨cap, cur, t, e, hb.trans h1, h2, h3, h4⟩

theorem Own.up {w w' : World} {b B : Nat} {v : Value} {L : List Int} (h : Own w b v L) (hb : Below B w w') (hB : b < B) : Own w' b v L := h.same (hb.block b hB)

theorem cell_of_cells {w : World} {b i : Nat} {cur : Array Value} {t : TypeId} (h : w.heap[b]? = some (.cells cur t (0, 0))) : w.cell? ⟨b, i, none⟩ = cur[i]? := by
  simp [World.cell?, h]

theorem Own.read {w : World} {b : Nat} {v : Value} {L : List Int} (h : Own w b v L) : Ints w v L := by
  obtain ⟨cap, cur, t, rfl, h1, h2, h3, h4, h5⟩ := h
  refine ⟨_, cap, rfl, h2, h3, ?_⟩
  by_cases hz : L.length = 0
  · exact .inl hz
  · refine .inr ⟨b, 0, rfl, lt_of_heap h1, fun i hi => ?_⟩
    rw [Nat.zero_add, cell_of_cells h1]
    have e := ints_get hi
    rw [← h5, List.getElem?_take, if_pos hi] at e
    simpa using e

theorem Ints.up {w w' : World} {B : Nat} {v : Value} {L : List Int} (h : Ints w v L) (hb : Below B w w') (hB : w.heap.size ≤ B) : Ints w' v L := by
  obtain ⟨a, cap, rfl, h1, h2, h3⟩ := h
  refine ⟨a, cap, rfl, h1, h2, ?_⟩
  rcases h3 with h3 | ⟨b, off, rfl, h4, h5⟩
  · exact .inl h3
  · exact .inr ⟨b, off, rfl, Nat.lt_of_lt_of_le h4 hb.size, fun i hi => (hb.cell (p := ⟨b, off + i, none⟩) (Nat.lt_of_lt_of_le h4 hB)).trans (h5 i hi)⟩

/-- What it reads as, in the world of a walk. -/
theorem Ints.cells {w : World} {v : Value} {L : List Int} (h : Ints w v L) : ∃ a cap, v = .slice a L.length cap ∧ L.length ≤ cap ∧ L.length ≤ 2000000 ∧ (L.length = 0 ∨ ∃ b off, a = some ⟨b, off, none⟩ ∧ b < w.heap.size ∧ ∀ i, i < L.length → w.cell? ⟨b, off + i, none⟩ = some (.int .i64 (L.getD i 0))) := by
  obtain ⟨a, cap, rfl, h1, h2, h3⟩ := h
  refine ⟨a, cap, rfl, h1, h2, ?_⟩
  rcases h3 with h3 | ⟨b, off, rfl, h4, h5⟩
  · exact .inl h3
  · exact .inr ⟨b, off, rfl, h4, fun i hi => by rw [h5 i hi, List.getD_eq_getElem?_getD, List.getElem?_eq_getElem hi]; rfl⟩

theorem own_new (w : World) (cur : Array Value) (t : TypeId) (L : List Int) (n : Nat) (hn : n = L.length) (hl : L.length ≤ 2000000) (h : cur.toList = ints L) : Own (w.alloc (.cells cur t)) w.heap.size (.slice (some ⟨w.heap.size, 0, none⟩) n n) L := by
  subst hn
  have hs : cur.size = L.length := by rw [← Array.length_toList, h, ints_len]
  exact ⟨_, cur, t, rfl, heap_alloc_new w _, Nat.le_refl _, hl, by omega, by rw [h, ← ints_len]; exact List.take_length⟩

theorem Own.of_row {w : World} {base : Nat} {e : TypeId} {v : Value} {L : List Int} {n : Nat} (h : w.ownsRow base e 1 v n (ints L)) (hn : n = L.length) (hl : L.length ≤ 2000000) (hv : v ≠ .slice none 0 0) : ∃ b, base ≤ b ∧ Own w b v L := by
  subst hn
  rcases h.2 with ⟨rfl, _⟩ | ⟨g, cap, cur, rfl, h1, h2, h3, h4, h5, h6⟩
  · exact absurd rfl hv
  · exact ⟨g, h1, cap, cur, e, rfl, h2, h3, hl, by omega, by simpa using h6⟩

/-- What a law is told of a slice that came in: it is too long, or it reads as L. -/
def IntsIn (w : World) (a : Option Addr) (len cap : Nat) : Prop := 1048576 < len ∨ ∃ L, Ints w (.slice a len cap) L

theorem bstep {w w0 w1 : World} (D : Below w.heap.size w w0) (h : Below w0.heap.size w0 w1) : Below w.heap.size w w1 := D.trans (h.mono D.size)
theorem bblk {w0 w1 : World} {b : Nat} {o : Obj} (h : Below w0.heap.size w0 w1) (s : b + 1 ≤ w0.heap.size) (A : w0.heap[b]? = some o) : w1.heap[b]? = some o := (h.block b s).trans A

theorem bdrewN {B : Nat} {a w : World} (h : Below B a w) (n : Nat) : Below B a (w.drewN n) := ⟨h.os, h.tape, h.output, h.size, h.block⟩

theorem up_to {P : Nat → Prop} {k : Nat} (h : ∀ j, j < k → P j) (hk : P k) : ∀ j, j < k + 1 → P j := fun j hj => by
  rcases Nat.lt_or_ge j k with h' | h'
  · exact h j h'
  · obtain rfl : j = k := by omega
    exact hk

/-- Equality of two lists, as the loops find it. -/
theorem list_ne {A B : List Int} {k : Nat} (ha : k < A.length) (hl : A.length = B.length) (h : ¬ A.getD k 0 = B.getD k 0) : decide (A = B) = false := by
  rw [decide_eq_false_iff_not]; intro e; subst e; exact h rfl
theorem list_eq {A B : List Int} (hl : A.length = B.length) (h : ∀ j, j < A.length → A.getD j 0 = B.getD j 0) : decide (A = B) = true := by
  rw [decide_eq_true_iff]
  apply List.ext_getElem hl
  intro i h1 h2
  have := h i h1
  rw [List.getD_eq_getElem?_getD, List.getD_eq_getElem?_getD, List.getElem?_eq_getElem h1, List.getElem?_eq_getElem h2] at this
  simpa using this
end Go.Proofs.Ytmekkjnegmeogaa
