/- Texts laid together. -/
import Derived.Test.YtlipmjbeiiifkaaC01
/- Insertion sort at ids: what it keeps. -/
namespace Go.Proofs.Ytlipmjbeiiifkaa
open Go.RowKit
set_option linter.unusedVariables false

/-- Within insertion sort: all up to i are in order, but the one at j, which is sooner than all behind it. -/
structure InI (Q0 Q : List Pid) (i j : Nat) : Prop where
  perm : Q.Perm Q0
  le : j ≤ i
  lt : i < Q.length
  ord : ∀ a b, a < b → b ≤ i → a ≠ j → b ≠ j → ltP (Q.getD a nop) (Q.getD b nop) = true
  low : ∀ b, j < b → b ≤ i → ltP (Q.getD j nop) (Q.getD b nop) = true
/-- All ahead of i are in order. -/
structure SrI (Q0 Q : List Pid) (i : Nat) : Prop where
  perm : Q.Perm Q0
  le : i ≤ Q.length
  ord : ∀ a b, a < b → b < i → ltP (Q.getD a nop) (Q.getD b nop) = true
theorem SrI.ins {Q0 Q : List Pid} {i : Nat} (h : SrI Q0 Q i) (hi : i < Q.length) : InI Q0 Q i i :=
  ⟨h.perm, Nat.le_refl _, hi, fun a b hab hb _ hb' => h.ord a b hab (by omega), fun b h1 h2 => by omega⟩
theorem InI.done {Q0 Q : List Pid} {i j : Nat} (h : InI Q0 Q i j) (hj : j = 0 ∨ ltP (Q.getD (j - 1) nop) (Q.getD j nop) = true) : SrI Q0 Q (i + 1) := by
  refine ⟨h.perm, h.lt, fun a b hab hb => ?_⟩
  by_cases ea : a = j
  · subst ea; exact h.low b hab (by omega)
  · by_cases eb : b = j
    · subst eb
      rcases hj with rfl | hj
      · omega
      · by_cases e : a = b - 1
        · subst e; exact hj
        · exact ltP_trans (h.ord a (b - 1) (by omega) (by omega) ea (by omega)) hj
    · exact h.ord a b hab (by omega) ea eb
theorem InI.step {Q0 Q : List Pid} {i j : Nat} (h : InI Q0 Q i (j + 1)) (hs : ltP (Q.getD (j + 1) nop) (Q.getD j nop) = true) : InI Q0 ((Q.set (j + 1) (Q.getD j nop)).set j (Q.getD (j + 1) nop)) i j := by
  have hlt := h.lt
  have hle := h.le
  have hj1 : j + 1 < Q.length := by omega
  have g0 : ((Q.set (j + 1) (Q.getD j nop)).set j (Q.getD (j + 1) nop)).getD j nop = Q.getD (j + 1) nop := by
    rw [List.getD_eq_getElem?_getD, List.getElem?_set_self (by rw [List.length_set]; omega)]; rfl
  have g1 : ((Q.set (j + 1) (Q.getD j nop)).set j (Q.getD (j + 1) nop)).getD (j + 1) nop = Q.getD j nop := by
    rw [List.getD_eq_getElem?_getD, List.getElem?_set_ne (by omega), List.getElem?_set_self hj1]; rfl
  have g2 : ∀ m, m ≠ j → m ≠ j + 1 → ((Q.set (j + 1) (Q.getD j nop)).set j (Q.getD (j + 1) nop)).getD m nop = Q.getD m nop := fun m h1 h2 => by
    rw [List.getD_eq_getElem?_getD, List.getElem?_set_ne (fun e => h1 e.symm), List.getElem?_set_ne (fun e => h2 e.symm), ← List.getD_eq_getElem?_getD]
  refine ⟨?_, by omega, by rw [List.length_set, List.length_set]; exact hlt, fun a b hab hb ha hb' => ?_, fun b h1 h2 => ?_⟩
  · refine List.Perm.trans ?_ h.perm
    have e : Q = Q.take j ++ Q[j] :: Q[j + 1] :: Q.drop (j + 2) := by
      rw [← List.drop_eq_getElem_cons hj1, ← List.drop_eq_getElem_cons (by omega), List.take_append_drop]
    have e' : (Q.set (j + 1) (Q.getD j nop)).set j (Q.getD (j + 1) nop) = Q.take j ++ Q[j + 1] :: Q[j] :: Q.drop (j + 2) := by
      have q0 : Q.getD j nop = Q[j] := by rw [List.getD_eq_getElem?_getD, List.getElem?_eq_getElem (by omega)]; rfl
      have q1 : Q.getD (j + 1) nop = Q[j + 1] := by rw [List.getD_eq_getElem?_getD, List.getElem?_eq_getElem hj1]; rfl
      rw [q0, q1]
      generalize Q[j] = y at e ⊢
      generalize Q[j + 1] = x at e ⊢
      have hl : (Q.take j).length = j := by rw [List.length_take]; omega
      generalize Q.take j = A at e hl ⊢
      generalize Q.drop (j + 2) = B at e ⊢
      subst e
      subst hl
      simp
    rw [e']
    conv => rhs; rw [e]
    exact List.Perm.append_left _ (List.Perm.swap _ _ _)
  · by_cases eb : b = j + 1
    · subst eb; rw [g1, g2 a ha (by omega)]
      exact h.ord a j (by omega) (by omega) (by omega) (by omega)
    · rw [g2 b hb' eb]
      by_cases ea : a = j + 1
      · subst ea; rw [g1]
        exact h.ord j b (by omega) hb (by omega) eb
      · rw [g2 a ha ea]; exact h.ord a b hab hb ea eb
  · rw [g0]
    by_cases eb : b = j + 1
    · subst eb; rw [g1]; exact hs
    · rw [g2 b (by omega) eb]; exact h.low b (by omega) h2
end Go.Proofs.Ytlipmjbeiiifkaa

/- Nine cells stored, one after the other. -/
namespace Go.Proofs.Ytlipmjbeiiifkaa
open Go.RowKit
set_option linter.unusedVariables false

theorem put9_at {w : World} {b : Nat} {t : TypeId} {y0 y1 y2 y3 y4 y5 y6 y7 y8 : Value} (x0 x1 x2 x3 x4 x5 x6 x7 x8 : Value) (h : w.heap[b]? = some (.cells #[y0, y1, y2, y3, y4, y5, y6, y7, y8] t (0, 0))) :
    (((((((((w.setCell ⟨b, 0, none⟩ x0).setCell ⟨b, 1, none⟩ x1).setCell ⟨b, 2, none⟩ x2).setCell ⟨b, 3, none⟩ x3).setCell ⟨b, 4, none⟩ x4).setCell ⟨b, 5, none⟩ x5).setCell ⟨b, 6, none⟩ x6).setCell ⟨b, 7, none⟩ x7).setCell ⟨b, 8, none⟩ x8).heap[b]? = some (.cells #[x0, x1, x2, x3, x4, x5, x6, x7, x8] t (0, 0)) := by
  have e := heap_setCell_same _ b 8 _ _ x8 (heap_setCell_same _ b 7 _ _ x7 (heap_setCell_same _ b 6 _ _ x6 (heap_setCell_same _ b 5 _ _ x5 (heap_setCell_same _ b 4 _ _ x4 (heap_setCell_same _ b 3 _ _ x3 (heap_setCell_same _ b 2 _ _ x2 (heap_setCell_same _ b 1 _ _ x1 (heap_setCell_same _ b 0 _ _ x0 (h)))))))))
  simp only [List.setIfInBounds_toArray, List.set_cons_zero, List.set_cons_succ] at e
  exact e
theorem put9_other {w : World} {b c : Nat} (x0 x1 x2 x3 x4 x5 x6 x7 x8 : Value) (h : c ≠ b) :
    (((((((((w.setCell ⟨b, 0, none⟩ x0).setCell ⟨b, 1, none⟩ x1).setCell ⟨b, 2, none⟩ x2).setCell ⟨b, 3, none⟩ x3).setCell ⟨b, 4, none⟩ x4).setCell ⟨b, 5, none⟩ x5).setCell ⟨b, 6, none⟩ x6).setCell ⟨b, 7, none⟩ x7).setCell ⟨b, 8, none⟩ x8).heap[c]? = w.heap[c]? := by
  rw [heap_setCell_other _ _ _ _ h, heap_setCell_other _ _ _ _ h, heap_setCell_other _ _ _ _ h, heap_setCell_other _ _ _ _ h, heap_setCell_other _ _ _ _ h, heap_setCell_other _ _ _ _ h, heap_setCell_other _ _ _ _ h, heap_setCell_other _ _ _ _ h, heap_setCell_other _ _ _ _ h]
theorem put9_below {w : World} {b B : Nat} (x0 x1 x2 x3 x4 x5 x6 x7 x8 : Value) (h : B ≤ b) :
    Below B w (((((((((w.setCell ⟨b, 0, none⟩ x0).setCell ⟨b, 1, none⟩ x1).setCell ⟨b, 2, none⟩ x2).setCell ⟨b, 3, none⟩ x3).setCell ⟨b, 4, none⟩ x4).setCell ⟨b, 5, none⟩ x5).setCell ⟨b, 6, none⟩ x6).setCell ⟨b, 7, none⟩ x7).setCell ⟨b, 8, none⟩ x8) :=
  (((((((((Below.refl B w).setCell (p := ⟨b, 0, none⟩) h x0).setCell (p := ⟨b, 1, none⟩) h x1).setCell (p := ⟨b, 2, none⟩) h x2).setCell (p := ⟨b, 3, none⟩) h x3).setCell (p := ⟨b, 4, none⟩) h x4).setCell (p := ⟨b, 5, none⟩) h x5).setCell (p := ⟨b, 6, none⟩) h x6).setCell (p := ⟨b, 7, none⟩) h x7).setCell (p := ⟨b, 8, none⟩) h x8
theorem nine_all {w : World} {b : Nat} {x0 x1 x2 x3 x4 x5 x6 x7 x8 : Value} {t : TypeId} (h : w.heap[b]? = some (.cells #[x0, x1, x2, x3, x4, x5, x6, x7, x8] t (0, 0))) :
    (w.cell? ⟨b, 0, none⟩ = some x0 ∧ w.cell? ⟨b, 1, none⟩ = some x1 ∧ w.cell? ⟨b, 2, none⟩ = some x2 ∧ w.cell? ⟨b, 3, none⟩ = some x3 ∧ w.cell? ⟨b, 4, none⟩ = some x4 ∧ w.cell? ⟨b, 5, none⟩ = some x5 ∧ w.cell? ⟨b, 6, none⟩ = some x6 ∧ w.cell? ⟨b, 7, none⟩ = some x7 ∧ w.cell? ⟨b, 8, none⟩ = some x8) ∧ (w.frozen? ⟨b, 0, none⟩ = false ∧ w.frozen? ⟨b, 1, none⟩ = false ∧ w.frozen? ⟨b, 2, none⟩ = false ∧ w.frozen? ⟨b, 3, none⟩ = false ∧ w.frozen? ⟨b, 4, none⟩ = false ∧ w.frozen? ⟨b, 5, none⟩ = false ∧ w.frozen? ⟨b, 6, none⟩ = false ∧ w.frozen? ⟨b, 7, none⟩ = false ∧ w.frozen? ⟨b, 8, none⟩ = false) ∧ b < w.heap.size :=
  ⟨nine_cells h, ⟨nine_free h 0, nine_free h 1, nine_free h 2, nine_free h 3, nine_free h 4, nine_free h 5, nine_free h 6, nine_free h 7, nine_free h 8⟩, lt_of_heap h⟩
end Go.Proofs.Ytlipmjbeiiifkaa
