/- Contracts of the functions on an id (door seats): valid, IdValid of the program and of the model. -/
import Derived.Test.YtoepimmkebbgcaaDoorBase
import Derived.Test.YtoepimmkebbgcaaDoorIdm
namespace Go.Proofs.YtoepimmkebbgcaaDoor
open Go.RowKit
set_option linter.unusedVariables false

theorem idB_t {r n : Int} (h1 : 0 ≤ r) (h2 : r ≤ 4) (h3 : 1 ≤ n) (h4 : n ≤ 50) : idB r n = true := by simp [idB]; omega
theorem idB_f {r n : Int} (h : ¬ (0 ≤ r ∧ r ≤ 4 ∧ 1 ≤ n ∧ n ≤ 50)) : idB r n = false := by simp [idB]; omega
theorem idB_of {r n : Int} (h : idB r n = true) : 0 ≤ r ∧ r ≤ 4 ∧ 1 ≤ n ∧ n ≤ 50 := by simpa [idB] using h
theorem idB_no {r n : Int} (h : idB r n = false) : (¬ 0 ≤ r) ∨ (0 ≤ r ∧ ¬ r ≤ 4) ∨ (0 ≤ r ∧ r ≤ 4 ∧ ¬ 1 ≤ n) ∨ (0 ≤ r ∧ r ≤ 4 ∧ 1 ≤ n ∧ ¬ n ≤ 50) := by simp [idB] at h; omega

/-- valid of the program. -/
theorem ivid_any (r n : Int) (w : World) :
    Calls Tryd.prog 20 #[.agg #[.int .i64 r, .int .i64 n]] w fun e w' => e = .returned (.bool (idB r n)) ∧ Below w.heap.size w w' := by
  by_cases h : idB r n = true
  · obtain ⟨h1, h2, h3, h4⟩ := idB_of h
    rw [h]; clear h
    go_enter Tryd.func20, Tryd.ntmps20
    go_wp2_with fail
    go_ret
    exact ⟨rfl, (Below.refl _ _).alloc (Nat.le_refl _) _⟩
  · have h : idB r n = false := by simpa using h
    rw [h]
    rcases idB_no h with h1 | ⟨h1, h2⟩ | ⟨h1, h2, h3⟩ | ⟨h1, h2, h3, h4⟩
    all_goals
      clear h
      go_enter Tryd.func20, Tryd.ntmps20
      go_wp2_with fail
      go_ret
      exact ⟨rfl, (Below.refl _ _).alloc (Nat.le_refl _) _⟩

/-- IdValid of the model. -/
theorem svid_any (r n : Int) (w : World) :
    Calls Tryd.prog 22 #[.agg #[.int .i64 r, .int .i64 n]] w fun e w' => e = .returned (.bool (idB r n)) ∧ Below w.heap.size w w' := by
  have e1 : idB r n = (inB r 0 4 && inB n 1 50) := by
    rw [Bool.eq_iff_iff]; simp [idB, inB]; omega
  rw [e1]
  have s1 := in_any r 0 4
  have s2 := in_any n 1 50
  generalize inB r 0 4 = p at s1 ⊢
  generalize inB n 1 50 = q at s2 ⊢
  clear e1
  cases p
  · go_enter Tryd.func22, Tryd.ntmps22
    go_wp2_with (go_at_call 29; (with_reducible refine (s1 _).mono ?_); rintro e w' ⟨rfl, rfl⟩)
    go_ret
    exact ⟨rfl, (Below.refl _ _).alloc (Nat.le_refl _) _⟩
  · go_enter Tryd.func22, Tryd.ntmps22
    go_wp2_with (first | (go_at_call 29; (with_reducible refine (s1 _).mono ?_); rintro e w' ⟨rfl, rfl⟩) | (go_at_call 29; (with_reducible refine (s2 _).mono ?_); rintro e w' ⟨rfl, rfl⟩))
    go_ret
    exact ⟨by simp, (Below.refl _ _).alloc (Nat.le_refl _) _⟩

theorem iidv_any (r n : Int) (w : World) :
    Calls Tryd.prog 14 #[.agg #[.int .i64 r, .int .i64 n]] w fun e w' => e = .returned (.bool (idB r n)) ∧ Below w.heap.size w w' := by
  have s1 := ivid_any r n
  generalize idB r n = p at s1 ⊢
  go_enter Tryd.func14, Tryd.ntmps14
  go_wp2_with fail
  refine (s1 _).mono ?_
  rintro e w1 ⟨rfl, hb⟩
  have D := Lib.hid (((Below.refl w.heap.size w).alloc (Nat.le_refl _) _).trans (hb.mono (by simp)))
  clear hb
  go_wp2_with fail
  go_ret
  exact ⟨rfl, D.out⟩

/-- One box of an id, behind callees that only make memory. -/
structure One (w : World) (r n : Int) (w' : World) : Prop where
  a : w'.heap[w.heap.size]? = some (.cells #[.int .i64 r, .int .i64 n] 24 (0, 0))
  z : w.heap.size + 1 ≤ w'.heap.size
  d : Below w.heap.size w w'
theorem One.start (w : World) (r n : Int) : One w r n (w.alloc (.cells #[.int .i64 r, .int .i64 n] 24)) :=
  ⟨heap_alloc_new w _, by simp, (Below.refl _ _).alloc (Nat.le_refl _) _⟩
theorem One.up {w w1 w2 : World} {r n : Int} (h : One w r n w1) (hb : Below w1.heap.size w1 w2) : One w r n w2 :=
  ⟨(hb.block _ (by have := h.z; omega)).trans h.a, Nat.le_trans h.z hb.size, h.d.trans (hb.mono (by have := h.z; omega))⟩

end Go.Proofs.YtoepimmkebbgcaaDoor
