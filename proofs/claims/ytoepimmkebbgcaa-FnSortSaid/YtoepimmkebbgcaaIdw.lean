/- IdValid and IdBefore of the program; l3Before, IdBefore of the model. -/
import Derived.Test.YtoepimmkebbgcaaId
namespace Go.Proofs.Ytoepimmkebbgcaa
open Go.RowKit
set_option linter.unusedVariables false

/-- What IdBefore answers. -/
def befB (r n r' n' : Int) : Bool := idB r n && idB r' n' && ltB r n r' n'

theorem iidv_any (r n : Int) (w : World) :
    Calls Try.prog 21 #[.agg #[.int .i64 r, .int .i64 n]] w fun e w' => e = .returned (.bool (idB r n)) ∧ Below w.heap.size w w' := by
  have s1 := ivid_any r n
  generalize idB r n = p at s1 ⊢
  go_enter Try.func21, Try.ntmps21
  go_wp2_with fail
  refine (s1 _).mono ?_
  rintro e w1 ⟨rfl, hb⟩
  have D := Lib.hid (((Below.refl w.heap.size w).alloc (Nat.le_refl _) _).trans (hb.mono (by simp)))
  clear hb
  go_wp2_with fail
  go_ret
  exact ⟨rfl, D.out⟩

/-- l3Before of the model. -/
theorem slt_any (r n r' n' : Int) (w : World) :
    Calls Try.prog 32 #[.agg #[.int .i64 r, .int .i64 n], .agg #[.int .i64 r', .int .i64 n']] w fun e w' => e = .returned (.bool (ltB r n r' n')) ∧ Below w.heap.size w w' := by
  rcases Int.lt_trichotomy r r' with h | rfl | h
  · have e1 : ltB r n r' n' = true := by simp [ltB]; omega
    rw [e1]; clear e1
    go_enter Try.func32, Try.ntmps32
    go_wp2_with fail
    go_ret
    exact ⟨rfl, ((Below.refl _ _).alloc (Nat.le_refl _) _).alloc (by simp) _⟩
  · have e1 : ltB r n r n' = decide (n < n') := by simp [ltB]
    rw [e1]; clear e1
    go_enter Try.func32, Try.ntmps32
    go_wp2_with fail
    go_ret
    exact ⟨by simp, ((Below.refl _ _).alloc (Nat.le_refl _) _).alloc (by simp) _⟩
  · have e1 : ltB r n r' n' = false := by simp [ltB]; omega
    rw [e1]; clear e1
    have h1 : ¬ r < r' := by omega
    have h2 : (r == r') = false := by simp; omega
    go_enter Try.func32, Try.ntmps32
    go_wp2_with fail
    go_ret
    exact ⟨rfl, ((Below.refl _ _).alloc (Nat.le_refl _) _).alloc (by simp) _⟩

/-- Two boxes of a call with two ids, behind callees that only make memory. -/
structure Two (w : World) (r n r' n' : Int) (w' : World) : Prop where
  a : w'.heap[w.heap.size]? = some (.cells #[.int .i64 r, .int .i64 n] 24 (0, 0))
  b : w'.heap[w.heap.size + 1]? = some (.cells #[.int .i64 r', .int .i64 n'] 24 (0, 0))
  z : w.heap.size + 2 ≤ w'.heap.size
  d : Below w.heap.size w w'

theorem Two.start (w : World) (r n r' n' : Int) : Two w r n r' n' ((w.alloc (.cells #[.int .i64 r, .int .i64 n] 24)).alloc (.cells #[.int .i64 r', .int .i64 n'] 24)) :=
  ⟨(Below.heap_alloc _ _ _ (by simp)).trans (heap_alloc_new w _), heap_alloc_at _ _ _ (by simp), by simp, ((Below.refl _ _).alloc (Nat.le_refl _) _).alloc (by simp) _⟩
theorem Two.up {w w1 w2 : World} {r n r' n' : Int} (h : Two w r n r' n' w1) (hb : Below w1.heap.size w1 w2) : Two w r n r' n' w2 :=
  ⟨(hb.block _ (by have := h.z; omega)).trans h.a, (hb.block _ (by have := h.z; omega)).trans h.b, Nat.le_trans h.z hb.size, h.d.trans (hb.mono (by have := h.z; omega))⟩

theorem ibef_any (r n r' n' : Int) (w : World) :
    Calls Try.prog 12 #[.agg #[.int .i64 r, .int .i64 n], .agg #[.int .i64 r', .int .i64 n']] w fun e w' => e = .returned (.bool (befB r n r' n')) ∧ Below w.heap.size w w' := by
  have s1 := ivid_any r n
  have s2 := ivid_any r' n'
  have s3 := cmpI_any r n r' n'
  have e3 := cmpI_neg r n r' n'
  unfold befB
  rw [← e3]
  clear e3
  generalize idB r n = p at s1 ⊢
  generalize idB r' n' = q at s2 ⊢
  generalize cmpI r n r' n' = x at s3 ⊢
  have T0 := Lib.hid (Two.start w r n r' n')
  cases p
  · go_enter Try.func12, Try.ntmps12
    go_wp2_with fail
    refine (s1 _).mono ?_
    rintro e w1 ⟨rfl, hb⟩
    have T1 := Lib.hid (T0.out.up hb)
    clear hb
    go_wp2_with fail
    go_ret
    exact ⟨rfl, T1.out.d⟩
  · cases q
    · go_enter Try.func12, Try.ntmps12
      go_wp2_with fail
      refine (s1 _).mono ?_
      rintro e w1 ⟨rfl, hb⟩
      have T1 := T0.out.up hb
      obtain ⟨a0, a1, _, _⟩ := blk2 T1.a
      obtain ⟨b0, b1, _, _⟩ := blk2 T1.b
      have z1 := T1.z
      have T1 := Lib.hid T1
      clear hb
      go_wp2_with fail
      refine (s2 _).mono ?_
      rintro e w2 ⟨rfl, hb⟩
      have T2 := Lib.hid (T1.out.up hb)
      clear hb
      go_wp2_with fail
      go_ret
      exact ⟨rfl, T2.out.d⟩
    · go_enter Try.func12, Try.ntmps12
      go_wp2_with fail
      refine (s1 _).mono ?_
      rintro e w1 ⟨rfl, hb⟩
      have T1 := T0.out.up hb
      obtain ⟨a0, a1, _, _⟩ := blk2 T1.a
      obtain ⟨b0, b1, _, _⟩ := blk2 T1.b
      have z1 := T1.z
      have T1 := Lib.hid T1
      clear hb
      go_wp2_with fail
      refine (s2 _).mono ?_
      rintro e w2 ⟨rfl, hb⟩
      have T2 := T1.out.up hb
      clear hb a0 a1 b0 b1
      obtain ⟨a0, a1, _, _⟩ := blk2 T2.a
      obtain ⟨b0, b1, _, _⟩ := blk2 T2.b
      have z2 := T2.z
      have T2 := Lib.hid T2
      go_wp2_with fail
      refine (s3 _).mono ?_
      rintro e w3 ⟨rfl, hb⟩
      have T3 := Lib.hid (T2.out.up hb)
      clear hb
      go_wp2_with fail
      go_ret
      exact ⟨by simp, T3.out.d⟩

theorem sbef_any (r n r' n' : Int) (w : World) :
    Calls Try.prog 13 #[.agg #[.int .i64 r, .int .i64 n], .agg #[.int .i64 r', .int .i64 n']] w fun e w' => e = .returned (.bool (befB r n r' n')) ∧ Below w.heap.size w w' := by
  have s1 := svid_any r n
  have s2 := svid_any r' n'
  have s3 := slt_any r n r' n'
  unfold befB
  generalize idB r n = p at s1 ⊢
  generalize idB r' n' = q at s2 ⊢
  generalize ltB r n r' n' = x at s3 ⊢
  have T0 := Lib.hid (Two.start w r n r' n')
  cases p
  · go_enter Try.func13, Try.ntmps13
    go_wp2_with fail
    refine (s1 _).mono ?_
    rintro e w1 ⟨rfl, hb⟩
    have T1 := Lib.hid (T0.out.up hb)
    clear hb
    go_wp2_with fail
    go_ret
    exact ⟨rfl, T1.out.d⟩
  · cases q
    · go_enter Try.func13, Try.ntmps13
      go_wp2_with fail
      refine (s1 _).mono ?_
      rintro e w1 ⟨rfl, hb⟩
      have T1 := T0.out.up hb
      obtain ⟨a0, a1, _, _⟩ := blk2 T1.a
      obtain ⟨b0, b1, _, _⟩ := blk2 T1.b
      have z1 := T1.z
      have T1 := Lib.hid T1
      clear hb
      go_wp2_with fail
      refine (s2 _).mono ?_
      rintro e w2 ⟨rfl, hb⟩
      have T2 := Lib.hid (T1.out.up hb)
      clear hb
      go_wp2_with fail
      go_ret
      exact ⟨rfl, T2.out.d⟩
    · go_enter Try.func13, Try.ntmps13
      go_wp2_with fail
      refine (s1 _).mono ?_
      rintro e w1 ⟨rfl, hb⟩
      have T1 := T0.out.up hb
      obtain ⟨a0, a1, _, _⟩ := blk2 T1.a
      obtain ⟨b0, b1, _, _⟩ := blk2 T1.b
      have z1 := T1.z
      have T1 := Lib.hid T1
      clear hb
      go_wp2_with fail
      refine (s2 _).mono ?_
      rintro e w2 ⟨rfl, hb⟩
      have T2 := T1.out.up hb
      clear hb a0 a1 b0 b1
      obtain ⟨a0, a1, _, _⟩ := blk2 T2.a
      obtain ⟨b0, b1, _, _⟩ := blk2 T2.b
      have z2 := T2.z
      have T2 := Lib.hid T2
      go_wp2_with fail
      refine (s3 _).mono ?_
      rintro e w3 ⟨rfl, hb⟩
      have T3 := Lib.hid (T2.out.up hb)
      clear hb
      go_wp2_with fail
      go_ret
      exact ⟨by simp, T3.out.d⟩
end Go.Proofs.Ytoepimmkebbgcaa
