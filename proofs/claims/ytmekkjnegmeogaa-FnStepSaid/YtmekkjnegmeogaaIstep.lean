/- The program's StateStep. -/
import Derived.Test.YtmekkjnegmeogaaRun
namespace Go.Proofs.Ytmekkjnegmeogaa
open Go.RowKit
set_option linter.unusedVariables false

/-- What a step answers. -/
def stepR (L : List Int) (k key v : Int) : List Int × Int × Bool := if stV L = true ∧ cvB k key v = true then (stepL L k key v, stepN L k key v, true) else ([], 0, false)
theorem stepR_yes {L : List Int} {k key v : Int} (h : stV L = true) (h2 : cvB k key v = true) : stepR L k key v = (stepL L k key v, stepN L k key v, true) := if_pos ⟨h, h2⟩
theorem stepR_no1 {L : List Int} {k key v : Int} (h : stV L = false) : stepR L k key v = ([], 0, false) := if_neg (fun x => by rw [h] at x; exact absurd x.1 (by decide))
theorem stepR_no2 {L : List Int} {k key v : Int} (h : cvB k key v = false) : stepR L k key v = ([], 0, false) := if_neg (fun x => by rw [h] at x; exact absurd x.2 (by decide))

/-- What StateStep leaves. -/
def StepPost (R : List Int × Int × Bool) (w : World) (e : Ending) (w' : World) : Prop :=
  ∃ b u, w.heap.size ≤ b ∧ e = .returned (.tuple #[u, .int .i64 R.2.1, .bool R.2.2]) ∧ Own w' b u R.1 ∧ Below w.heap.size w w'

theorem own_nil (w : World) (t : TypeId) : Own (w.alloc (.cells #[] t)) w.heap.size (.slice (some ⟨w.heap.size, 0, none⟩) 0 0) [] := own_new w #[] t [] 0 rfl (by simp) rfl

theorem own_cel {w : World} {b : Nat} {L : List Int} (h : Cel w b L) : Own w b (.slice (some ⟨b, 0, none⟩) 6 6) L := by
  have h2 := h.2
  refine ⟨6, (ints L).toArray, _, by rw [h2], h.1, by omega, by omega, by simp [ints_len], ?_⟩
  show (ints L).take L.length = ints L
  rw [← ints_len L]; exact List.take_length

set_option maxHeartbeats 1000000 in
theorem istep_any (u : Value) (L : List Int) (k key v : Int) (w : World) (h : Ints w u L) :
    Calls Try.prog 16 #[u, .agg #[.int .i64 k, .int .i64 key, .int .i64 v]] w (StepPost (stepR L k key v) w) := by
  have h := Lib.hid h
  go_enter Try.func16, Try.ntmps16
  go_wp2_with fail
  refine (cof_any u L _ (h.out.up ((Below.refl _ _).alloc (Nat.le_refl _) _) (Nat.le_refl _))).mono ?_
  rintro e w1 ⟨hb1, hres⟩
  have A1 := (hb1.block w.heap.size (by simp)).trans (heap_alloc_new w _)
  obtain ⟨a1, a2, a3, _, _, _⟩ := blk3 A1
  have z1 : w.heap.size + 1 ≤ w1.heap.size := by simpa using hb1.size
  have D1 := Lib.hid (((Below.refl _ _).alloc (Nat.le_refl _) _).trans (hb1.mono (by simp)))
  clear hb1 A1
  rcases hres with ⟨hs, b, hb, rfl, hC⟩ | ⟨hs, rfl⟩
  · have hb : w.heap.size + 1 ≤ b := by simpa using hb
    have hC := Lib.hid hC
    have hs := Lib.hid hs
    go_wp2_with fail
    refine (act_any k key v _).mono ?_
    rintro e w2 ⟨rfl, hb2⟩
    have hC2 := Lib.hid (hC.out.same (hb2.block b hC.out.lt))
    have D2 := Lib.hid (D1.out.trans (hb2.mono (by omega)))
    have z2 := hb2.size
    clear hb2 hC D1 a1 a2 a3
    cases hv : cvB k key v
    · have hr := Lib.hid (stepR_no2 (L := L) hv)
      clear hv
      go_wp2_with fail
      go_ret3
      rw [hr.out]
      exact ⟨w2.heap.size, _, by omega, rfl, own_nil _ _, D2.out.alloc (by omega) _⟩
    · have hr := Lib.hid (stepR_yes (L := L) hs.out hv)
      have hv := Lib.hid hv
      go_wp2_with fail
      refine (run_any b L k key v _ hC2.out hs.out hv.out).mono ?_
      rintro e w3 ⟨rfl, hC3, hk3⟩
      have D3 := Lib.hid (D2.out.trans ((hk3.mono (by omega)).below (by omega)))
      have z3 := hk3.size
      have hC3 := Lib.hid hC3
      clear hk3 hC2 D2
      go_wp2_with fail
      go_ret3
      rw [hr.out]
      exact ⟨b, _, by omega, rfl, own_cel hC3.out, D3.out⟩
  · have hr := Lib.hid (stepR_no1 (k := k) (key := key) (v := v) hs)
    clear hs
    go_wp2_with fail
    refine (act_any k key v _).mono ?_
    rintro e w2 ⟨rfl, hb2⟩
    have D2 := Lib.hid (D1.out.trans (hb2.mono (by omega)))
    have z2 := hb2.size
    clear hb2 D1 a1 a2 a3
    go_wp2_with fail
    go_ret3
    rw [hr.out]
    exact ⟨w2.heap.size, _, by omega, rfl, own_nil _ _, D2.out.alloc (by omega) _⟩
end Go.Proofs.Ytmekkjnegmeogaa
