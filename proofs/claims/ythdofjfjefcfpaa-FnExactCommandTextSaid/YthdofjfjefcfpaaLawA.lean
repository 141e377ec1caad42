/- CommandValid of the program; the laws' copies of commands; the walks of the exact laws of CommandValid and CommandsClash. -/
import Derived.Test.YthdofjfjefcfpaaClasy
import Derived.Deep.RegionHeld3
import Derived.Deep.RegionWith
import Derived.Deep.DeepCutAuto
namespace Go.Proofs.Ythdofjfjefcfpaa
open Go.RowKit
set_option linter.unusedVariables false

theorem ivalid_any (k key v : Int) (w : World) :
    Calls Try.prog 13 #[.agg #[.int .i64 k, .int .i64 key, .int .i64 v]] w fun e w' => e = .returned (.bool (cvB k key v)) ∧ Below w.heap.size w w' := by
  have s1 := act_any k key v
  generalize actV k key v = x1 at s1
  generalize cvB k key v = q1 at s1
  go_enter Try.func13, Try.ntmps13
  go_wp2_with fail
  refine (s1 _).mono ?_
  rintro e w1 ⟨rfl, hb1⟩
  have D1 := Lib.hid (((Below.refl _ _).alloc (Nat.le_refl _) _).trans (hb1.mono (by simp)))
  clear hb1
  go_wp2_with fail
  go_ret
  exact ⟨rfl, D1.out⟩

theorem toCmd_any (k key v : Int) (w : World) :
    Calls Try.prog 16 #[.agg #[.int .i64 k, .int .i64 key, .int .i64 v]] w fun e w' => e = .returned (.agg #[.int .i64 k, .int .i64 key, .int .i64 v]) ∧ Below w.heap.size w w' := by
  go_enter Try.func16, Try.ntmps16
  go_wp2_with fail
  exact bodyPost_ret (v := .agg #[.int .i64 k, .int .i64 key, .int .i64 v]) (by simp [results, Try.results16, go_sem]) rfl ⟨rfl, by repeat (first | with_reducible exact Below.refl _ _ | with_reducible refine Below.setCell ?_ (by first | (simp; done) | (simp; omega)) _ | with_reducible refine Below.alloc ?_ (by first | (simp; done) | (simp; omega)) _)⟩

set_option maxHeartbeats 1000000 in
theorem exValid_any (k key v : Int) (w : World) :
    Calls Try.prog 7 #[.agg #[.int .i64 k, .int .i64 key, .int .i64 v]] w fun e w' => e = .returned (.bool true) ∧ Below w.heap.size w w' := by
  go_enter Try.func7, Try.ntmps7
  go_wp2_with fail
  refine (toCmd_any k key v _).mono ?_
  rintro e w1 ⟨rfl, hb1⟩
  have A1 := (hb1.block w.heap.size (by simp)).trans (heap_alloc_new w _)
  have D1 := Lib.hid (((Below.refl _ _).alloc (Nat.le_refl _) _).trans (hb1.mono (by simp)))
  have z1 : w.heap.size + 1 ≤ w1.heap.size := by simpa using hb1.size
  have A1 := Lib.hid A1; clear hb1
  go_wp2_with fail
  refine (svalid_any k key v _).mono ?_
  rintro e w2 ⟨rfl, hb2⟩
  have A2 := (hb2.block w.heap.size (by omega)).trans A1.out
  obtain ⟨a1, a2, a3, _, _, _⟩ := blk3 A2
  have D2 := Lib.hid (D1.out.trans (hb2.mono (by omega)))
  have z2 := hb2.size
  clear hb2 A2 A1 D1
  go_wp2_with fail
  refine (toCmd_any k key v _).mono ?_
  rintro e w3 ⟨rfl, hb3⟩
  have D3 := Lib.hid (D2.out.trans (hb3.mono (by omega)))
  have z3 := hb3.size
  clear hb3 D2 a1 a2 a3
  go_wp2_with fail
  refine (ivalid_any k key v _).mono ?_
  rintro e w4 ⟨rfl, hb4⟩
  have D4 := Lib.hid (D3.out.trans (hb4.mono (by omega)))
  clear hb4 D3
  go_wp2_with fail
  go_ret
  exact ⟨rfl, D4.out⟩

/-- What the region's calls keep. -/
theorem keep2 {w wc w' : World} {k key v k' key' v' : Int} (hb : Below wc.heap.size wc w') (h : (wc.cell? ⟨w.heap.size, 0, none⟩ = some (.int .i64 k) ∧ wc.cell? ⟨w.heap.size, 1, none⟩ = some (.int .i64 key) ∧ wc.cell? ⟨w.heap.size, 2, none⟩ = some (.int .i64 v) ∧ wc.cell? ⟨w.heap.size + 1, 0, none⟩ = some (.int .i64 k') ∧ wc.cell? ⟨w.heap.size + 1, 1, none⟩ = some (.int .i64 key') ∧ wc.cell? ⟨w.heap.size + 1, 2, none⟩ = some (.int .i64 v')) ∧ w.heap.size + 2 ≤ wc.heap.size ∧ Below w.heap.size w wc) :
    (w'.cell? ⟨w.heap.size, 0, none⟩ = some (.int .i64 k) ∧ w'.cell? ⟨w.heap.size, 1, none⟩ = some (.int .i64 key) ∧ w'.cell? ⟨w.heap.size, 2, none⟩ = some (.int .i64 v) ∧ w'.cell? ⟨w.heap.size + 1, 0, none⟩ = some (.int .i64 k') ∧ w'.cell? ⟨w.heap.size + 1, 1, none⟩ = some (.int .i64 key') ∧ w'.cell? ⟨w.heap.size + 1, 2, none⟩ = some (.int .i64 v')) ∧ w.heap.size + 2 ≤ w'.heap.size ∧ Below w.heap.size w w' := by
  obtain ⟨⟨h1, h2, h3, h4, h5, h6⟩, h7, h8⟩ := h
  refine ⟨⟨?_, ?_, ?_, ?_, ?_, ?_⟩, Nat.le_trans h7 hb.size, h8.trans (hb.mono (by omega))⟩
  all_goals first | rwa [hb.cell (p := ⟨_, _, _⟩) (by simp; omega)]

theorem start2 {w w' : World} {k key v k' key' v' : Int} {t u : TypeId} (h : w' = (((w.alloc (.cells #[.int .i64 k, .int .i64 key, .int .i64 v] t)).alloc (.cells #[.int .i64 k', .int .i64 key', .int .i64 v'] u)).drew)) : (w'.cell? ⟨w.heap.size, 0, none⟩ = some (.int .i64 k) ∧ w'.cell? ⟨w.heap.size, 1, none⟩ = some (.int .i64 key) ∧ w'.cell? ⟨w.heap.size, 2, none⟩ = some (.int .i64 v) ∧ w'.cell? ⟨w.heap.size + 1, 0, none⟩ = some (.int .i64 k') ∧ w'.cell? ⟨w.heap.size + 1, 1, none⟩ = some (.int .i64 key') ∧ w'.cell? ⟨w.heap.size + 1, 2, none⟩ = some (.int .i64 v')) ∧ w.heap.size + 2 ≤ w'.heap.size ∧ Below w.heap.size w w' := by
  subst h
  refine ⟨⟨?_, ?_, ?_, ?_, ?_, ?_⟩, ?_, (((Below.refl _ _).alloc (Nat.le_refl _) _).alloc (by simp) _).drew⟩ <;> go_simp

theorem drew2 {w w' : World} {k key v k' key' v' : Int} (h : (w'.cell? ⟨w.heap.size, 0, none⟩ = some (.int .i64 k) ∧ w'.cell? ⟨w.heap.size, 1, none⟩ = some (.int .i64 key) ∧ w'.cell? ⟨w.heap.size, 2, none⟩ = some (.int .i64 v) ∧ w'.cell? ⟨w.heap.size + 1, 0, none⟩ = some (.int .i64 k') ∧ w'.cell? ⟨w.heap.size + 1, 1, none⟩ = some (.int .i64 key') ∧ w'.cell? ⟨w.heap.size + 1, 2, none⟩ = some (.int .i64 v')) ∧ w.heap.size + 2 ≤ w'.heap.size ∧ Below w.heap.size w w') : (w'.drew.cell? ⟨w.heap.size, 0, none⟩ = some (.int .i64 k) ∧ w'.drew.cell? ⟨w.heap.size, 1, none⟩ = some (.int .i64 key) ∧ w'.drew.cell? ⟨w.heap.size, 2, none⟩ = some (.int .i64 v) ∧ w'.drew.cell? ⟨w.heap.size + 1, 0, none⟩ = some (.int .i64 k') ∧ w'.drew.cell? ⟨w.heap.size + 1, 1, none⟩ = some (.int .i64 key') ∧ w'.drew.cell? ⟨w.heap.size + 1, 2, none⟩ = some (.int .i64 v')) ∧ w.heap.size + 2 ≤ w'.drew.heap.size ∧ Below w.heap.size w w'.drew :=
  ⟨h.1, h.2.1, h.2.2.drew⟩

set_option maxHeartbeats 1000000 in
theorem exClash_any (k key v k' key' v' : Int) (w : World) :
    Calls Try.prog 8 #[.agg #[.int .i64 k, .int .i64 key, .int .i64 v], .agg #[.int .i64 k', .int .i64 key', .int .i64 v']] w fun e w' => e = .returned (.bool true) ∧ Below w.heap.size w w' := by
  go_enter Try.func8, Try.ntmps8
  go_upto_region 1 with fail
  go_region_held3 (fun w' => (w'.cell? ⟨w.heap.size, 0, none⟩ = some (.int .i64 k) ∧ w'.cell? ⟨w.heap.size, 1, none⟩ = some (.int .i64 key) ∧ w'.cell? ⟨w.heap.size, 2, none⟩ = some (.int .i64 v) ∧ w'.cell? ⟨w.heap.size + 1, 0, none⟩ = some (.int .i64 k') ∧ w'.cell? ⟨w.heap.size + 1, 1, none⟩ = some (.int .i64 key') ∧ w'.cell? ⟨w.heap.size + 1, 2, none⟩ = some (.int .i64 v')) ∧ w.heap.size + 2 ≤ w'.heap.size ∧ Below w.heap.size w w') (first | exact start2 rfl | exact keep2 (by assumption) (by assumption))
    (first | (go_at_call 16; refine (toCmd_any _ _ _ _).mono ?_; rintro e w' ⟨rfl, hb⟩) | (go_at_call 12; refine (sclash_any _ _ _ _ _ _ _).mono ?_; rintro e w' ⟨rfl, hb⟩))
  go_upto_region 2 with fail
  go_region_held3 (fun w' => (w'.cell? ⟨w.heap.size, 0, none⟩ = some (.int .i64 k) ∧ w'.cell? ⟨w.heap.size, 1, none⟩ = some (.int .i64 key) ∧ w'.cell? ⟨w.heap.size, 2, none⟩ = some (.int .i64 v) ∧ w'.cell? ⟨w.heap.size + 1, 0, none⟩ = some (.int .i64 k') ∧ w'.cell? ⟨w.heap.size + 1, 1, none⟩ = some (.int .i64 key') ∧ w'.cell? ⟨w.heap.size + 1, 2, none⟩ = some (.int .i64 v')) ∧ w.heap.size + 2 ≤ w'.heap.size ∧ Below w.heap.size w w') (first | exact drew2 (by assumption) | exact keep2 (by assumption) (by assumption))
    (first | (go_at_call 16; refine (toCmd_any _ _ _ _).mono ?_; rintro e w' ⟨rfl, hb⟩) | (go_at_call 11; refine (iclash_any _ _ _ _ _ _ _).mono ?_; rintro e w' ⟨rfl, hb⟩))
  go_wp2_with fail
  go_ret
  exact ⟨rfl, (by assumption : _ ∧ _ ∧ Below w.heap.size w _).2.2⟩
end Go.Proofs.Ythdofjfjefcfpaa
