/- IdFrom of the model. -/
import Derived.Test.YtoepimmkebbgcaaDoorIfr
import Derived.Test.YtoepimmkebbgcaaDoorLnum
import Derived.Deep.RegionHeld3
import Derived.Deep.RegionWith
namespace Go.Proofs.YtoepimmkebbgcaaDoor
open Go.RowKit
set_option linter.unusedVariables false
set_option maxRecDepth 100000

theorem txI_sub : ∀ p, p < 5 → ∀ q, q < 51 → numS ((txI p q).extract 0 1) = p ∧ numS ((txI p q).extract 2 (txI p q).size) = q := by decide +kernel

set_option maxHeartbeats 1000000 in
theorem sfr_short (s : ByteArray) (hs : s.size < 3) (w : World) :
    Calls Tryd.prog 13 #[.string s] w fun e w' => e = .returned (.tuple #[.agg #[.int .i64 0, .int .i64 0], .bool false]) ∧ Below w.heap.size w w' := by
  go_enter Tryd.func13, Tryd.ntmps13
  go_wp2_with fail
  exact bodyPost_ret (v := .tuple #[.agg #[.int .i64 0, .int .i64 0], .bool false]) (by simp [results, Tryd.results13, go_sem]) rfl ⟨rfl, by repeat (first | with_reducible exact Below.refl _ _ | with_reducible refine Below.setCell ?_ (by first | (simp; done) | (simp; omega)) _ | with_reducible refine Below.alloc ?_ (by first | (simp; done) | (simp; omega)) _)⟩

set_option maxHeartbeats 2000000 in
theorem sfr_long (s : ByteArray) (hs : 3 ≤ s.size) (hb : s.size ≤ 2000000) (w : World) :
    Calls Tryd.prog 13 #[.string s] w fun e w' => e = (if idTx (numS (s.extract 0 1)) (numS (s.extract 2 s.size)) = s then .returned (.tuple #[.agg #[.int .i64 (numS (s.extract 0 1)), .int .i64 (numS (s.extract 2 s.size))], .bool true]) else .returned (.tuple #[.agg #[.int .i64 0, .int .i64 0], .bool false])) ∧ Below w.heap.size w w' := by
  have c1 := lnum_any (s.extract 0 1) (by simp [ByteArray.size_extract]; omega)
  have c2 := lnum_any (s.extract 2 s.size) (by simp [ByteArray.size_extract]; omega)
  obtain ⟨a, ha⟩ : ∃ a, numS (s.extract 0 1) = a := ⟨_, rfl⟩
  obtain ⟨b, hb2⟩ : ∃ b, numS (s.extract 2 s.size) = b := ⟨_, rfl⟩
  rw [ha] at c1 ⊢
  rw [hb2] at c2 ⊢
  clear ha hb2
  have c3 := sidt_any a b
  generalize idTx a b = t at c3 ⊢
  by_cases hts : t = s
  · rw [if_pos hts]
    subst hts
    have h1 : (1 : Int) ≤ (t.size : Int) := by omega
    have h2 : (2 : Int) ≤ (t.size : Int) := by omega
    go_enter Tryd.func13, Tryd.ntmps13
    go_upto_region 3 with fail
    go_region_with (first | (go_at_call 27; (with_reducible refine (c1 _).mono ?_); rintro e w' ⟨rfl, rfl⟩) | (go_at_call 27; (with_reducible refine (c2 _).mono ?_); rintro e w' ⟨rfl, rfl⟩))
    all_goals
      go_wp2_with fail
      refine (c3 _).mono ?_
      rintro e w1 ⟨rfl, hb'⟩
      have A1 := (hb'.block w.heap.size (by simp; omega)).trans ((Below.heap_alloc _ _ _ (by simp)).trans (heap_alloc_new w _))
      have T1 := (hb'.block (w.heap.size + 1) (by simp)).trans (heap_alloc_at _ _ _ (by simp))
      have D1 := Lib.hid ((((Below.refl w.heap.size w).alloc (Nat.le_refl _) (.cells #[.int .i64 0, .int .i64 0] 24)).alloc (by simp) (.cells #[.int .i64 a, .int .i64 b] 24)).drew.trans (hb'.mono (by simp; omega)))
      have z1 : w.heap.size + 2 ≤ w1.heap.size := by simpa using hb'.size
      obtain ⟨a0, a1, f0, f1⟩ := blk2 A1
      obtain ⟨t0, t1, _, _⟩ := blk2 T1
      clear hb' A1 T1
      go_wp2_with fail
      exact bodyPost_ret (v := .tuple #[.agg #[.int .i64 a, .int .i64 b], .bool true]) (by simp [results, Tryd.results13, go_sem, a0, a1]) rfl ⟨rfl, by have X := D1.out; clear D1; repeat (first | with_reducible exact X | with_reducible refine Below.setCell ?_ (by first | (simp; done) | (simp; omega)) _)⟩
  · rw [if_neg hts]
    have n1 := bytes_ne hts
    have n2 := bytes_ne' hts
    have h1 : (1 : Int) ≤ (s.size : Int) := by omega
    have h2 : (2 : Int) ≤ (s.size : Int) := by omega
    go_enter Tryd.func13, Tryd.ntmps13
    go_upto_region 3 with fail
    go_region_with (first | (go_at_call 27; (with_reducible refine (c1 _).mono ?_); rintro e w' ⟨rfl, rfl⟩) | (go_at_call 27; (with_reducible refine (c2 _).mono ?_); rintro e w' ⟨rfl, rfl⟩))
    all_goals
      go_wp2_with fail
      refine (c3 _).mono ?_
      rintro e w1 ⟨rfl, hb'⟩
      have A1 := (hb'.block w.heap.size (by simp; omega)).trans ((Below.heap_alloc _ _ _ (by simp)).trans (heap_alloc_new w _))
      have T1 := (hb'.block (w.heap.size + 1) (by simp)).trans (heap_alloc_at _ _ _ (by simp))
      have D1 := Lib.hid ((((Below.refl w.heap.size w).alloc (Nat.le_refl _) (.cells #[.int .i64 0, .int .i64 0] 24)).alloc (by simp) (.cells #[.int .i64 a, .int .i64 b] 24)).drew.trans (hb'.mono (by simp; omega)))
      have z1 : w.heap.size + 2 ≤ w1.heap.size := by simpa using hb'.size
      obtain ⟨a0, a1, f0, f1⟩ := blk2 A1
      obtain ⟨t0, t1, _, _⟩ := blk2 T1
      clear hb' A1 T1
      go_wp2_with fail
      exact bodyPost_ret (v := .tuple #[.agg #[.int .i64 0, .int .i64 0], .bool false]) (by simp [results, Tryd.results13, go_sem, a0, a1]) rfl ⟨rfl, by have X := D1.out; clear D1; repeat (first | with_reducible exact X | with_reducible refine Below.setCell ?_ (by first | (simp; done) | (simp; omega)) _)⟩
end Go.Proofs.YtoepimmkebbgcaaDoor
