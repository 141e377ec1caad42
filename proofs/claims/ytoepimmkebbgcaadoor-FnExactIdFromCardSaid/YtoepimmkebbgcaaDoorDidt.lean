/- Draws of ids and texts for the laws on texts. -/
import Derived.Test.YtoepimmkebbgcaaDoorBothf
import Derived.Test.YtoepimmkebbgcaaDoorDid
import Derived.Deep.RegionWith
namespace Go.Proofs.YtoepimmkebbgcaaDoor
open Go.RowKit
set_option linter.unusedVariables false
set_option maxRecDepth 100000

theorem Rd.drew' {w : World} {r n : Nat} (h : Rd w r n) : Rd w.drew r n := h.kept ⟨rfl, rfl, rfl, Nat.le_refl _, fun _ _ => rfl⟩
theorem dit_step {w W w4 : World} {r C : Nat} {k v : Int} (A : W.heap[w.heap.size]? = some (.cells #[.int .i64 0, .int .i64 0] 24 (0, 0))) (hC : W.heap[C]? = some (.cells #[.int .i64 k, .int .i64 v] 24 (0, 0))) (hr0 : w.heap.size + 1 ≤ r) (hrC : r < C) (D : Below w.heap.size w W) (hk : Keep W.drew.heap.size r W.drew w4) :
    (w4.cell? ⟨w.heap.size, 0, none⟩ = some (.int .i64 0) ∧ w4.cell? ⟨w.heap.size, 1, none⟩ = some (.int .i64 0) ∧ w4.frozen? ⟨w.heap.size, 0, none⟩ = false ∧ w4.frozen? ⟨w.heap.size, 1, none⟩ = false) ∧ (w4.cell? ⟨C, 0, none⟩ = some (.int .i64 k) ∧ w4.cell? ⟨C, 1, none⟩ = some (.int .i64 v) ∧ w4.frozen? ⟨C, 0, none⟩ = false ∧ w4.frozen? ⟨C, 1, none⟩ = false) ∧ W.heap.size ≤ w4.heap.size ∧ Hid (Below w.heap.size w w4) := by
  have s4 : W.heap.size ≤ w4.heap.size := hk.size
  have e0 : W.drew.heap.size = W.heap.size := rfl
  have hA := lt_of_heap A
  have hCl := lt_of_heap hC
  exact ⟨blk2 ((hk.block _ (by omega) (by omega)).trans A), blk2 ((hk.block _ (by omega) (by omega)).trans hC), s4, Lib.hid (D.drew.trans ((hk.mono (by omega)).below (by omega)))⟩

/-- Some id. -/
def OneIdPost (w : World) (e : Ending) (w' : World) : Prop :=
  ∃ k v : Int, e = .returned (.agg #[.int .i64 k, .int .i64 v]) ∧ Below w.heap.size w w'

set_option maxHeartbeats 2000000 in
theorem dit_any (a : Option Addr) (len cap : Nat) (w : World) (hc : CodeIn w a len cap) (hcap : cap ≤ maxLen) :
    Calls Tryd.prog 8 #[.slice a len cap] w (OneIdPost w) := by
  have hc := Lib.hid hc
  have hcap := Lib.hid hcap
  go_enter Tryd.func8, Tryd.ntmps8
  go_wp2_with fail
  refine (open_any a len cap _ (hc.out.up ((Below.refl _ _).alloc (Nat.le_refl _) _)) hcap.out).mono ?_
  rintro e w1 ⟨r, rfl, hr0', hr', hb'⟩
  have hr0 : w.heap.size + 1 ≤ r := by simpa using hr0'
  have A1 := (hb'.block w.heap.size (by simp)).trans (heap_alloc_new w _)
  have s1 : w.heap.size + 1 ≤ w1.heap.size := by simpa using hb'.size
  have D1 : Hid (Below w.heap.size w w1) := Lib.hid (((Below.refl _ _).alloc (Nat.le_refl _) _).trans (hb'.mono (by simp)))
  have hr1 := Lib.hid hr'
  clear hr0' hr' hb' hc hcap
  have A1 := Lib.hid A1
  have hrl := hr1.out.lt
  go_wp2_with fail
  refine (idd_any r 0 _ hr1.out (by omega)).mono ?_
  rintro e w2 ⟨k, v, rfl, _, hv, hr2, hk2⟩
  have s2 := hk2.size
  have A2 := Lib.hid ((hk2.block w.heap.size (by omega) (by omega)).trans A1.out)
  have D2 : Hid (Below w.heap.size w w2) := Lib.hid (D1.out.trans ((hk2.mono (by omega)).below (by omega)))
  have hr2 := Lib.hid hr2
  clear hk2 A1 D1 hr1
  go_wp2_with fail
  refine (pick_any 3 r 4 _ (hr2.out.alloc _) (by omega)).mono ?_
  rintro e w3 ⟨x, rfl, _, _, hr3, hk3⟩
  have s3 : w2.heap.size + 1 ≤ w3.heap.size := by simpa using hk3.size
  have hrC : r < w2.heap.size := by omega
  have A3 := (hk3.block w.heap.size (by simp; omega) (by omega)).trans ((Below.heap_alloc w2 _ _ (by omega)).trans A2.out)
  have C3 := (hk3.block w2.heap.size (by simp) (by omega)).trans (heap_alloc_new w2 _)
  have D3 : Hid (Below w.heap.size w w3) := Lib.hid ((D2.out.alloc (by omega) _).trans ((hk3.mono (by simp; omega)).below (by omega)))
  have hr3 := Lib.hid hr3
  clear hk3 A2 D2 hr2
  have hAC : w.heap.size < w2.heap.size := by omega
  obtain ⟨a0, a1, f0, f1⟩ := blk2 A3
  obtain ⟨c0, c1, g0, g1⟩ := blk2 C3
  have A3 := Lib.hid A3
  have C3 := Lib.hid C3
  by_cases z : x = 0
  · subst z
    go_upto_region 4 with fail
    go_region_with (go_at_call 19; (with_reducible refine (pick_any 47 r 5 _ hr3.out.drew' (by omega)).mono ?_); rintro e w4 ⟨y, rfl, y0, y1', _, hk4⟩; have y1 := y1' (by omega); obtain ⟨⟨a0, a1, f0, f1⟩, ⟨c0, c1, g0, g1⟩, s4, D4⟩ := dit_step A3.out C3.out hr0 hrC D3.out hk4; clear hk4 y1' A3 C3 D3 hr3)
    all_goals
      go_wp2_with fail
      exact bodyPost_ret (v := .agg #[.int .i64 k, .int .i64 (v + y)]) (by simp [results, Tryd.results8, go_sem, a0, a1]) rfl ⟨_, _, rfl, by have X := D4.out; clear D4; repeat (first | with_reducible exact X | with_reducible refine Below.setCell ?_ (by first | (simp; done) | (simp; omega)) _)⟩
  · have z' : (x == 0) = false := by simpa using z
    clear z
    go_wp2_with fail
    exact bodyPost_ret (v := .agg #[.int .i64 k, .int .i64 v]) (by simp [results, Tryd.results8, go_sem, a0, a1]) rfl ⟨_, _, rfl, by have X := D3.out; clear D3; repeat (first | with_reducible exact X | with_reducible refine Below.setCell ?_ (by first | (simp; done) | (simp; omega)) _)⟩
end Go.Proofs.YtoepimmkebbgcaaDoor
