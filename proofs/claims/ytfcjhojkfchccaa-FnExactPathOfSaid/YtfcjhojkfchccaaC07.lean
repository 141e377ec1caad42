/- Texts laid together. -/
import Derived.Test.YtfcjhojkfchccaaC01
import Derived.Deep.RegionWith
/- Nine cells stored, one after the other. -/
namespace Go.Proofs.Ytfcjhojkfchccaa
open Go.RowKit
set_option linter.unusedVariables false

theorem put9_at {w : World} {b : Nat} {t : TypeId} {y0 y1 y2 y3 y4 y5 y6 y7 y8 : Value} (x0 x1 x2 x3 x4 x5 x6 x7 x8 : Value) (h : w.heap[b]? = some (.cells #[y0, y1, y2, y3, y4, y5, y6, y7, y8] t (0, 0))) :
    (((((((((w.setCell ⟨b, 0, none⟩ x0).setCell ⟨b, 1, none⟩ x1).setCell ⟨b, 2, none⟩ x2).setCell ⟨b, 3, none⟩ x3).setCell ⟨b, 4, none⟩ x4).setCell ⟨b, 5, none⟩ x5).setCell ⟨b, 6, none⟩ x6).setCell ⟨b, 7, none⟩ x7).setCell ⟨b, 8, none⟩ x8).heap[b]? = some (.cells #[x0, x1, x2, x3, x4, x5, x6, x7, x8] t (0, 0)) := by
  have e := heap_setCell_same _ b 8 _ _ x8 (heap_setCell_same _ b 7 _ _ x7 (heap_setCell_same _ b 6 _ _ x6 (heap_setCell_same _ b 5 _ _ x5 (heap_setCell_same _ b 4 _ _ x4 (heap_setCell_same _ b 3 _ _ x3 (heap_setCell_same _ b 2 _ _ x2 (heap_setCell_same _ b 1 _ _ x1 (heap_setCell_same _ b 0 _ _ x0 (h)))))))))
  simp only [List.setIfInBounds_toArray, List.set_cons_zero, List.set_cons_succ] at e
  exact e
theorem put9_other {w : World} {b c : Nat} (x0 x1 x2 x3 x4 x5 x6 x7 x8 : Value) (h : c ≠ b) :
    (((((((((w.setCell ⟨b, 0, none⟩ x0).setCell ⟨b, 1, none⟩ x1).setCell ⟨b, 2, none⟩ x2).setCell ⟨b, 3, none⟩ x3).setCell ⟨b, 4, none⟩ x4).setCell ⟨b, 5, none⟩ x5).setCell ⟨b, 6, none⟩ x6).setCell ⟨b, 7, none⟩ x7).setCell ⟨b, 8, none⟩ x8).heap[c]? = w.heap[c]? := by
  rw [heap_setCell_other _ _ _ _ h, heap_setCell_other _ _ _ _ h, heap_setCell_other _ _ _ _ h, heap_setCell_other _ _ _ _ h, heap_setCell_other _ _ _ _ h, heap_setCell_other _ _ _ _ h, heap_setCell_other _ _ _ _ h, heap_setCell_other _ _ _ _ h, heap_setCell_other _ _ _ _ h]
theorem put9_below {w : World} {b B : Nat} (x0 x1 x2 x3 x4 x5 x6 x7 x8 : Value) (h : B ≤ b) :
    Below B w (((((((((w.setCell ⟨b, 0, none⟩ x0).setCell ⟨b, 1, none⟩ x1).setCell ⟨b, 2, none⟩ x2).setCell ⟨b, 3, none⟩ x3).setCell ⟨b, 4, none⟩ x4).setCell ⟨b, 5, none⟩ x5).setCell ⟨b, 6, none⟩ x6).setCell ⟨b, 7, none⟩ x7).setCell ⟨b, 8, none⟩ x8) :=
  (((((((((Below.refl B w).setCell (p := ⟨b, 0, none⟩) h x0).setCell (p := ⟨b, 1, none⟩) h x1).setCell (p := ⟨b, 2, none⟩) h x2).setCell (p := ⟨b, 3, none⟩) h x3).setCell (p := ⟨b, 4, none⟩) h x4).setCell (p := ⟨b, 5, none⟩) h x5).setCell (p := ⟨b, 6, none⟩) h x6).setCell (p := ⟨b, 7, none⟩) h x7).setCell (p := ⟨b, 8, none⟩) h x8
theorem nine_all {w : World} {b : Nat} {x0 x1 x2 x3 x4 x5 x6 x7 x8 : Value} {t : TypeId} (h : w.heap[b]? = some (.cells #[x0, x1, x2, x3, x4, x5, x6, x7, x8] t (0, 0))) :
    (w.cell? ⟨b, 0, none⟩ = some x0 ∧ w.cell? ⟨b, 1, none⟩ = some x1 ∧ w.cell? ⟨b, 2, none⟩ = some x2 ∧ w.cell? ⟨b, 3, none⟩ = some x3 ∧ w.cell? ⟨b, 4, none⟩ = some x4 ∧ w.cell? ⟨b, 5, none⟩ = some x5 ∧ w.cell? ⟨b, 6, none⟩ = some x6 ∧ w.cell? ⟨b, 7, none⟩ = some x7 ∧ w.cell? ⟨b, 8, none⟩ = some x8) ∧ (w.frozen? ⟨b, 0, none⟩ = false ∧ w.frozen? ⟨b, 1, none⟩ = false ∧ w.frozen? ⟨b, 2, none⟩ = false ∧ w.frozen? ⟨b, 3, none⟩ = false ∧ w.frozen? ⟨b, 4, none⟩ = false ∧ w.frozen? ⟨b, 5, none⟩ = false ∧ w.frozen? ⟨b, 6, none⟩ = false ∧ w.frozen? ⟨b, 7, none⟩ = false ∧ w.frozen? ⟨b, 8, none⟩ = false) ∧ b < w.heap.size :=
  ⟨nine_cells h, ⟨nine_free h 0, nine_free h 1, nine_free h 2, nine_free h 3, nine_free h 4, nine_free h 5, nine_free h 6, nine_free h 7, nine_free h 8⟩, lt_of_heap h⟩
end Go.Proofs.Ytfcjhojkfchccaa

/- slices.Index and slices.Contains at ids. -/
namespace Go.Proofs.Ytfcjhojkfchccaa
open Go.RowKit
set_option linter.unusedVariables false

set_option maxRecDepth 100000 in
set_option maxHeartbeats 2000000 in
theorem idx_at (b off ca : Nat) (L : List Pid) (x y : Int) (w : World) (hb : b < w.heap.size) (hm : L.length ≤ 2000000) (h : ∀ i, i < L.length → w.cell? ⟨b, off + i * 2, none⟩ = some (.int .i64 (L.getD i nop).1) ∧ w.cell? ⟨b, off + i * 2 + 1, none⟩ = some (.int .i64 (L.getD i nop).2)) :
    Calls Try.prog 65 #[.slice (some ⟨b, off, none⟩) L.length ca, .agg #[.int .i64 x, .int .i64 y]] w fun e w' => (∃ z : Int, e = .returned (.int .i64 z) ∧ decide (0 ≤ z) = hasP L (x, y)) ∧ Below w.heap.size w w' := by
  have h := Lib.hid h
  obtain ⟨n, hn⟩ : ∃ n, Hid (L.length = n) := ⟨_, Lib.hid rfl⟩
  obtain ⟨q, hq⟩ : ∃ q, Hid (hasP L (x, y) = q) := ⟨_, Lib.hid rfl⟩
  rw [hn.out] at hm ⊢
  rw [hq.out]
  go_enter Try.func65, Try.ntmps65
  go_wp2_with fail
  go_loopw [8] (fun i wr => ∃ k : Nat, k ≤ n ∧ i = .int .i64 k ∧ Hid (∀ j, j < k → ¬ L.getD j nop = (x, y)) ∧ wr.cell? ⟨w.heap.size, 0, none⟩ = some (.int .i64 x) ∧ wr.cell? ⟨w.heap.size, 1, none⟩ = some (.int .i64 y) ∧ Below w.heap.size w wr) (fun i _ => n - (intOf i).toNat)
  case atStart => exact ⟨0, Nat.zero_le _, rfl, Lib.hid (fun j hj => absurd hj (Nat.not_lt_zero _)), by go_simp, by go_simp, (Below.refl _ _).alloc (Nat.le_refl _) _⟩
  case round =>
    obtain ⟨k, hk, rfl, hno, x0, x1, hnx⟩ := hrel
    by_cases hlt : k < n
    · obtain ⟨h0, h1⟩ := h.out k (by rw [hn.out]; exact hlt)
      have q0 := (hnx.cell (p := ⟨b, off + k * 2, none⟩) hb).trans h0
      have q1 := (hnx.cell (p := ⟨b, off + k * 2 + 1, none⟩) hb).trans h1
      clear h0 h1
      obtain ⟨c, hc⟩ : ∃ c, Hid (L.getD k nop = c) := ⟨_, Lib.hid rfl⟩
      rw [hc.out] at q0 q1
      obtain ⟨p, r⟩ := c
      dsimp only at q0 q1
      have hnx := Lib.hid hnx
      clear h
      by_cases e1 : p = x
      · subst e1
        by_cases e2 : r = y
        · subst e2
          have hqt := hq.out
          rw [has_t (by rw [hn.out]; exact hlt) hc.out] at hqt
          subst hqt
          go_wp2_with fail
          go_quiet (fail)
          go_wp2_with fail
          go_ret
          exact ⟨⟨_, rfl, by simp⟩, bdrewN hnx.out _⟩
        · have R := Lib.hid (up_to hno.out (show ¬ L.getD k nop = (p, y) by rw [hc.out]; intro e; exact e2 (congrArg Prod.snd e)))
          go_wp2_with fail
          go_quiet (fail)
          go_wp2_with fail
          go_roundw
          case rel => exact ⟨k + 1, by omega, by go_num, R, by go_simp, by go_simp, bdrewN hnx.out _⟩
          case measure => simp [intOf]; omega
      · have R := Lib.hid (up_to hno.out (show ¬ L.getD k nop = (x, y) by rw [hc.out]; intro e; exact e1 (congrArg Prod.fst e)))
        go_wp2_with fail
        go_quiet (fail)
        go_wp2_with fail
        go_roundw
        case rel => exact ⟨k + 1, by omega, by go_num, R, by go_simp, by go_simp, bdrewN hnx.out _⟩
        case measure => simp [intOf]; omega
    · obtain rfl : k = n := by omega
      have hqf := hq.out
      rw [has_f (fun j hj => hno.out j (by rw [← hn.out]; exact hj))] at hqf
      subst hqf
      have hnx := Lib.hid hnx
      clear h
      go_wp2_with fail
      go_ret
      exact ⟨⟨_, rfl, by simp⟩, hnx.out⟩

theorem idx_nil (a : Option Addr) (ca : Nat) (x y : Int) (w : World) :
    Calls Try.prog 65 #[.slice a 0 ca, .agg #[.int .i64 x, .int .i64 y]] w fun e w' => (∃ z : Int, e = .returned (.int .i64 z) ∧ decide (0 ≤ z) = hasP [] (x, y)) ∧ Below w.heap.size w w' := by
  rw [show hasP [] (x, y) = false from rfl]
  go_enter Try.func65, Try.ntmps65
  go_wp2_with fail
  refine wp_loop_rounds 1 ?_
  rw [rounds_succ]
  go_wp2_with fail
  go_ret
  exact ⟨⟨_, rfl, by simp⟩, (Below.refl _ _).alloc (Nat.le_refl _) _⟩

theorem idx_any (u : Value) (L : List Pid) (x y : Int) (w : World) (h : Ids w u L) :
    Calls Try.prog 65 #[u, .agg #[.int .i64 x, .int .i64 y]] w fun e w' => (∃ z : Int, e = .returned (.int .i64 z) ∧ decide (0 ≤ z) = hasP L (x, y)) ∧ Below w.heap.size w w' := by
  obtain ⟨a, cap, rfl, h1, h2, h3⟩ := h
  rcases h3 with h3 | ⟨b, off, rfl, h4, h5⟩
  · obtain rfl : L = [] := List.length_eq_zero_iff.1 h3
    exact idx_nil a cap x y w
  · exact idx_at b off cap L x y w h4 h2 h5

theorem cont_any (u : Value) (L : List Pid) (x y : Int) (w : World) (h : Ids w u L) :
    Calls Try.prog 62 #[u, .agg #[.int .i64 x, .int .i64 y]] w fun e w' => e = .returned (.bool (hasP L (x, y))) ∧ Below w.heap.size w w' := by
  have h := Lib.hid h
  obtain ⟨q, hq⟩ : ∃ q, Hid (hasP L (x, y) = q) := ⟨_, Lib.hid rfl⟩
  rw [hq.out]
  go_enter Try.func62, Try.ntmps62
  go_wp2_with fail
  refine (idx_any u L x y _ (h.out.up ((Below.refl _ _).alloc (Nat.le_refl _) _) (Nat.le_refl _))).mono ?_
  rintro e w1 ⟨⟨z, rfl, hz⟩, hb⟩
  have D := Lib.hid (((Below.refl w.heap.size w).alloc (Nat.le_refl _) _).trans (hb.mono (by simp)))
  rw [hq.out] at hz
  clear hb hq h
  go_wp2_with fail
  go_ret
  exact ⟨rfl, D.out⟩
end Go.Proofs.Ytfcjhojkfchccaa
