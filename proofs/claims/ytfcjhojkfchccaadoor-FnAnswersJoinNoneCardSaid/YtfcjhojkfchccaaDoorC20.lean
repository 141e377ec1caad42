/- Texts laid together. -/
import Derived.Test.YtfcjhojkfchccaaDoorC13
import Derived.Test.YtfcjhojkfchccaaDoorC14
import Derived.Test.YtfcjhojkfchccaaDoorC18
import Derived.Test.YtfcjhojkfchccaaDoorC16
/- pollOf. -/
namespace Go.Proofs.YtfcjhojkfchccaaDoor
open Go.RowKit
set_option linter.unusedVariables false

theorem put13_at {w : World} {b : Nat} {t : TypeId} {y0 y1 y2 y3 y4 y5 y6 y7 y8 y9 y10 y11 y12 : Value} (x0 x1 x2 x3 x4 x5 x6 x7 x8 x9 x10 x11 x12 : Value) (h : w.heap[b]? = some (.cells #[y0, y1, y2, y3, y4, y5, y6, y7, y8, y9, y10, y11, y12] t (0, 0))) :
    (((((((((((((w.setCell ⟨b, 0, none⟩ x0).setCell ⟨b, 1, none⟩ x1).setCell ⟨b, 2, none⟩ x2).setCell ⟨b, 3, none⟩ x3).setCell ⟨b, 4, none⟩ x4).setCell ⟨b, 5, none⟩ x5).setCell ⟨b, 6, none⟩ x6).setCell ⟨b, 7, none⟩ x7).setCell ⟨b, 8, none⟩ x8).setCell ⟨b, 9, none⟩ x9).setCell ⟨b, 10, none⟩ x10).setCell ⟨b, 11, none⟩ x11).setCell ⟨b, 12, none⟩ x12).heap[b]? = some (.cells #[x0, x1, x2, x3, x4, x5, x6, x7, x8, x9, x10, x11, x12] t (0, 0)) := by
  have e := (heap_setCell_same _ b 12 _ _ x12 (heap_setCell_same _ b 11 _ _ x11 (heap_setCell_same _ b 10 _ _ x10 (heap_setCell_same _ b 9 _ _ x9 (heap_setCell_same _ b 8 _ _ x8 (heap_setCell_same _ b 7 _ _ x7 (heap_setCell_same _ b 6 _ _ x6 (heap_setCell_same _ b 5 _ _ x5 (heap_setCell_same _ b 4 _ _ x4 (heap_setCell_same _ b 3 _ _ x3 (heap_setCell_same _ b 2 _ _ x2 (heap_setCell_same _ b 1 _ _ x1 (heap_setCell_same _ b 0 _ _ x0 h)))))))))))))
  simp only [List.setIfInBounds_toArray, List.set_cons_zero, List.set_cons_succ] at e
  exact e
theorem put13_below {w : World} {b B : Nat} (x0 x1 x2 x3 x4 x5 x6 x7 x8 x9 x10 x11 x12 : Value) (h : B ≤ b) : Below B w (((((((((((((w.setCell ⟨b, 0, none⟩ x0).setCell ⟨b, 1, none⟩ x1).setCell ⟨b, 2, none⟩ x2).setCell ⟨b, 3, none⟩ x3).setCell ⟨b, 4, none⟩ x4).setCell ⟨b, 5, none⟩ x5).setCell ⟨b, 6, none⟩ x6).setCell ⟨b, 7, none⟩ x7).setCell ⟨b, 8, none⟩ x8).setCell ⟨b, 9, none⟩ x9).setCell ⟨b, 10, none⟩ x10).setCell ⟨b, 11, none⟩ x11).setCell ⟨b, 12, none⟩ x12) :=
  ((((((((((((((((((((((((((Below.refl B w).setCell (p := ⟨b, 0, none⟩) h x0)).setCell (p := ⟨b, 1, none⟩) h x1)).setCell (p := ⟨b, 2, none⟩) h x2)).setCell (p := ⟨b, 3, none⟩) h x3)).setCell (p := ⟨b, 4, none⟩) h x4)).setCell (p := ⟨b, 5, none⟩) h x5)).setCell (p := ⟨b, 6, none⟩) h x6)).setCell (p := ⟨b, 7, none⟩) h x7)).setCell (p := ⟨b, 8, none⟩) h x8)).setCell (p := ⟨b, 9, none⟩) h x9)).setCell (p := ⟨b, 10, none⟩) h x10)).setCell (p := ⟨b, 11, none⟩) h x11)).setCell (p := ⟨b, 12, none⟩) h x12)
theorem all13 {w : World} {b : Nat} {x0 x1 x2 x3 x4 x5 x6 x7 x8 x9 x10 x11 x12 : Value} {t : TypeId} (h : w.heap[b]? = some (.cells #[x0, x1, x2, x3, x4, x5, x6, x7, x8, x9, x10, x11, x12] t (0, 0))) :
    (w.cell? ⟨b, 0, none⟩ = some x0 ∧ w.cell? ⟨b, 1, none⟩ = some x1 ∧ w.cell? ⟨b, 2, none⟩ = some x2 ∧ w.cell? ⟨b, 3, none⟩ = some x3 ∧ w.cell? ⟨b, 4, none⟩ = some x4 ∧ w.cell? ⟨b, 5, none⟩ = some x5 ∧ w.cell? ⟨b, 6, none⟩ = some x6 ∧ w.cell? ⟨b, 7, none⟩ = some x7 ∧ w.cell? ⟨b, 8, none⟩ = some x8 ∧ w.cell? ⟨b, 9, none⟩ = some x9 ∧ w.cell? ⟨b, 10, none⟩ = some x10 ∧ w.cell? ⟨b, 11, none⟩ = some x11 ∧ w.cell? ⟨b, 12, none⟩ = some x12) ∧ (∀ m, w.frozen? ⟨b, m, none⟩ = false) ∧ b < w.heap.size := by
  refine ⟨?_, fun m => by simp [World.frozen?, h], lt_of_heap h⟩
  simp [World.cell?, h]
theorem pl_res (tm : Array Value) (w : World) (b : Nat) (x0 x1 x2 x3 x4 x5 x6 x7 x8 x9 x10 x11 x12 f : Value) (t : TypeId) (h4 : tm[4]? = some (.pointer (some ⟨b, 0, none⟩))) (h5 : tm[5]? = some f) (h : w.heap[b]? = some (.cells #[x0, x1, x2, x3, x4, x5, x6, x7, x8, x9, x10, x11, x12] t (0, 0))) :
    (results Tryd.f31 tm).run Tryd.prog w = .ok (.tuple #[.agg #[x0, x1, x2, x3, x4, x5, x6, x7, x8, x9, x10, x11, x12], f]) w := by
  obtain ⟨⟨t0, t1, t2, t3, t4, t5, t6, t7, t8, t9, t10, t11, t12⟩, _, _⟩ := all13 h
  simp [results, Tryd.results31, go_sem, h4, h5, t0, t1, t2, t3, t4, t5, t6, t7, t8, t9, t10, t11, t12]
set_option maxRecDepth 100000 in
set_option maxHeartbeats 4000000 in
theorem ipoll_long (X : En) (u : Value) (a : Option Addr) (n c : Nat) (w : World) (hn : ¬ n < 5) (hm : n ≤ 2000000) :
    Calls Tryd.prog 31 #[env X u, .slice a n c] w fun e w' => e = .returned (.tuple #[polV ⟨(0, 0), 0, 0, 0, 0, 0, fun _ => 0⟩ (.slice none 0 0), .bool false]) ∧ Below w.heap.size w w' := by
  unfold env polV
  dsimp only
  have D := Lib.hid (((Below.refl w.heap.size w).alloc (Nat.le_refl _) (.cells #[.int .i64 X.id.1, .int .i64 X.id.2, .int .i64 X.bal, .int .i64 X.st, .int .i64 X.k, .int .i64 X.key, .int .i64 X.v, .int .i64 X.seq, u] 29)).alloc (by simp) (.cells #[.int .i64 0, .int .i64 0, .int .i64 0, .int .i64 0, .int .i64 0, .int .i64 0, .int .i64 0, .int .u64 0, .int .u64 0, .int .u64 0, .int .u64 0, .int .u64 0, .slice none 0 0] 70))
  have R := Lib.hid (heap_alloc_at (w.alloc (.cells #[.int .i64 X.id.1, .int .i64 X.id.2, .int .i64 X.bal, .int .i64 X.st, .int .i64 X.k, .int .i64 X.key, .int .i64 X.v, .int .i64 X.seq, u] 29)) (.cells #[.int .i64 0, .int .i64 0, .int .i64 0, .int .i64 0, .int .i64 0, .int .i64 0, .int .i64 0, .int .u64 0, .int .u64 0, .int .u64 0, .int .u64 0, .int .u64 0, .slice none 0 0] 70) (w.heap.size + 1) (by simp))
  go_enter Tryd.func31, Tryd.ntmps31
  go_upto_region 2 with fail
  generalize (w.alloc (.cells #[.int .i64 X.id.1, .int .i64 X.id.2, .int .i64 X.bal, .int .i64 X.st, .int .i64 X.k, .int .i64 X.key, .int .i64 X.v, .int .i64 X.seq, u] 29)).alloc (.cells #[.int .i64 0, .int .i64 0, .int .i64 0, .int .i64 0, .int .i64 0, .int .i64 0, .int .i64 0, .int .u64 0, .int .u64 0, .int .u64 0, .int .u64 0, .int .u64 0, .slice none 0 0] 70) = w1 at D R ⊢
  obtain ⟨⟨z0, z1, z2, z3, z4, z5, z6, z7, z8, z9, z10, z11, z12⟩, zf, zl⟩ := all13 R.out
  have f0 := zf 0
  have f1 := zf 1
  have f2 := zf 2
  have f3 := zf 3
  have f4 := zf 4
  have f5 := zf 5
  have f6 := zf 6
  have f7 := zf 7
  have f8 := zf 8
  have f9 := zf 9
  have f10 := zf 10
  have f11 := zf 11
  have f12 := zf 12
  clear zf
  go_wp2_with fail
  exact bodyPost_ret (pl_res _ _ _ _ _ _ _ _ _ _ _ _ _ _ _ _ _ _ rfl rfl (put13_at _ _ _ _ _ _ _ _ _ _ _ _ _ R.out)) rfl ⟨rfl, D.out.trans (put13_below _ _ _ _ _ _ _ _ _ _ _ _ _ (Nat.le_succ _))⟩

theorem srcR (w : World) (t : TypeId) (x0 x1 x2 x3 x4 x5 x6 x7 x8 x9 x10 x11 : Value) (n : Nat) (hn : n = w.heap.size) : ∀ j v, [x0, x1, x2, x3, x4, x5, x6, x7, x8, x9, x10, x11][j]? = some v → (w.alloc (.cells #[x0, x1, x2, x3, x4, x5, x6, x7, x8, x9, x10, x11] t)).cell? ((⟨n, 0, none⟩ : Addr).add j) = some v := by
  subst hn
  intro j v hj
  have h := heap_alloc_new w (.cells #[x0, x1, x2, x3, x4, x5, x6, x7, x8, x9, x10, x11] t)
  rw [Addr.add_lit, Nat.zero_add, cell_of_cells h]
  simpa using hj
theorem oneR (x0 x1 x2 x3 x4 x5 x6 : Int) (y0 y1 y2 y3 y4 : Int) : ∀ u ∈ [Value.int .i64 x0, Value.int .i64 x1, Value.int .i64 x2, Value.int .i64 x3, Value.int .i64 x4, Value.int .i64 x5, Value.int .i64 x6, .int .u64 y0, .int .u64 y1, .int .u64 y2, .int .u64 y3, .int .u64 y4], u.oneCell' = true := by
  intro u hu
  simp at hu
  rcases hu with rfl | rfl | rfl | rfl | rfl | rfl | rfl | rfl | rfl | rfl | rfl | rfl <;> rfl
/-- What stands while pollOf ends. -/
theorem pl_keep {w wc w' : World} {bx B : Nat} {y0 y1 y2 y3 y4 y5 y6 y7 y8 y9 y10 y11 v : Value} {P : List Pr} (hb : Below wc.heap.size wc w') (h : (wc.cell? ⟨bx, 0, none⟩ = some (y0) ∧ wc.cell? ⟨bx, 1, none⟩ = some (y1) ∧ wc.cell? ⟨bx, 2, none⟩ = some (y2) ∧ wc.cell? ⟨bx, 3, none⟩ = some (y3) ∧ wc.cell? ⟨bx, 4, none⟩ = some (y4) ∧ wc.cell? ⟨bx, 5, none⟩ = some (y5) ∧ wc.cell? ⟨bx, 6, none⟩ = some (y6) ∧ wc.cell? ⟨bx, 7, none⟩ = some (y7) ∧ wc.cell? ⟨bx, 8, none⟩ = some (y8) ∧ wc.cell? ⟨bx, 9, none⟩ = some (y9) ∧ wc.cell? ⟨bx, 10, none⟩ = some (y10) ∧ wc.cell? ⟨bx, 11, none⟩ = some (y11)) ∧ RPr wc B v P ∧ Below w.heap.size w wc) : (w'.cell? ⟨bx, 0, none⟩ = some (y0) ∧ w'.cell? ⟨bx, 1, none⟩ = some (y1) ∧ w'.cell? ⟨bx, 2, none⟩ = some (y2) ∧ w'.cell? ⟨bx, 3, none⟩ = some (y3) ∧ w'.cell? ⟨bx, 4, none⟩ = some (y4) ∧ w'.cell? ⟨bx, 5, none⟩ = some (y5) ∧ w'.cell? ⟨bx, 6, none⟩ = some (y6) ∧ w'.cell? ⟨bx, 7, none⟩ = some (y7) ∧ w'.cell? ⟨bx, 8, none⟩ = some (y8) ∧ w'.cell? ⟨bx, 9, none⟩ = some (y9) ∧ w'.cell? ⟨bx, 10, none⟩ = some (y10) ∧ w'.cell? ⟨bx, 11, none⟩ = some (y11)) ∧ RPr w' B v P ∧ Below w.heap.size w w' :=
  ⟨⟨cell_later hb h.1.1, cell_later hb h.1.2.1, cell_later hb h.1.2.2.1, cell_later hb h.1.2.2.2.1, cell_later hb h.1.2.2.2.2.1, cell_later hb h.1.2.2.2.2.2.1, cell_later hb h.1.2.2.2.2.2.2.1, cell_later hb h.1.2.2.2.2.2.2.2.1, cell_later hb h.1.2.2.2.2.2.2.2.2.1, cell_later hb h.1.2.2.2.2.2.2.2.2.2.1, cell_later hb h.1.2.2.2.2.2.2.2.2.2.2.1, cell_later hb h.1.2.2.2.2.2.2.2.2.2.2.2⟩, h.2.1.up hb, h.2.2.trans (hb.mono h.2.2.size)⟩
theorem pl_drew {w wc : World} {bx B : Nat} {y0 y1 y2 y3 y4 y5 y6 y7 y8 y9 y10 y11 v : Value} {P : List Pr} (h : (wc.cell? ⟨bx, 0, none⟩ = some (y0) ∧ wc.cell? ⟨bx, 1, none⟩ = some (y1) ∧ wc.cell? ⟨bx, 2, none⟩ = some (y2) ∧ wc.cell? ⟨bx, 3, none⟩ = some (y3) ∧ wc.cell? ⟨bx, 4, none⟩ = some (y4) ∧ wc.cell? ⟨bx, 5, none⟩ = some (y5) ∧ wc.cell? ⟨bx, 6, none⟩ = some (y6) ∧ wc.cell? ⟨bx, 7, none⟩ = some (y7) ∧ wc.cell? ⟨bx, 8, none⟩ = some (y8) ∧ wc.cell? ⟨bx, 9, none⟩ = some (y9) ∧ wc.cell? ⟨bx, 10, none⟩ = some (y10) ∧ wc.cell? ⟨bx, 11, none⟩ = some (y11)) ∧ RPr wc B v P ∧ Below w.heap.size w wc) : (wc.drew.cell? ⟨bx, 0, none⟩ = some (y0) ∧ wc.drew.cell? ⟨bx, 1, none⟩ = some (y1) ∧ wc.drew.cell? ⟨bx, 2, none⟩ = some (y2) ∧ wc.drew.cell? ⟨bx, 3, none⟩ = some (y3) ∧ wc.drew.cell? ⟨bx, 4, none⟩ = some (y4) ∧ wc.drew.cell? ⟨bx, 5, none⟩ = some (y5) ∧ wc.drew.cell? ⟨bx, 6, none⟩ = some (y6) ∧ wc.drew.cell? ⟨bx, 7, none⟩ = some (y7) ∧ wc.drew.cell? ⟨bx, 8, none⟩ = some (y8) ∧ wc.drew.cell? ⟨bx, 9, none⟩ = some (y9) ∧ wc.drew.cell? ⟨bx, 10, none⟩ = some (y10) ∧ wc.drew.cell? ⟨bx, 11, none⟩ = some (y11)) ∧ RPr wc.drew B v P ∧ Below w.heap.size w wc.drew :=
  ⟨h.1, h.2.1.same (fun _ _ _ => rfl), h.2.2.drew⟩
theorem pl_undrew {w wc : World} {bx B : Nat} {y0 y1 y2 y3 y4 y5 y6 y7 y8 y9 y10 y11 v : Value} {P : List Pr} (h : (wc.drew.cell? ⟨bx, 0, none⟩ = some (y0) ∧ wc.drew.cell? ⟨bx, 1, none⟩ = some (y1) ∧ wc.drew.cell? ⟨bx, 2, none⟩ = some (y2) ∧ wc.drew.cell? ⟨bx, 3, none⟩ = some (y3) ∧ wc.drew.cell? ⟨bx, 4, none⟩ = some (y4) ∧ wc.drew.cell? ⟨bx, 5, none⟩ = some (y5) ∧ wc.drew.cell? ⟨bx, 6, none⟩ = some (y6) ∧ wc.drew.cell? ⟨bx, 7, none⟩ = some (y7) ∧ wc.drew.cell? ⟨bx, 8, none⟩ = some (y8) ∧ wc.drew.cell? ⟨bx, 9, none⟩ = some (y9) ∧ wc.drew.cell? ⟨bx, 10, none⟩ = some (y10) ∧ wc.drew.cell? ⟨bx, 11, none⟩ = some (y11)) ∧ RPr wc.drew B v P ∧ Below w.heap.size w wc.drew) : (wc.cell? ⟨bx, 0, none⟩ = some (y0) ∧ wc.cell? ⟨bx, 1, none⟩ = some (y1) ∧ wc.cell? ⟨bx, 2, none⟩ = some (y2) ∧ wc.cell? ⟨bx, 3, none⟩ = some (y3) ∧ wc.cell? ⟨bx, 4, none⟩ = some (y4) ∧ wc.cell? ⟨bx, 5, none⟩ = some (y5) ∧ wc.cell? ⟨bx, 6, none⟩ = some (y6) ∧ wc.cell? ⟨bx, 7, none⟩ = some (y7) ∧ wc.cell? ⟨bx, 8, none⟩ = some (y8) ∧ wc.cell? ⟨bx, 9, none⟩ = some (y9) ∧ wc.cell? ⟨bx, 10, none⟩ = some (y10) ∧ wc.cell? ⟨bx, 11, none⟩ = some (y11)) ∧ RPr wc B v P ∧ Below w.heap.size w wc :=
  ⟨h.1, h.2.1.same (fun _ _ _ => rfl), ⟨h.2.2.os, h.2.2.tape, h.2.2.output, h.2.2.size, h.2.2.block⟩⟩
theorem pl_dh {w : World} {b : Nat} {o : Obj} (h : w.heap[b]? = some o) : w.drew.heap[b]? = some o := h
theorem pl_set {w wc : World} {bx B : Nat} {y0 y1 y2 y3 y4 y5 y6 y7 y8 y9 y10 y11 v : Value} {P : List Pr} {i : Nat} {u : Value} (hx : w.heap.size + 1 < bx) (hB : w.heap.size + 1 < B) (h : (wc.cell? ⟨bx, 0, none⟩ = some (y0) ∧ wc.cell? ⟨bx, 1, none⟩ = some (y1) ∧ wc.cell? ⟨bx, 2, none⟩ = some (y2) ∧ wc.cell? ⟨bx, 3, none⟩ = some (y3) ∧ wc.cell? ⟨bx, 4, none⟩ = some (y4) ∧ wc.cell? ⟨bx, 5, none⟩ = some (y5) ∧ wc.cell? ⟨bx, 6, none⟩ = some (y6) ∧ wc.cell? ⟨bx, 7, none⟩ = some (y7) ∧ wc.cell? ⟨bx, 8, none⟩ = some (y8) ∧ wc.cell? ⟨bx, 9, none⟩ = some (y9) ∧ wc.cell? ⟨bx, 10, none⟩ = some (y10) ∧ wc.cell? ⟨bx, 11, none⟩ = some (y11)) ∧ RPr wc B v P ∧ Below w.heap.size w wc) : ((wc.setCell ⟨w.heap.size + 1, i, none⟩ u).cell? ⟨bx, 0, none⟩ = some (y0) ∧ (wc.setCell ⟨w.heap.size + 1, i, none⟩ u).cell? ⟨bx, 1, none⟩ = some (y1) ∧ (wc.setCell ⟨w.heap.size + 1, i, none⟩ u).cell? ⟨bx, 2, none⟩ = some (y2) ∧ (wc.setCell ⟨w.heap.size + 1, i, none⟩ u).cell? ⟨bx, 3, none⟩ = some (y3) ∧ (wc.setCell ⟨w.heap.size + 1, i, none⟩ u).cell? ⟨bx, 4, none⟩ = some (y4) ∧ (wc.setCell ⟨w.heap.size + 1, i, none⟩ u).cell? ⟨bx, 5, none⟩ = some (y5) ∧ (wc.setCell ⟨w.heap.size + 1, i, none⟩ u).cell? ⟨bx, 6, none⟩ = some (y6) ∧ (wc.setCell ⟨w.heap.size + 1, i, none⟩ u).cell? ⟨bx, 7, none⟩ = some (y7) ∧ (wc.setCell ⟨w.heap.size + 1, i, none⟩ u).cell? ⟨bx, 8, none⟩ = some (y8) ∧ (wc.setCell ⟨w.heap.size + 1, i, none⟩ u).cell? ⟨bx, 9, none⟩ = some (y9) ∧ (wc.setCell ⟨w.heap.size + 1, i, none⟩ u).cell? ⟨bx, 10, none⟩ = some (y10) ∧ (wc.setCell ⟨w.heap.size + 1, i, none⟩ u).cell? ⟨bx, 11, none⟩ = some (y11)) ∧ RPr (wc.setCell ⟨w.heap.size + 1, i, none⟩ u) B v P ∧ Below w.heap.size w (wc.setCell ⟨w.heap.size + 1, i, none⟩ u) :=
  ⟨⟨cell_set u (by omega) h.1.1, cell_set u (by omega) h.1.2.1, cell_set u (by omega) h.1.2.2.1, cell_set u (by omega) h.1.2.2.2.1, cell_set u (by omega) h.1.2.2.2.2.1, cell_set u (by omega) h.1.2.2.2.2.2.1, cell_set u (by omega) h.1.2.2.2.2.2.2.1, cell_set u (by omega) h.1.2.2.2.2.2.2.2.1, cell_set u (by omega) h.1.2.2.2.2.2.2.2.2.1, cell_set u (by omega) h.1.2.2.2.2.2.2.2.2.2.1, cell_set u (by omega) h.1.2.2.2.2.2.2.2.2.2.2.1, cell_set u (by omega) h.1.2.2.2.2.2.2.2.2.2.2.2⟩, h.2.1.same (fun b h1 h2 => heap_setCell_other _ _ _ _ (by show b ≠ w.heap.size + 1; omega)), h.2.2.setCell (p := ⟨w.heap.size + 1, i, none⟩) (by show w.heap.size ≤ w.heap.size + 1; omega) u⟩
set_option maxRecDepth 100000 in
set_option maxHeartbeats 8000000 in
theorem ipoll_at (X : En) (u : Value) (a : Option Addr) (ca : Nat) (E : List En) (w : World) (hu : Ids w u X.deps) (hl : E.length < 5) (h : E.length = 0 ∨ ∃ b off U, a = some ⟨b, off, none⟩ ∧ EnsAt w b off E U) :
    Calls Tryd.prog 31 #[env X u, .slice a E.length ca] w fun e w' => ∃ v, e = .returned (.tuple #[polV (prOf X) v, .bool (pollB X E)]) ∧ Prs w' v (E.map prOf) ∧ Below w.heap.size w w' := by
  have h := Lib.hid h
  obtain ⟨n, hn⟩ : ∃ n, Hid (E.length = n) := ⟨_, Lib.hid rfl⟩
  rw [hn.out] at hl ⊢
  have hmk := fun W => make_capR n (by omega) W
  have hEn : E.length ≤ 2000000 := by rw [hn.out]; omega
  have po := fun W (hb : Below w.heap.size w W) => ipropOf_any X u W (hu.up hb (Nat.le_refl _))
  unfold env at po
  unfold env polV
  have D := Lib.hid (((Below.refl w.heap.size w).alloc (Nat.le_refl _) (.cells #[.int .i64 X.id.1, .int .i64 X.id.2, .int .i64 X.bal, .int .i64 X.st, .int .i64 X.k, .int .i64 X.key, .int .i64 X.v, .int .i64 X.seq, u] 29)).alloc (by simp) (.cells #[.int .i64 0, .int .i64 0, .int .i64 0, .int .i64 0, .int .i64 0, .int .i64 0, .int .i64 0, .int .u64 0, .int .u64 0, .int .u64 0, .int .u64 0, .int .u64 0, .slice none 0 0] 70))
  have R := Lib.hid (heap_alloc_at (w.alloc (.cells #[.int .i64 X.id.1, .int .i64 X.id.2, .int .i64 X.bal, .int .i64 X.st, .int .i64 X.k, .int .i64 X.key, .int .i64 X.v, .int .i64 X.seq, u] 29)) (.cells #[.int .i64 0, .int .i64 0, .int .i64 0, .int .i64 0, .int .i64 0, .int .i64 0, .int .i64 0, .int .u64 0, .int .u64 0, .int .u64 0, .int .u64 0, .int .u64 0, .slice none 0 0] 70) (w.heap.size + 1) (by simp))
  have G := Lib.hid ((Below.refl (w.alloc (.cells #[.int .i64 X.id.1, .int .i64 X.id.2, .int .i64 X.bal, .int .i64 X.st, .int .i64 X.k, .int .i64 X.key, .int .i64 X.v, .int .i64 X.seq, u] 29)).heap.size (w.alloc (.cells #[.int .i64 X.id.1, .int .i64 X.id.2, .int .i64 X.bal, .int .i64 X.st, .int .i64 X.k, .int .i64 X.key, .int .i64 X.v, .int .i64 X.seq, u] 29))).alloc (Nat.le_refl _) (.cells #[.int .i64 0, .int .i64 0, .int .i64 0, .int .i64 0, .int .i64 0, .int .i64 0, .int .i64 0, .int .u64 0, .int .u64 0, .int .u64 0, .int .u64 0, .int .u64 0, .slice none 0 0] 70) |>.block w.heap.size (by simp) |>.trans (heap_alloc_new w (.cells #[.int .i64 X.id.1, .int .i64 X.id.2, .int .i64 X.bal, .int .i64 X.st, .int .i64 X.k, .int .i64 X.key, .int .i64 X.v, .int .i64 X.seq, u] 29)))
  go_enter Tryd.func31, Tryd.ntmps31
  go_upto_region 3 with fail
  generalize (w.alloc (.cells #[.int .i64 X.id.1, .int .i64 X.id.2, .int .i64 X.bal, .int .i64 X.st, .int .i64 X.k, .int .i64 X.key, .int .i64 X.v, .int .i64 X.seq, u] 29)).alloc (.cells #[.int .i64 0, .int .i64 0, .int .i64 0, .int .i64 0, .int .i64 0, .int .i64 0, .int .i64 0, .int .u64 0, .int .u64 0, .int .u64 0, .int .u64 0, .int .u64 0, .slice none 0 0] 70) = w0 at D R G ⊢
  obtain ⟨⟨e0, e1, e2, e3, e4, e5, e6, e7, e8⟩, _, el⟩ := nine_all G.out
  go_wp2_with fail
  refine (po _ D.out).mono ?_
  rintro e w1 ⟨rfl, hb⟩
  have D1 := Lib.hid (bstep D.out hb)
  replace R := Lib.hid (bblk hb (lt_of_heap R.out) R.out)
  have hbx := lt_of_heap R.out
  unfold prV
  dsimp only
  go_upto_region 6 with fail
  have Dw := Lib.hid (Below.alloc D1.out D1.out.size (.cells #[.int .i64 X.id.1, .int .i64 X.id.2, .int .i64 X.bal, .int .i64 X.k, .int .i64 X.key, .int .i64 X.v, .int .i64 X.seq, .int .u64 (setF X.deps 0), .int .u64 (setF X.deps 1), .int .u64 (setF X.deps 2), .int .u64 (setF X.deps 3), .int .u64 (setF X.deps 4)] 67))
  have C6 := heap_alloc_new w1 (.cells #[.int .i64 X.id.1, .int .i64 X.id.2, .int .i64 X.bal, .int .i64 X.k, .int .i64 X.key, .int .i64 X.v, .int .i64 X.seq, .int .u64 (setF X.deps 0), .int .u64 (setF X.deps 1), .int .u64 (setF X.deps 2), .int .u64 (setF X.deps 3), .int .u64 (setF X.deps 4)] 67)
  replace R := Lib.hid ((Below.alloc (Below.refl w1.heap.size w1) (Nat.le_refl _) (.cells #[.int .i64 X.id.1, .int .i64 X.id.2, .int .i64 X.bal, .int .i64 X.k, .int .i64 X.key, .int .i64 X.v, .int .i64 X.seq, .int .u64 (setF X.deps 0), .int .u64 (setF X.deps 1), .int .u64 (setF X.deps 2), .int .u64 (setF X.deps 3), .int .u64 (setF X.deps 4)] 67)).block _ (lt_of_heap R.out) |>.trans R.out)
  have hsz : w1.heap.size + 1 = (w1.alloc (.cells #[.int .i64 X.id.1, .int .i64 X.id.2, .int .i64 X.bal, .int .i64 X.k, .int .i64 X.key, .int .i64 X.v, .int .i64 X.seq, .int .u64 (setF X.deps 0), .int .u64 (setF X.deps 1), .int .u64 (setF X.deps 2), .int .u64 (setF X.deps 3), .int .u64 (setF X.deps 4)] 67)).heap.size := by simp
  rw [hsz]
  clear hsz hb D1 D G e0 e1 e2 e3 e4 e5 e6 e7 e8 el
  generalize w1.heap.size = bx at C6 hbx ⊢
  generalize w1.alloc (.cells #[.int .i64 X.id.1, .int .i64 X.id.2, .int .i64 X.bal, .int .i64 X.k, .int .i64 X.key, .int .i64 X.v, .int .i64 X.seq, .int .u64 (setF X.deps 0), .int .u64 (setF X.deps 1), .int .u64 (setF X.deps 2), .int .u64 (setF X.deps 3), .int .u64 (setF X.deps 4)] 67) = wb at R C6 Dw ⊢
  have C6 := Lib.hid C6
  have P0 := Lib.hid (rpr_cap wb n wb.heap.size (Nat.le_refl _) (by omega))
  have D0 := Lib.hid (Below.alloc (Below.refl wb.heap.size wb) (Nat.le_refl _) (.cells (madeCells #[.int .i64 0, .int .i64 0, .int .i64 0, .int .i64 0, .int .i64 0, .int .i64 0, .int .i64 0, .int .u64 0, .int .u64 0, .int .u64 0, .int .u64 0, .int .u64 0] (n * 12)) 67))
  generalize wb.alloc (.cells (madeCells #[.int .i64 0, .int .i64 0, .int .i64 0, .int .i64 0, .int .i64 0, .int .i64 0, .int .i64 0, .int .u64 0, .int .u64 0, .int .u64 0, .int .u64 0, .int .u64 0] (n * 12)) 67) = wc at P0 D0 ⊢
  obtain ⟨i0, hi, hz0, hz1, hz2⟩ := info_parts info_pr
  obtain ⟨p0, hp0⟩ : ∃ p, Hid ((enB X && X.st == 1) = p) := ⟨_, Lib.hid rfl⟩
  rw [hp0.out]
  go_loopw [7, 8, 27] (fun q v i wr => ∃ (j : Nat) (qb : Bool), j ≤ n ∧ i = .int .i64 j ∧ q = .bool qb ∧ Hid (qb = (p0 && (E.take j).all propB)) ∧ Hid (RPr wr wb.heap.size v ((E.take j).map prOf)) ∧ Hid (Below wb.heap.size wb wr)) (fun _ _ i _ => n - (intOf i).toNat)
  case atStart => exact ⟨0, _, Nat.zero_le _, rfl, rfl, Lib.hid (by simp), P0, D0⟩
  case round =>
    clear P0 D0
    obtain ⟨j, qb, hj, rfl, rfl, hq, P, D5⟩ := hrel
    by_cases hlt : j < n
    · have hkE : j < E.length := by rw [hn.out]; exact hlt
      obtain ⟨b, off, U, ha, hE⟩ := h.out.resolve_left (by have := hn.out; omega)
      subst ha
      have hA := (hE.up Dw.out (Nat.le_refl _)).up D5.out (Nat.le_refl _)
      clear hE
      have hbl := hA.lt
      have hP := hA.at_ j hkE
      obtain ⟨ya, yn, yc, hy⟩ : ∃ ua un uc, U j = .slice ua un uc := by obtain ⟨a, c, e, _⟩ := hP.ids; exact ⟨a, _, c, e⟩
      obtain ⟨Y, hY⟩ : ∃ Y, Hid (E.getD j en0 = Y) := ⟨_, Lib.hid rfl⟩
      rw [hy, hY.out] at hP
      have q0 := hP.c0
      have q1 := hP.c1
      have q2 := hP.c2
      have q3 := hP.c3
      have q4 := hP.c4
      have q5 := hP.c5
      have q6 := hP.c6
      have q7 := hP.c7
      have q8 := hP.c8
      go_upto_region 8 with fail
      have py := ipropOf_any Y (.slice ya yn yc) (wr.alloc (.cells #[.int .i64 Y.id.1, .int .i64 Y.id.2, .int .i64 Y.bal, .int .i64 Y.st, .int .i64 Y.k, .int .i64 Y.key, .int .i64 Y.v, .int .i64 Y.seq, .slice ya yn yc] 29)) (hP.ids.up (Below.alloc (Below.refl wr.heap.size wr) (Nat.le_refl _) _) (Nat.le_refl _))
      have BA := Lib.hid (Below.alloc (Below.refl wr.heap.size wr) (Nat.le_refl _) (.cells #[.int .i64 Y.id.1, .int .i64 Y.id.2, .int .i64 Y.bal, .int .i64 Y.st, .int .i64 Y.k, .int .i64 Y.key, .int .i64 Y.v, .int .i64 Y.seq, .slice ya yn yc] 29))
      obtain ⟨⟨z0, z1, z2, z3, z4, z5, z6, z7, z8⟩, _, zl⟩ := nine_all (heap_alloc_new wr (.cells #[.int .i64 Y.id.1, .int .i64 Y.id.2, .int .i64 Y.bal, .int .i64 Y.st, .int .i64 Y.k, .int .i64 Y.key, .int .i64 Y.v, .int .i64 Y.seq, .slice ya yn yc] 29))
      clear q0 q1 q2 q3 q4 q5 q6 q7 q8 hP hA hbl
      generalize wr.alloc (.cells #[.int .i64 Y.id.1, .int .i64 Y.id.2, .int .i64 Y.bal, .int .i64 Y.st, .int .i64 Y.k, .int .i64 Y.key, .int .i64 Y.v, .int .i64 Y.seq, .slice ya yn yc] 29) = W at py BA z0 z1 z2 z3 z4 z5 z6 z7 z8 zl ⊢
      unfold env at py
      cases qb
      all_goals
        go_wp2_with fail
        refine py.mono ?_
        rintro e w3 ⟨rfl, B⟩
        have P3 := Lib.hid (P.out.up (bstep BA.out B))
        have D3 := Lib.hid (D5.out.trans ((bstep BA.out B).mono D5.out.size))
        unfold prV
        dsimp only
        go_upto_region 10 with fail
        have A4 := heap_alloc_new w3 (.cells #[.int .i64 Y.id.1, .int .i64 Y.id.2, .int .i64 Y.bal, .int .i64 Y.k, .int .i64 Y.key, .int .i64 Y.v, .int .i64 Y.seq, .int .u64 (setF Y.deps 0), .int .u64 (setF Y.deps 1), .int .u64 (setF Y.deps 2), .int .u64 (setF Y.deps 3), .int .u64 (setF Y.deps 4)] 67)
        have D4 := Lib.hid (Below.alloc D3.out D3.out.size (.cells #[.int .i64 Y.id.1, .int .i64 Y.id.2, .int .i64 Y.bal, .int .i64 Y.k, .int .i64 Y.key, .int .i64 Y.v, .int .i64 Y.seq, .int .u64 (setF Y.deps 0), .int .u64 (setF Y.deps 1), .int .u64 (setF Y.deps 2), .int .u64 (setF Y.deps 3), .int .u64 (setF Y.deps 4)] 67))
        have P4 := Lib.hid (P3.out.up (Below.alloc (Below.refl w3.heap.size w3) (Nat.le_refl _) (.cells #[.int .i64 Y.id.1, .int .i64 Y.id.2, .int .i64 Y.bal, .int .i64 Y.k, .int .i64 Y.key, .int .i64 Y.v, .int .i64 Y.seq, .int .u64 (setF Y.deps 0), .int .u64 (setF Y.deps 1), .int .u64 (setF Y.deps 2), .int .u64 (setF Y.deps 3), .int .u64 (setF Y.deps 4)] 67)))
        clear P3 D3 P D5 BA py z0 z1 z2 z3 z4 z5 z6 z7 z8 zl B
        generalize w3.alloc (.cells #[.int .i64 Y.id.1, .int .i64 Y.id.2, .int .i64 Y.bal, .int .i64 Y.k, .int .i64 Y.key, .int .i64 Y.v, .int .i64 Y.seq, .int .u64 (setF Y.deps 0), .int .u64 (setF Y.deps 1), .int .u64 (setF Y.deps 2), .int .u64 (setF Y.deps 3), .int .u64 (setF Y.deps 4)] 67) = w4 at A4 D4 P4 ⊢
        obtain ⟨⟨c0, c1, c2, c3, c4, c5, c6, c7, c8, c9, c10, c11⟩, _, cl⟩ := all12 A4
        clear A4
        have hLl : ((E.take j).map prOf).length = j := by rw [List.length_map, List.length_take, hn.out]; omega
        obtain ⟨L, hL⟩ : ∃ L, Hid ((E.take j).map prOf = L) := ⟨_, Lib.hid rfl⟩
        rw [hL.out] at P4 hLl
        have hPr := Lib.hid P4.out.row
        rw [hLl] at hPr
        have hW := Lib.hid D4.out.size
        have hj3 : j < 5 := by omega
        go_wp2_with (at_builtin; refine wpList_append_own_at _ rfl _ _ 68 rfl wb.heap.size 67 i0 (.agg #[.int .i64 0, .int .i64 0, .int .i64 0, .int .i64 0, .int .i64 0, .int .i64 0, .int .i64 0, .int .u64 0, .int .u64 0, .int .u64 0, .int .u64 0, .int .u64 0]) 12 96 Tryd.underlying68 hi hz0 hz1 hz2 rfl (by decide) _ j (flatR L) rfl (hPr.out.alloc _) ⟨w4.heap.size, 0, none⟩ 1 1 [.int .i64 Y.id.1, .int .i64 Y.id.2, .int .i64 Y.bal, .int .i64 Y.k, .int .i64 Y.key, .int .i64 Y.v, .int .i64 Y.seq, .int .u64 (setF Y.deps 0), .int .u64 (setF Y.deps 1), .int .u64 (setF Y.deps 2), .int .u64 (setF Y.deps 3), .int .u64 (setF Y.deps 4)] rfl rfl ?fc1 ?fc2 ?fc3 ?fc4 ?fc5 ?_)
        case fc1 => exact srcR _ _ _ _ _ _ _ _ _ _ _ _ _ _ _ rfl
        case fc2 => exact oneR _ _ _ _ _ _ _ _ _ _ _ _
        case fc3 => unfold maxLen; omega
        case fc4 => omega
        case fc5 => first | omega | (have := hW.out; simp; omega)
        intro v' w' hown' hgrow hnil hat
        have P5 := Lib.hid (P4.out.put (x := prOf Y) (by rw [hLl]; exact hown') (fun e => hnil e))
        have D5 := Lib.hid (D4.out.trans (P4.out.grown hgrow D4.out.size))
        clear hown' hgrow hnil hat hPr hW D4 P4 c0 c1 c2 c3 c4 c5 c6 c7 c8 c9 c10 c11 cl
        have hgY : E[j]'hkE = Y := by rw [← hY.out, List.getD_eq_getElem?_getD, List.getElem?_eq_getElem hkE]; rfl
        have hL1 : (E.take (j + 1)).map prOf = L ++ [prOf Y] := by
          rw [List.take_add_one, List.getElem?_eq_getElem hkE, List.map_append, hL.out, hgY]; rfl
        have hq1 : (E.take (j + 1)).all propB = ((E.take j).all propB && propB Y) := by
          rw [List.take_add_one, List.getElem?_eq_getElem hkE, List.all_append, hgY]; simp
        rw [← hL1] at P5
        have hq2 := Lib.hid hq1
        clear hq1 hL1
        go_wp2_with fail
        go_roundw
        case rel =>
          refine ⟨j + 1, _, by omega, by go_num, rfl, Lib.hid ?_, P5, D5⟩
          rw [hq2.out, ← Bool.and_assoc, ← hq.out]
          rfl
        case measure => simp [intOf]; omega
    · obtain rfl : j = n := by omega
      have ht : E.take j = E := List.take_of_length_le (by rw [hn.out]; exact Nat.le_refl _)
      have P1 := P.out
      have hq1 := hq.out
      rw [ht] at P1 hq1
      obtain ⟨M, hM⟩ : ∃ M, Hid (E.map prOf = M) := ⟨_, Lib.hid rfl⟩
      rw [hM.out] at P1
      have hMl : M.length = j := by rw [← hM.out, List.length_map]; exact hn.out
      obtain ⟨va, vc, rfl⟩ : ∃ a c, u8 = .slice a j c := by
        obtain ⟨a, c, e, _⟩ := P1.prs (by rw [hMl]; omega)
        exact ⟨a, c, by rw [e, hMl]⟩
      have P7 := Lib.hid P1
      have hB0 : w.heap.size + 1 < wb.heap.size := lt_of_heap R.out
      have R7 := Lib.hid ((D5.out.block _ (lt_of_heap R.out)).trans R.out)
      have D7 := Lib.hid (bstep Dw.out D5.out)
      have hc7 := (all12 ((D5.out.block _ (lt_of_heap C6.out)).trans C6.out)).1
      have ag := fun W H => iagS_any (prOf X) (.slice va j vc) M W H
      obtain ⟨tq, htq⟩ : ∃ q, Hid ((M.all fun x => sbS x (prOf X)) = q) := ⟨_, Lib.hid rfl⟩
      rw [htq.out] at ag
      unfold Pr.val prV prOf at ag
      dsimp only at ag
      have hqt := hq1
      have hpo : pollB X E = (qb && tq) := by
        unfold pollB
        rw [show propB X = p0 from hp0.out, ← Bool.and_assoc, ← hq1, hM.out, htq.out]
      clear hqt hq1 P1 hq P D5 R C6 ht po hmk Dw hp0
      have hpo := Lib.hid hpo
      cases qb
      · have hqf := Lib.hid (show pollB X E = false from hpo.out)
        clear hpo ag
        go_upto_region 12 with fail
        refine wp_region_held_drew (S := fun w' => (w'.cell? ⟨bx, 0, none⟩ = some (.int .i64 X.id.1) ∧ w'.cell? ⟨bx, 1, none⟩ = some (.int .i64 X.id.2) ∧ w'.cell? ⟨bx, 2, none⟩ = some (.int .i64 X.bal) ∧ w'.cell? ⟨bx, 3, none⟩ = some (.int .i64 X.k) ∧ w'.cell? ⟨bx, 4, none⟩ = some (.int .i64 X.key) ∧ w'.cell? ⟨bx, 5, none⟩ = some (.int .i64 X.v) ∧ w'.cell? ⟨bx, 6, none⟩ = some (.int .i64 X.seq) ∧ w'.cell? ⟨bx, 7, none⟩ = some (.int .u64 (setF X.deps 0)) ∧ w'.cell? ⟨bx, 8, none⟩ = some (.int .u64 (setF X.deps 1)) ∧ w'.cell? ⟨bx, 9, none⟩ = some (.int .u64 (setF X.deps 2)) ∧ w'.cell? ⟨bx, 10, none⟩ = some (.int .u64 (setF X.deps 3)) ∧ w'.cell? ⟨bx, 11, none⟩ = some (.int .u64 (setF X.deps 4))) ∧ RPr w' wb.heap.size (.slice va j vc) M ∧ Below w.heap.size w w') (by kernel_rfl) ⟨hc7, P7.out.same (fun _ _ _ => rfl), D7.out.drew⟩ (fun hHeld => ?_)
        refine wpAnyH_take (i := 0) (oi := ⟨some 45, _, _, _, _, _⟩) (v := ?_) rfl (by kernel_rfl) (by kernel_rfl) (by kernel_rfl) (fun _ _ _ h => h) (Or.inl ⟨by rfl, ?_⟩) (by assumption) ?_
        rotate_left 1
        · intro w hSw; (try dsimp only at hSw); go_simp; try (with_reducible rfl)
        try simp only [Act.put, List.setIfInBounds_toArray, List.set_cons_zero, List.set_cons_succ]
        refine wpAnyH_take (i := 1) (oi := ⟨some 46, _, _, _, _, _⟩) (v := ?_) rfl (by kernel_rfl) (by kernel_rfl) (by kernel_rfl) (fun _ _ _ h => h) (Or.inl ⟨by rfl, ?_⟩) (by assumption) ?_
        rotate_left 1
        · intro w hSw; (try dsimp only at hSw); go_simp; try (with_reducible rfl)
        try simp only [Act.put, List.setIfInBounds_toArray, List.set_cons_zero, List.set_cons_succ]
        refine wpAnyH_take (i := 2) (oi := ⟨some 47, _, _, _, _, _⟩) (v := ?_) rfl (by kernel_rfl) (by kernel_rfl) (by kernel_rfl) (fun _ _ _ h => h) (Or.inl ⟨by rfl, ?_⟩) (by assumption) ?_
        rotate_left 1
        · intro w hSw; (try dsimp only at hSw); go_simp; try (with_reducible rfl)
        try simp only [Act.put, List.setIfInBounds_toArray, List.set_cons_zero, List.set_cons_succ]
        refine wpAnyH_take (i := 3) (oi := ⟨some 48, _, _, _, _, _⟩) (v := ?_) rfl (by kernel_rfl) (by kernel_rfl) (by kernel_rfl) (fun _ _ _ h => h) (Or.inl ⟨by rfl, ?_⟩) (by assumption) ?_
        rotate_left 1
        · intro w hSw; (try dsimp only at hSw); go_simp; try (with_reducible rfl)
        try simp only [Act.put, List.setIfInBounds_toArray, List.set_cons_zero, List.set_cons_succ]
        refine wpAnyH_take (i := 4) (oi := ⟨some 49, _, _, _, _, _⟩) (v := ?_) rfl (by kernel_rfl) (by kernel_rfl) (by kernel_rfl) (fun _ _ _ h => h) (Or.inl ⟨by rfl, ?_⟩) (by assumption) ?_
        rotate_left 1
        · intro w hSw; (try dsimp only at hSw); go_simp; try (with_reducible rfl)
        try simp only [Act.put, List.setIfInBounds_toArray, List.set_cons_zero, List.set_cons_succ]
        refine wpAnyH_take (i := 5) (oi := ⟨some 50, _, _, _, _, _⟩) (v := undef) rfl (by kernel_rfl) (by kernel_rfl) (by kernel_rfl) (fun _ _ _ h => h) (Or.inr ⟨by rfl, rfl⟩) (by assumption) ?_
        try simp only [Act.put, List.setIfInBounds_toArray, List.set_cons_zero, List.set_cons_succ]
        refine wpAnyH_take (i := 6) (oi := ⟨some 51, _, _, _, _, _⟩) (v := undef) rfl (by kernel_rfl) (by kernel_rfl) (by kernel_rfl) (fun _ _ _ h => h) (Or.inr ⟨by rfl, rfl⟩) (by assumption) ?_
        try simp only [Act.put, List.setIfInBounds_toArray, List.set_cons_zero, List.set_cons_succ]
        refine wpAnyH_take (i := 7) (oi := ⟨some 52, _, _, _, _, _⟩) (v := undef) rfl (by kernel_rfl) (by kernel_rfl) (by kernel_rfl) (fun _ _ _ h => h) (Or.inr ⟨by rfl, rfl⟩) (by assumption) ?_
        try simp only [Act.put, List.setIfInBounds_toArray, List.set_cons_zero, List.set_cons_succ]
        refine wpAnyH_take (i := 8) (oi := ⟨some 53, _, _, _, _, _⟩) (v := ?_) rfl (by kernel_rfl) (by kernel_rfl) (by kernel_rfl) (fun _ _ _ h => h) (Or.inl ⟨by rfl, ?_⟩) (by assumption) ?_
        rotate_left 1
        · intro w hSw; (try dsimp only at hSw); go_simp; try (with_reducible rfl)
        try simp only [Act.put, List.setIfInBounds_toArray, List.set_cons_zero, List.set_cons_succ]
        obtain ⟨⟨z0, z1, z2, z3, z4, z5, z6, z7, z8, z9, z10, z11, z12⟩, zf, hzl⟩ := all13 R7.out
        have f0 := zf 0
        have f1 := zf 1
        have f2 := zf 2
        have f3 := zf 3
        have f4 := zf 4
        have f5 := zf 5
        have f6 := zf 6
        have f7 := zf 7
        have f8 := zf 8
        have f9 := zf 9
        have f10 := zf 10
        have f11 := zf 11
        have f12 := zf 12
        clear zf
        refine wpAnyH_ready (rs := [9]) (by kernel_rfl) (by simp) ?_
        refine AllReadyH.cons (o := ⟨none, _, _, _, _, _⟩) rfl (fun K hK => ?_) AllReadyH.nil
        go_simp
        refine hK.out _ _ ?_ (fun hHeld2 => ?_)
        · with_reducible refine pl_drew ?_; with_reducible refine pl_set hbx hB0 ?_; with_reducible refine pl_set hbx hB0 ?_; with_reducible refine pl_set hbx hB0 ?_; with_reducible refine pl_set hbx hB0 ?_; with_reducible refine pl_set hbx hB0 ?_; with_reducible refine pl_set hbx hB0 ?_; with_reducible refine pl_set hbx hB0 ?_; with_reducible refine pl_set hbx hB0 ?_; with_reducible refine pl_set hbx hB0 ?_; with_reducible refine pl_set hbx hB0 ?_; with_reducible refine pl_set hbx hB0 ?_; with_reducible refine pl_set hbx hB0 ?_; with_reducible refine pl_set hbx hB0 ?_; with_reducible exact pl_undrew hHeld
        clear hK K hHeld
        have hHeld := hHeld2
        clear hHeld2
        try simp only [Act.put, List.setIfInBounds_toArray, List.set_cons_zero, List.set_cons_succ]
        refine wpAnyH_take (i := 10) (oi := ⟨some 5, _, _, _, _, _⟩) (v := ?_) rfl (by kernel_rfl) (by kernel_rfl) (by kernel_rfl) (fun _ _ _ h => h) (Or.inl ⟨by rfl, ?_⟩) (by assumption) ?_
        rotate_left 1
        · intro w hSw; (try dsimp only at hSw); go_simp; try (with_reducible rfl)
        try simp only [Act.put, List.setIfInBounds_toArray, List.set_cons_zero, List.set_cons_succ]
        refine wpAnyH_done (by kernel_rfl) ?_ _
        try simp only [Act.put, List.setIfInBounds_toArray, List.set_cons_zero, List.set_cons_succ]
        have D9 := Lib.hid hHeld.2
        clear hHeld
        go_wp2_with fail
        refine bodyPost_ret (pl_res _ _ _ _ _ _ _ _ _ _ _ _ _ _ _ _ _ _ rfl rfl (pl_dh (put13_at _ _ _ _ _ _ _ _ _ _ _ _ _ R7.out))) rfl ⟨_, by rw [hqf.out]; rfl, by rw [hM.out]; exact D9.out.1.prs (by rw [hMl]; omega), D9.out.2⟩
      · have hqt := Lib.hid (show pollB X E = tq from hpo.out)
        clear hpo
        go_upto_region 12 with fail
        refine wp_region_held_drew (S := fun w' => (w'.cell? ⟨bx, 0, none⟩ = some (.int .i64 X.id.1) ∧ w'.cell? ⟨bx, 1, none⟩ = some (.int .i64 X.id.2) ∧ w'.cell? ⟨bx, 2, none⟩ = some (.int .i64 X.bal) ∧ w'.cell? ⟨bx, 3, none⟩ = some (.int .i64 X.k) ∧ w'.cell? ⟨bx, 4, none⟩ = some (.int .i64 X.key) ∧ w'.cell? ⟨bx, 5, none⟩ = some (.int .i64 X.v) ∧ w'.cell? ⟨bx, 6, none⟩ = some (.int .i64 X.seq) ∧ w'.cell? ⟨bx, 7, none⟩ = some (.int .u64 (setF X.deps 0)) ∧ w'.cell? ⟨bx, 8, none⟩ = some (.int .u64 (setF X.deps 1)) ∧ w'.cell? ⟨bx, 9, none⟩ = some (.int .u64 (setF X.deps 2)) ∧ w'.cell? ⟨bx, 10, none⟩ = some (.int .u64 (setF X.deps 3)) ∧ w'.cell? ⟨bx, 11, none⟩ = some (.int .u64 (setF X.deps 4))) ∧ RPr w' wb.heap.size (.slice va j vc) M ∧ Below w.heap.size w w') (by kernel_rfl) ⟨hc7, P7.out.same (fun _ _ _ => rfl), D7.out.drew⟩ (fun hHeld => ?_)
        refine wpAnyH_take (i := 0) (oi := ⟨some 45, _, _, _, _, _⟩) (v := ?_) rfl (by kernel_rfl) (by kernel_rfl) (by kernel_rfl) (fun _ _ _ h => h) (Or.inl ⟨by rfl, ?_⟩) (by assumption) ?_
        rotate_left 1
        · intro w hSw; (try dsimp only at hSw); go_simp; try (with_reducible rfl)
        try simp only [Act.put, List.setIfInBounds_toArray, List.set_cons_zero, List.set_cons_succ]
        refine wpAnyH_take (i := 1) (oi := ⟨some 46, _, _, _, _, _⟩) (v := ?_) rfl (by kernel_rfl) (by kernel_rfl) (by kernel_rfl) (fun _ _ _ h => h) (Or.inl ⟨by rfl, ?_⟩) (by assumption) ?_
        rotate_left 1
        · intro w hSw; (try dsimp only at hSw); go_simp; try (with_reducible rfl)
        try simp only [Act.put, List.setIfInBounds_toArray, List.set_cons_zero, List.set_cons_succ]
        refine wpAnyH_take (i := 2) (oi := ⟨some 47, _, _, _, _, _⟩) (v := ?_) rfl (by kernel_rfl) (by kernel_rfl) (by kernel_rfl) (fun _ _ _ h => h) (Or.inl ⟨by rfl, ?_⟩) (by assumption) ?_
        rotate_left 1
        · intro w hSw; (try dsimp only at hSw); go_simp; try (with_reducible rfl)
        try simp only [Act.put, List.setIfInBounds_toArray, List.set_cons_zero, List.set_cons_succ]
        refine wpAnyH_take (i := 3) (oi := ⟨some 48, _, _, _, _, _⟩) (v := ?_) rfl (by kernel_rfl) (by kernel_rfl) (by kernel_rfl) (fun _ _ _ h => h) (Or.inl ⟨by rfl, ?_⟩) (by assumption) ?_
        rotate_left 1
        · intro w hSw; (try dsimp only at hSw); go_simp; try (with_reducible rfl)
        try simp only [Act.put, List.setIfInBounds_toArray, List.set_cons_zero, List.set_cons_succ]
        refine wpAnyH_take (i := 4) (oi := ⟨some 49, _, _, _, _, _⟩) (v := ?_) rfl (by kernel_rfl) (by kernel_rfl) (by kernel_rfl) (fun _ _ _ h => h) (Or.inl ⟨by rfl, ?_⟩) (by assumption) ?_
        rotate_left 1
        · intro w hSw; (try dsimp only at hSw); go_simp; try (with_reducible rfl)
        try simp only [Act.put, List.setIfInBounds_toArray, List.set_cons_zero, List.set_cons_succ]
        refine wpAnyH_take (i := 5) (oi := ⟨some 50, _, _, _, _, _⟩) (v := ?_) rfl (by kernel_rfl) (by kernel_rfl) (by kernel_rfl) (fun _ _ _ h => h) (Or.inl ⟨by rfl, ?_⟩) (by assumption) ?_
        rotate_left 1
        · intro w hSw; (try dsimp only at hSw); go_simp; try (with_reducible rfl)
        try simp only [Act.put, List.setIfInBounds_toArray, List.set_cons_zero, List.set_cons_succ]
        refine wpAnyH_take (i := 6) (oi := ⟨some 51, _, _, _, _, _⟩) (v := ?_) rfl (by kernel_rfl) (by kernel_rfl) (by kernel_rfl) (fun _ _ _ h => h) (Or.inl ⟨by rfl, ?_⟩) (by assumption) ?_
        rotate_left 1
        · intro w hSw; (try dsimp only at hSw); go_simp; try (with_reducible rfl)
        try simp only [Act.put, List.setIfInBounds_toArray, List.set_cons_zero, List.set_cons_succ]
        refine wpAnyH_ready (rs := [7]) (by kernel_rfl) (by simp) ?_
        refine AllReadyH.cons (o := ⟨some 52, _, _, _, _, _⟩) rfl (fun K hK => ?_) AllReadyH.nil
        go_simp
        with_reducible refine (ag _ (hHeld.2.1.prs (by rw [hMl]; omega))).mono ?_
        rintro e wq ⟨rfl, hb⟩
        go_wp2_with fail
        replace R7 := Lib.hid (by first | exact bblk hb (lt_of_heap R7.out) R7.out | exact bblk_d hb (lt_of_heap R7.out) R7.out)
        refine hK.out _ _ (pl_keep hb hHeld) (fun hHeld2 => ?_)
        clear hK K hHeld hb
        have hHeld := hHeld2
        clear hHeld2
        try simp only [Act.put, List.setIfInBounds_toArray, List.set_cons_zero, List.set_cons_succ]
        refine wpAnyH_take (i := 8) (oi := ⟨some 53, _, _, _, _, _⟩) (v := ?_) rfl (by kernel_rfl) (by kernel_rfl) (by kernel_rfl) (fun _ _ _ h => h) (Or.inl ⟨by rfl, ?_⟩) (by assumption) ?_
        rotate_left 1
        · intro w hSw; (try dsimp only at hSw); go_simp; try (with_reducible rfl)
        try simp only [Act.put, List.setIfInBounds_toArray, List.set_cons_zero, List.set_cons_succ]
        obtain ⟨⟨z0, z1, z2, z3, z4, z5, z6, z7, z8, z9, z10, z11, z12⟩, zf, hzl⟩ := all13 R7.out
        have f0 := zf 0
        have f1 := zf 1
        have f2 := zf 2
        have f3 := zf 3
        have f4 := zf 4
        have f5 := zf 5
        have f6 := zf 6
        have f7 := zf 7
        have f8 := zf 8
        have f9 := zf 9
        have f10 := zf 10
        have f11 := zf 11
        have f12 := zf 12
        clear zf
        refine wpAnyH_ready (rs := [9]) (by kernel_rfl) (by simp) ?_
        refine AllReadyH.cons (o := ⟨none, _, _, _, _, _⟩) rfl (fun K hK => ?_) AllReadyH.nil
        go_simp
        refine hK.out _ _ ?_ (fun hHeld2 => ?_)
        · with_reducible refine pl_set hbx hB0 ?_; with_reducible refine pl_set hbx hB0 ?_; with_reducible refine pl_set hbx hB0 ?_; with_reducible refine pl_set hbx hB0 ?_; with_reducible refine pl_set hbx hB0 ?_; with_reducible refine pl_set hbx hB0 ?_; with_reducible refine pl_set hbx hB0 ?_; with_reducible refine pl_set hbx hB0 ?_; with_reducible refine pl_set hbx hB0 ?_; with_reducible refine pl_set hbx hB0 ?_; with_reducible refine pl_set hbx hB0 ?_; with_reducible refine pl_set hbx hB0 ?_; with_reducible refine pl_set hbx hB0 ?_; with_reducible exact hHeld
        clear hK K hHeld
        have hHeld := hHeld2
        clear hHeld2
        try simp only [Act.put, List.setIfInBounds_toArray, List.set_cons_zero, List.set_cons_succ]
        refine wpAnyH_take (i := 10) (oi := ⟨some 5, _, _, _, _, _⟩) (v := ?_) rfl (by kernel_rfl) (by kernel_rfl) (by kernel_rfl) (fun _ _ _ h => h) (Or.inl ⟨by rfl, ?_⟩) (by assumption) ?_
        rotate_left 1
        · intro w hSw; (try dsimp only at hSw); go_simp; try (with_reducible rfl)
        try simp only [Act.put, List.setIfInBounds_toArray, List.set_cons_zero, List.set_cons_succ]
        refine wpAnyH_done (by kernel_rfl) ?_ _
        try simp only [Act.put, List.setIfInBounds_toArray, List.set_cons_zero, List.set_cons_succ]
        have D9 := Lib.hid hHeld.2
        clear hHeld
        go_wp2_with fail
        refine bodyPost_ret (pl_res _ _ _ _ _ _ _ _ _ _ _ _ _ _ _ _ _ _ rfl rfl (id (put13_at _ _ _ _ _ _ _ _ _ _ _ _ _ R7.out))) rfl ⟨_, by rw [hqt.out]; rfl, by rw [hM.out]; exact D9.out.1.prs (by rw [hMl]; omega), D9.out.2⟩
/-- pollOf, of any answers. -/
theorem ipoll_any (X : En) (u v : Value) (E : List En) (w : World) (hu : Ids w u X.deps) (h : Ens w v E) :
    Calls Tryd.prog 31 #[env X u, v] w fun e w' => ∃ p v' P q, e = .returned (.tuple #[polV p v', .bool q]) ∧ q = answB X E ∧ (E.length < 5 → p = prOf X ∧ P = E.map prOf) ∧ (∀ r, p.g r < 2251799813685248) ∧ (∀ x ∈ P, ∀ r, x.g r < 2251799813685248) ∧ Prs w' v' P ∧ Below w.heap.size w w' := by
  obtain ⟨a, cap, rfl, h1, h2, h3⟩ := h
  by_cases hl : E.length < 5
  · refine (ipoll_at X u a cap E w hu hl ?_).mono ?_
    · rcases h3 with h3 | ⟨b, off, U, rfl, h4⟩
      · exact .inl h3
      · exact .inr ⟨b, off, U, rfl, h4⟩
    · rintro e w' ⟨v, rfl, hP, B⟩
      exact ⟨_, _, _, _, rfl, poll_answ hl, fun _ => ⟨rfl, rfl⟩, setF_lt X.deps, fun x hx => by obtain ⟨y, _, rfl⟩ := List.mem_map.1 hx; exact setF_lt y.deps, hP, B⟩
  · refine (ipoll_long X u a E.length cap w hl h2).mono ?_
    rintro e w' ⟨rfl, B⟩
    exact ⟨⟨(0, 0), 0, 0, 0, 0, 0, fun _ => 0⟩, _, [], false, rfl, (answ_long hl).symm, fun g => absurd g hl, fun _ => by show (0 : Nat) < _; decide, (fun _ hx => nomatch hx), ⟨none, 0, rfl, Nat.le_refl _, by simp, .inl rfl⟩, B⟩
end Go.Proofs.YtfcjhojkfchccaaDoor
