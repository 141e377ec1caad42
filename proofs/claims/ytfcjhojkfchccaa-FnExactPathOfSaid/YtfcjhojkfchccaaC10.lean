/- Texts laid together. -/
import Derived.Test.YtfcjhojkfchccaaC07
import Derived.Test.YtfcjhojkfchccaaC09
import Derived.Test.YtfcjhojkfchccaaC03
import Derived.OwnWalk
/- Values of what proposals have; stores of so many cells, one after the other. -/
namespace Go.Proofs.Ytfcjhojkfchccaa
open Go.RowKit
set_option linter.unusedVariables false

/-- A rank and a set. -/
def atV (r : Int) (g : Nat → Nat) : Value := .agg #[.int .i64 r, .int .u64 (g 0), .int .u64 (g 1), .int .u64 (g 2), .int .u64 (g 3), .int .u64 (g 4)]
/-- A proposal. -/
def prV (a : Pid) (bal k key v r : Int) (g : Nat → Nat) : Value := .agg #[.int .i64 a.1, .int .i64 a.2, .int .i64 bal, .int .i64 k, .int .i64 key, .int .i64 v, .int .i64 r, .int .u64 (g 0), .int .u64 (g 1), .int .u64 (g 2), .int .u64 (g 3), .int .u64 (g 4)]
theorem cell_set {W : World} {b c o o' : Nat} {v : Value} (u : Value) (hn : b ≠ c) (h : W.cell? ⟨b, o, none⟩ = some v) : (W.setCell ⟨c, o', none⟩ u).cell? ⟨b, o, none⟩ = some v :=
  (World.cell?_of_block (a := ⟨b, o, none⟩) (heap_setCell_other W ⟨c, o', none⟩ b u hn)).trans h
theorem bblk_d {w w' : World} {b : Nat} {o : Obj} (hb : Below w.drew.heap.size w.drew w') (hl : b < w.heap.size) (h : w.heap[b]? = some o) : w'.heap[b]? = some o := (hb.block b hl).trans h
theorem put6_at {w : World} {b : Nat} {t : TypeId} {y0 y1 y2 y3 y4 y5 : Value} (x0 x1 x2 x3 x4 x5 : Value) (h : w.heap[b]? = some (.cells #[y0, y1, y2, y3, y4, y5] t (0, 0))) :
    ((((((w.setCell ⟨b, 0, none⟩ x0).setCell ⟨b, 1, none⟩ x1).setCell ⟨b, 2, none⟩ x2).setCell ⟨b, 3, none⟩ x3).setCell ⟨b, 4, none⟩ x4).setCell ⟨b, 5, none⟩ x5).heap[b]? = some (.cells #[x0, x1, x2, x3, x4, x5] t (0, 0)) := by
  have e := heap_setCell_same _ b 5 _ _ x5 (heap_setCell_same _ b 4 _ _ x4 (heap_setCell_same _ b 3 _ _ x3 (heap_setCell_same _ b 2 _ _ x2 (heap_setCell_same _ b 1 _ _ x1 (heap_setCell_same _ b 0 _ _ x0 h)))))
  simp only [List.setIfInBounds_toArray, List.set_cons_zero, List.set_cons_succ] at e
  exact e
theorem put6_other {w : World} {b c : Nat} (x0 x1 x2 x3 x4 x5 : Value) (h : c ≠ b) : ((((((w.setCell ⟨b, 0, none⟩ x0).setCell ⟨b, 1, none⟩ x1).setCell ⟨b, 2, none⟩ x2).setCell ⟨b, 3, none⟩ x3).setCell ⟨b, 4, none⟩ x4).setCell ⟨b, 5, none⟩ x5).heap[c]? = w.heap[c]? := by
  rw [heap_setCell_other _ _ _ _ h, heap_setCell_other _ _ _ _ h, heap_setCell_other _ _ _ _ h, heap_setCell_other _ _ _ _ h, heap_setCell_other _ _ _ _ h, heap_setCell_other _ _ _ _ h]
theorem put6_below {w : World} {b B : Nat} (x0 x1 x2 x3 x4 x5 : Value) (h : B ≤ b) : Below B w ((((((w.setCell ⟨b, 0, none⟩ x0).setCell ⟨b, 1, none⟩ x1).setCell ⟨b, 2, none⟩ x2).setCell ⟨b, 3, none⟩ x3).setCell ⟨b, 4, none⟩ x4).setCell ⟨b, 5, none⟩ x5) :=
  ((((((Below.refl B w).setCell (p := ⟨b, 0, none⟩) h x0).setCell (p := ⟨b, 1, none⟩) h x1).setCell (p := ⟨b, 2, none⟩) h x2).setCell (p := ⟨b, 3, none⟩) h x3).setCell (p := ⟨b, 4, none⟩) h x4).setCell (p := ⟨b, 5, none⟩) h x5
theorem all6 {w : World} {b : Nat} {x0 x1 x2 x3 x4 x5 : Value} {t : TypeId} (h : w.heap[b]? = some (.cells #[x0, x1, x2, x3, x4, x5] t (0, 0))) :
    (w.cell? ⟨b, 0, none⟩ = some x0 ∧ w.cell? ⟨b, 1, none⟩ = some x1 ∧ w.cell? ⟨b, 2, none⟩ = some x2 ∧ w.cell? ⟨b, 3, none⟩ = some x3 ∧ w.cell? ⟨b, 4, none⟩ = some x4 ∧ w.cell? ⟨b, 5, none⟩ = some x5) ∧ (∀ m, w.frozen? ⟨b, m, none⟩ = false) ∧ b < w.heap.size := by
  refine ⟨?_, fun m => by simp [World.frozen?, h], lt_of_heap h⟩
  simp [World.cell?, h]
theorem put12_at {w : World} {b : Nat} {t : TypeId} {y0 y1 y2 y3 y4 y5 y6 y7 y8 y9 y10 y11 : Value} (x0 x1 x2 x3 x4 x5 x6 x7 x8 x9 x10 x11 : Value) (h : w.heap[b]? = some (.cells #[y0, y1, y2, y3, y4, y5, y6, y7, y8, y9, y10, y11] t (0, 0))) :
    ((((((((((((w.setCell ⟨b, 0, none⟩ x0).setCell ⟨b, 1, none⟩ x1).setCell ⟨b, 2, none⟩ x2).setCell ⟨b, 3, none⟩ x3).setCell ⟨b, 4, none⟩ x4).setCell ⟨b, 5, none⟩ x5).setCell ⟨b, 6, none⟩ x6).setCell ⟨b, 7, none⟩ x7).setCell ⟨b, 8, none⟩ x8).setCell ⟨b, 9, none⟩ x9).setCell ⟨b, 10, none⟩ x10).setCell ⟨b, 11, none⟩ x11).heap[b]? = some (.cells #[x0, x1, x2, x3, x4, x5, x6, x7, x8, x9, x10, x11] t (0, 0)) := by
  have e := heap_setCell_same _ b 11 _ _ x11 (heap_setCell_same _ b 10 _ _ x10 (heap_setCell_same _ b 9 _ _ x9 (heap_setCell_same _ b 8 _ _ x8 (heap_setCell_same _ b 7 _ _ x7 (heap_setCell_same _ b 6 _ _ x6 (heap_setCell_same _ b 5 _ _ x5 (heap_setCell_same _ b 4 _ _ x4 (heap_setCell_same _ b 3 _ _ x3 (heap_setCell_same _ b 2 _ _ x2 (heap_setCell_same _ b 1 _ _ x1 (heap_setCell_same _ b 0 _ _ x0 h)))))))))))
  simp only [List.setIfInBounds_toArray, List.set_cons_zero, List.set_cons_succ] at e
  exact e
theorem put12_other {w : World} {b c : Nat} (x0 x1 x2 x3 x4 x5 x6 x7 x8 x9 x10 x11 : Value) (h : c ≠ b) : ((((((((((((w.setCell ⟨b, 0, none⟩ x0).setCell ⟨b, 1, none⟩ x1).setCell ⟨b, 2, none⟩ x2).setCell ⟨b, 3, none⟩ x3).setCell ⟨b, 4, none⟩ x4).setCell ⟨b, 5, none⟩ x5).setCell ⟨b, 6, none⟩ x6).setCell ⟨b, 7, none⟩ x7).setCell ⟨b, 8, none⟩ x8).setCell ⟨b, 9, none⟩ x9).setCell ⟨b, 10, none⟩ x10).setCell ⟨b, 11, none⟩ x11).heap[c]? = w.heap[c]? := by
  rw [heap_setCell_other _ _ _ _ h, heap_setCell_other _ _ _ _ h, heap_setCell_other _ _ _ _ h, heap_setCell_other _ _ _ _ h, heap_setCell_other _ _ _ _ h, heap_setCell_other _ _ _ _ h, heap_setCell_other _ _ _ _ h, heap_setCell_other _ _ _ _ h, heap_setCell_other _ _ _ _ h, heap_setCell_other _ _ _ _ h, heap_setCell_other _ _ _ _ h, heap_setCell_other _ _ _ _ h]
theorem put12_below {w : World} {b B : Nat} (x0 x1 x2 x3 x4 x5 x6 x7 x8 x9 x10 x11 : Value) (h : B ≤ b) : Below B w ((((((((((((w.setCell ⟨b, 0, none⟩ x0).setCell ⟨b, 1, none⟩ x1).setCell ⟨b, 2, none⟩ x2).setCell ⟨b, 3, none⟩ x3).setCell ⟨b, 4, none⟩ x4).setCell ⟨b, 5, none⟩ x5).setCell ⟨b, 6, none⟩ x6).setCell ⟨b, 7, none⟩ x7).setCell ⟨b, 8, none⟩ x8).setCell ⟨b, 9, none⟩ x9).setCell ⟨b, 10, none⟩ x10).setCell ⟨b, 11, none⟩ x11) :=
  ((((((((((((Below.refl B w).setCell (p := ⟨b, 0, none⟩) h x0).setCell (p := ⟨b, 1, none⟩) h x1).setCell (p := ⟨b, 2, none⟩) h x2).setCell (p := ⟨b, 3, none⟩) h x3).setCell (p := ⟨b, 4, none⟩) h x4).setCell (p := ⟨b, 5, none⟩) h x5).setCell (p := ⟨b, 6, none⟩) h x6).setCell (p := ⟨b, 7, none⟩) h x7).setCell (p := ⟨b, 8, none⟩) h x8).setCell (p := ⟨b, 9, none⟩) h x9).setCell (p := ⟨b, 10, none⟩) h x10).setCell (p := ⟨b, 11, none⟩) h x11
theorem all12 {w : World} {b : Nat} {x0 x1 x2 x3 x4 x5 x6 x7 x8 x9 x10 x11 : Value} {t : TypeId} (h : w.heap[b]? = some (.cells #[x0, x1, x2, x3, x4, x5, x6, x7, x8, x9, x10, x11] t (0, 0))) :
    (w.cell? ⟨b, 0, none⟩ = some x0 ∧ w.cell? ⟨b, 1, none⟩ = some x1 ∧ w.cell? ⟨b, 2, none⟩ = some x2 ∧ w.cell? ⟨b, 3, none⟩ = some x3 ∧ w.cell? ⟨b, 4, none⟩ = some x4 ∧ w.cell? ⟨b, 5, none⟩ = some x5 ∧ w.cell? ⟨b, 6, none⟩ = some x6 ∧ w.cell? ⟨b, 7, none⟩ = some x7 ∧ w.cell? ⟨b, 8, none⟩ = some x8 ∧ w.cell? ⟨b, 9, none⟩ = some x9 ∧ w.cell? ⟨b, 10, none⟩ = some x10 ∧ w.cell? ⟨b, 11, none⟩ = some x11) ∧ (∀ m, w.frozen? ⟨b, m, none⟩ = false) ∧ b < w.heap.size := by
  refine ⟨?_, fun m => by simp [World.frozen?, h], lt_of_heap h⟩
  simp [World.cell?, h]
end Go.Proofs.Ytfcjhojkfchccaa

/- Proposals: their offers and their subjects, compared; rows of them. -/
namespace Go.Proofs.Ytfcjhojkfchccaa
open Go.RowKit
set_option linter.unusedVariables false
set_option maxRecDepth 100000

/-- What a proposal is about. -/
def sbV (a : Pid) (k key v : Int) : Value := .agg #[.int .i64 a.1, .int .i64 a.2, .int .i64 k, .int .i64 key, .int .i64 v]
theorem ne_sb (p q k key v p' q' k' key' v' : Int) (w : World) : (binOp .neq 88 (.agg #[.int .i64 p, .int .i64 q, .int .i64 k, .int .i64 key, .int .i64 v]) (.agg #[.int .i64 p', .int .i64 q', .int .i64 k', .int .i64 key', .int .i64 v'])).run Try.prog w = .ok (.bool (!decide (p = p' ∧ q = q' ∧ k = k' ∧ key = key' ∧ v = v'))) w := by
  by_cases h1 : p = p'
  · subst h1
    by_cases h2 : q = q'
    · subst h2
      by_cases h3 : k = k'
      · subst h3
        by_cases h4 : key = key'
        · subst h4
          by_cases h5 : v = v'
          · subst h5; simp [go_sem]
          · simp [go_sem, h5]
        · simp [go_sem, h4]
      · simp [go_sem, h3]
    · simp [go_sem, h2]
  · simp [go_sem, h1]
theorem eqIn_set (x0 x1 x2 x3 x4 y0 y1 y2 y3 y4 : Int) (w : World) : (Op.equalIn 9999 55 (.agg #[.int .u64 x0, .int .u64 x1, .int .u64 x2, .int .u64 x3, .int .u64 x4]) (.agg #[.int .u64 y0, .int .u64 y1, .int .u64 y2, .int .u64 y3, .int .u64 y4])).run Try.prog w = .ok (decide (x0 = y0 ∧ x1 = y1 ∧ x2 = y2 ∧ x3 = y3 ∧ x4 = y4)) w := by
  have hp : ∀ (cs : Array Value) (k : Nat) (v : Value), cs[k]? = some v → (part 53 cs k).run Try.prog w = .ok v w := by
    intro cs k v h
    have ha : (isAgg 53).run Try.prog w = .ok false w := by kernel_rfl
    simp [part, ha, h]
  have hs : (sizeOf 53).run Try.prog w = .ok 1 w := by kernel_rfl
  have hu : (underlying 55).run Try.prog w = .ok (.array 5 53) w := by kernel_rfl
  have he : ∀ a b : Int, (Op.equalIn 9998 53 (.int .u64 a) (.int .u64 b)).run Try.prog w = .ok (a == b) w := fun a b => run_equalIn_int _ _ _ _ .u64 _ _ Try.underlying53
  rw [show (9999:Nat) = 9998+1 from rfl, Op.equalIn]
  simp [hu, hs, hp, he, Std.Legacy.Range.forIn_eq_forIn_range', Std.Legacy.Range.size, List.range'_succ, List.range'_zero, List.forIn_cons, List.forIn_nil]
  by_cases h0 : x0 = y0 <;> by_cases h1 : x1 = y1 <;> by_cases h2 : x2 = y2 <;> by_cases h3 : x3 = y3 <;> by_cases h4 : x4 = y4 <;> simp [h0, h1, h2, h3, h4]
theorem ne_at (r f0 f1 f2 f3 f4 r' f0' f1' f2' f3' f4' : Int) (w : World) : (binOp .neq 57 (.agg #[.int .i64 r, .int .u64 f0, .int .u64 f1, .int .u64 f2, .int .u64 f3, .int .u64 f4]) (.agg #[.int .i64 r', .int .u64 f0', .int .u64 f1', .int .u64 f2', .int .u64 f3', .int .u64 f4'])).run Try.prog w = .ok (.bool (!decide (r = r' ∧ f0 = f0' ∧ f1 = f1' ∧ f2 = f2' ∧ f3 = f3' ∧ f4 = f4'))) w := by
  have e := eqIn_set f0 f1 f2 f3 f4 f0' f1' f2' f3' f4' w
  by_cases h : r = r'
  · subst h
    simp only [true_and]
    generalize decide (f0 = f0' ∧ f1 = f1' ∧ f2 = f2' ∧ f3 = f3' ∧ f4 = f4') = q at e ⊢
    cases q <;> simp [go_sem, e]
  · simp [go_sem, h]
theorem at_resOf (tm : Array Value) (w : World) (b : Nat) (x0 x1 x2 x3 x4 x5 : Value) (t : TypeId) (h2 : tm[2]? = some (.pointer (some ⟨b, 0, none⟩))) (h : w.heap[b]? = some (.cells #[x0, x1, x2, x3, x4, x5] t (0, 0))) :
    (results Try.f23 tm).run Try.prog w = .ok (.agg #[x0, x1, x2, x3, x4, x5]) w := by
  obtain ⟨⟨t0, t1, t2, t3, t4, t5⟩, _, _⟩ := all6 h
  simp [results, Try.results23, go_sem, h2, t0, t1, t2, t3, t4, t5]
set_option maxHeartbeats 4000000 in
theorem ioffer_any (a : Pid) (bal k key v r : Int) (g : Nat → Nat) (w : World) :
    Calls Try.prog 23 #[prV a bal k key v r g] w fun e w' => e = .returned (atV r g) ∧ Below w.heap.size w w' := by
  unfold prV atV
  have A := (Below.heap_alloc _ (.cells #[.int .i64 0, .int .u64 0, .int .u64 0, .int .u64 0, .int .u64 0, .int .u64 0] 57) _ (by simp)).trans (heap_alloc_new w (.cells #[.int .i64 a.1, .int .i64 a.2, .int .i64 bal, .int .i64 k, .int .i64 key, .int .i64 v, .int .i64 r, .int .u64 (g 0), .int .u64 (g 1), .int .u64 (g 2), .int .u64 (g 3), .int .u64 (g 4)] 59))
  have R := heap_alloc_at (w.alloc (.cells #[.int .i64 a.1, .int .i64 a.2, .int .i64 bal, .int .i64 k, .int .i64 key, .int .i64 v, .int .i64 r, .int .u64 (g 0), .int .u64 (g 1), .int .u64 (g 2), .int .u64 (g 3), .int .u64 (g 4)] 59)) (.cells #[.int .i64 0, .int .u64 0, .int .u64 0, .int .u64 0, .int .u64 0, .int .u64 0] 57) (w.heap.size + 1) (by simp)
  have D := Lib.hid (((Below.refl w.heap.size w).alloc (Nat.le_refl _) (.cells #[.int .i64 a.1, .int .i64 a.2, .int .i64 bal, .int .i64 k, .int .i64 key, .int .i64 v, .int .i64 r, .int .u64 (g 0), .int .u64 (g 1), .int .u64 (g 2), .int .u64 (g 3), .int .u64 (g 4)] 59)).alloc (by simp) (.cells #[.int .i64 0, .int .u64 0, .int .u64 0, .int .u64 0, .int .u64 0, .int .u64 0] 57))
  go_enter Try.func23, Try.ntmps23
  go_upto_region 1 with fail
  generalize (w.alloc (.cells #[.int .i64 a.1, .int .i64 a.2, .int .i64 bal, .int .i64 k, .int .i64 key, .int .i64 v, .int .i64 r, .int .u64 (g 0), .int .u64 (g 1), .int .u64 (g 2), .int .u64 (g 3), .int .u64 (g 4)] 59)).alloc (.cells #[.int .i64 0, .int .u64 0, .int .u64 0, .int .u64 0, .int .u64 0, .int .u64 0] 57) = w1 at A R D ⊢
  obtain ⟨⟨c0, c1, c2, c3, c4, c5, c6, c7, c8, c9, c10, c11⟩, _, cl⟩ := all12 A
  obtain ⟨⟨z0, z1, z2, z3, z4, z5⟩, zf, zl⟩ := all6 R
  have f0 := zf 0
  have f1 := zf 1
  have f2 := zf 2
  have f3 := zf 3
  have f4 := zf 4
  have f5 := zf 5
  have R := Lib.hid R
  clear A zf
  go_wp2_with fail
  exact bodyPost_ret (at_resOf _ _ _ _ _ _ _ _ _ _ rfl (put6_at _ _ _ _ _ _ R.out)) rfl ⟨rfl, D.out.trans (put6_below _ _ _ _ _ _ (Nat.le_succ _))⟩
theorem put5_at {w : World} {b : Nat} {t : TypeId} {y0 y1 y2 y3 y4 : Value} (x0 x1 x2 x3 x4 : Value) (h : w.heap[b]? = some (.cells #[y0, y1, y2, y3, y4] t (0, 0))) :
    (((((w.setCell ⟨b, 0, none⟩ x0).setCell ⟨b, 1, none⟩ x1).setCell ⟨b, 2, none⟩ x2).setCell ⟨b, 3, none⟩ x3).setCell ⟨b, 4, none⟩ x4).heap[b]? = some (.cells #[x0, x1, x2, x3, x4] t (0, 0)) := by
  have e := heap_setCell_same _ b 4 _ _ x4 (heap_setCell_same _ b 3 _ _ x3 (heap_setCell_same _ b 2 _ _ x2 (heap_setCell_same _ b 1 _ _ x1 (heap_setCell_same _ b 0 _ _ x0 h))))
  simp only [List.setIfInBounds_toArray, List.set_cons_zero, List.set_cons_succ] at e
  exact e
theorem put5_below {w : World} {b B : Nat} (x0 x1 x2 x3 x4 : Value) (h : B ≤ b) : Below B w (((((w.setCell ⟨b, 0, none⟩ x0).setCell ⟨b, 1, none⟩ x1).setCell ⟨b, 2, none⟩ x2).setCell ⟨b, 3, none⟩ x3).setCell ⟨b, 4, none⟩ x4) :=
  ((((Below.refl B w).setCell (p := ⟨b, 0, none⟩) h x0).setCell (p := ⟨b, 1, none⟩) h x1).setCell (p := ⟨b, 2, none⟩) h x2).setCell (p := ⟨b, 3, none⟩) h x3 |>.setCell (p := ⟨b, 4, none⟩) h x4
theorem all5 {w : World} {b : Nat} {x0 x1 x2 x3 x4 : Value} {t : TypeId} (h : w.heap[b]? = some (.cells #[x0, x1, x2, x3, x4] t (0, 0))) :
    (w.cell? ⟨b, 0, none⟩ = some x0 ∧ w.cell? ⟨b, 1, none⟩ = some x1 ∧ w.cell? ⟨b, 2, none⟩ = some x2 ∧ w.cell? ⟨b, 3, none⟩ = some x3 ∧ w.cell? ⟨b, 4, none⟩ = some x4) ∧ (∀ m, w.frozen? ⟨b, m, none⟩ = false) ∧ b < w.heap.size := by
  refine ⟨?_, fun m => by simp [World.frozen?, h], lt_of_heap h⟩
  simp [World.cell?, h]
theorem sb_resAb (tm : Array Value) (w : World) (b : Nat) (x0 x1 x2 x3 x4 : Value) (t : TypeId) (h2 : tm[2]? = some (.pointer (some ⟨b, 0, none⟩))) (h : w.heap[b]? = some (.cells #[x0, x1, x2, x3, x4] t (0, 0))) :
    (results Try.f41 tm).run Try.prog w = .ok (.agg #[x0, x1, x2, x3, x4]) w := by
  obtain ⟨⟨t0, t1, t2, t3, t4⟩, _, _⟩ := all5 h
  simp [results, Try.results41, go_sem, h2, t0, t1, t2, t3, t4]
set_option maxHeartbeats 4000000 in
theorem iabout_any (a : Pid) (bal k key v r : Int) (g : Nat → Nat) (w : World) :
    Calls Try.prog 41 #[prV a bal k key v r g] w fun e w' => e = .returned (sbV a k key v) ∧ Below w.heap.size w w' := by
  unfold prV sbV
  have A := (Below.heap_alloc _ (.cells #[.int .i64 0, .int .i64 0, .int .i64 0, .int .i64 0, .int .i64 0] 88) _ (by simp)).trans (heap_alloc_new w (.cells #[.int .i64 a.1, .int .i64 a.2, .int .i64 bal, .int .i64 k, .int .i64 key, .int .i64 v, .int .i64 r, .int .u64 (g 0), .int .u64 (g 1), .int .u64 (g 2), .int .u64 (g 3), .int .u64 (g 4)] 59))
  have R := heap_alloc_at (w.alloc (.cells #[.int .i64 a.1, .int .i64 a.2, .int .i64 bal, .int .i64 k, .int .i64 key, .int .i64 v, .int .i64 r, .int .u64 (g 0), .int .u64 (g 1), .int .u64 (g 2), .int .u64 (g 3), .int .u64 (g 4)] 59)) (.cells #[.int .i64 0, .int .i64 0, .int .i64 0, .int .i64 0, .int .i64 0] 88) (w.heap.size + 1) (by simp)
  have D := Lib.hid (((Below.refl w.heap.size w).alloc (Nat.le_refl _) (.cells #[.int .i64 a.1, .int .i64 a.2, .int .i64 bal, .int .i64 k, .int .i64 key, .int .i64 v, .int .i64 r, .int .u64 (g 0), .int .u64 (g 1), .int .u64 (g 2), .int .u64 (g 3), .int .u64 (g 4)] 59)).alloc (by simp) (.cells #[.int .i64 0, .int .i64 0, .int .i64 0, .int .i64 0, .int .i64 0] 88))
  go_enter Try.func41, Try.ntmps41
  go_upto_region 1 with fail
  generalize (w.alloc (.cells #[.int .i64 a.1, .int .i64 a.2, .int .i64 bal, .int .i64 k, .int .i64 key, .int .i64 v, .int .i64 r, .int .u64 (g 0), .int .u64 (g 1), .int .u64 (g 2), .int .u64 (g 3), .int .u64 (g 4)] 59)).alloc (.cells #[.int .i64 0, .int .i64 0, .int .i64 0, .int .i64 0, .int .i64 0] 88) = w1 at A R D ⊢
  obtain ⟨⟨c0, c1, c2, c3, c4, c5, c6, c7, c8, c9, c10, c11⟩, _, cl⟩ := all12 A
  obtain ⟨⟨z0, z1, z2, z3, z4⟩, zf, zl⟩ := all5 R
  have f0 := zf 0
  have f1 := zf 1
  have f2 := zf 2
  have f3 := zf 3
  have f4 := zf 4
  have R := Lib.hid R
  clear A zf
  go_wp2_with fail
  exact bodyPost_ret (sb_resAb _ _ _ _ _ _ _ _ _ rfl (put5_at _ _ _ _ _ R.out)) rfl ⟨rfl, D.out.trans (put5_below _ _ _ _ _ (Nat.le_succ _))⟩
end Go.Proofs.Ytfcjhojkfchccaa

/- Proposals in memory, and rows of them. -/
namespace Go.Proofs.Ytfcjhojkfchccaa
open Go.RowKit
set_option linter.unusedVariables false

/-- A proposal. -/
structure Pr where
  id : Pid
  bal : Int
  k : Int
  key : Int
  v : Int
  r : Int
  g : Nat → Nat
def pr0 : Pr := ⟨nop, 0, 0, 0, 0, 0, fun _ => 0⟩
def Pr.val (p : Pr) : Value := prV p.id p.bal p.k p.key p.v p.r p.g
/-- The offers of two are the same. -/
def ofS (p q : Pr) : Bool := decide (p.r = q.r ∧ (p.g 0 : Int) = (q.g 0 : Int) ∧ (p.g 1 : Int) = (q.g 1 : Int) ∧ (p.g 2 : Int) = (q.g 2 : Int) ∧ (p.g 3 : Int) = (q.g 3 : Int) ∧ (p.g 4 : Int) = (q.g 4 : Int))
/-- The subjects of two are the same. -/
def sbS (p q : Pr) : Bool := decide (p.id.1 = q.id.1 ∧ p.id.2 = q.id.2 ∧ p.k = q.k ∧ p.key = q.key ∧ p.v = q.v)
/-- A proposal in memory, from a cell on. -/
structure PrAt (w : World) (b o : Nat) (p : Pr) : Prop where
  c0 : w.cell? ⟨b, o, none⟩ = some (.int .i64 p.id.1)
  c1 : w.cell? ⟨b, o + 1, none⟩ = some (.int .i64 p.id.2)
  c2 : w.cell? ⟨b, o + 2, none⟩ = some (.int .i64 p.bal)
  c3 : w.cell? ⟨b, o + 3, none⟩ = some (.int .i64 p.k)
  c4 : w.cell? ⟨b, o + 4, none⟩ = some (.int .i64 p.key)
  c5 : w.cell? ⟨b, o + 5, none⟩ = some (.int .i64 p.v)
  c6 : w.cell? ⟨b, o + 6, none⟩ = some (.int .i64 p.r)
  c7 : w.cell? ⟨b, o + 7, none⟩ = some (.int .u64 (p.g 0))
  c8 : w.cell? ⟨b, o + 8, none⟩ = some (.int .u64 (p.g 1))
  c9 : w.cell? ⟨b, o + 9, none⟩ = some (.int .u64 (p.g 2))
  c10 : w.cell? ⟨b, o + 10, none⟩ = some (.int .u64 (p.g 3))
  c11 : w.cell? ⟨b, o + 11, none⟩ = some (.int .u64 (p.g 4))
theorem PrAt.up {w w' : World} {b o B : Nat} {p : Pr} (h : PrAt w b o p) (hb : Below B w w') (hl : b < B) : PrAt w' b o p := by
  have hc : ∀ o, w'.cell? ⟨b, o, none⟩ = w.cell? ⟨b, o, none⟩ := fun o => hb.cell (p := ⟨b, o, none⟩) hl
  exact ⟨by rw [hc]; exact h.c0, by rw [hc]; exact h.c1, by rw [hc]; exact h.c2, by rw [hc]; exact h.c3, by rw [hc]; exact h.c4, by rw [hc]; exact h.c5, by rw [hc]; exact h.c6, by rw [hc]; exact h.c7, by rw [hc]; exact h.c8, by rw [hc]; exact h.c9, by rw [hc]; exact h.c10, by rw [hc]; exact h.c11⟩
/-- A slice of proposals, readable. -/
structure PrsAt (w : World) (b off : Nat) (P : List Pr) : Prop where
  lt : b < w.heap.size
  at_ : ∀ i, i < P.length → PrAt w b (off + i * 12) (P.getD i pr0)
theorem PrsAt.up {w w' : World} {b off B : Nat} {P : List Pr} (h : PrsAt w b off P) (hb : Below B w w') (hB : w.heap.size ≤ B) : PrsAt w' b off P :=
  ⟨Nat.lt_of_lt_of_le h.lt hb.size, fun i hi => (h.at_ i hi).up hb (Nat.lt_of_lt_of_le h.lt hB)⟩
def Prs (w : World) (v : Value) (P : List Pr) : Prop :=
  ∃ a cap, v = .slice a P.length cap ∧ P.length ≤ cap ∧ P.length ≤ 2000000 ∧ (P.length = 0 ∨ ∃ b off, a = some ⟨b, off, none⟩ ∧ PrsAt w b off P)
theorem Prs.up {w w' : World} {B : Nat} {v : Value} {P : List Pr} (h : Prs w v P) (hb : Below B w w') (hB : w.heap.size ≤ B) : Prs w' v P := by
  obtain ⟨a, cap, rfl, h1, h2, h3⟩ := h
  refine ⟨a, cap, rfl, h1, h2, ?_⟩
  rcases h3 with h3 | ⟨b, off, rfl, h4⟩
  · exact .inl h3
  · exact .inr ⟨b, off, rfl, h4.up hb hB⟩
/-- All of a list are such. -/
theorem all_first {P : List Pr} {f : Pr → Bool} (h : ∀ j, j < P.length → f (P.getD j pr0) = true) : P.all f = true := by
  rw [List.all_eq_true]
  intro x hx
  obtain ⟨k, hk, e⟩ := List.getElem_of_mem hx
  have := h k hk
  rw [List.getD_eq_getElem?_getD, List.getElem?_eq_getElem hk] at this
  exact e ▸ this
theorem all_fails {P : List Pr} {f : Pr → Bool} {k : Nat} (hk : k < P.length) (h : f (P.getD k pr0) = false) : P.all f = false := by
  rw [List.all_eq_false]
  rw [List.getD_eq_getElem?_getD, List.getElem?_eq_getElem hk] at h
  exact ⟨_, List.getElem_mem hk, by simpa using h⟩
end Go.Proofs.Ytfcjhojkfchccaa

/- The size of a poll. -/
namespace Go.Proofs.Ytfcjhojkfchccaa
open Go.RowKit
set_option linter.unusedVariables false

/-- A poll as a value: the own proposal and the slice of the others'. -/
def polV (p : Pr) (u : Value) : Value := .agg #[.int .i64 p.id.1, .int .i64 p.id.2, .int .i64 p.bal, .int .i64 p.k, .int .i64 p.key, .int .i64 p.v, .int .i64 p.r, .int .u64 (p.g 0), .int .u64 (p.g 1), .int .u64 (p.g 2), .int .u64 (p.g 3), .int .u64 (p.g 4), u]

set_option maxRecDepth 100000 in
theorem ipsize_any (p : Pr) (a : Option Addr) (n c : Nat) (w : World) (hn : n ≤ 2000000) :
    Calls Try.prog 20 #[polV p (.slice a n c)] w fun e w' => e = .returned (.int .i64 (1 + n)) ∧ Below w.heap.size w w' := by
  unfold polV
  have D := Lib.hid (Below.alloc (Below.refl w.heap.size w) (Nat.le_refl _) (.cells #[.int .i64 p.id.1, .int .i64 p.id.2, .int .i64 p.bal, .int .i64 p.k, .int .i64 p.key, .int .i64 p.v, .int .i64 p.r, .int .u64 (p.g 0), .int .u64 (p.g 1), .int .u64 (p.g 2), .int .u64 (p.g 3), .int .u64 (p.g 4), .slice a n c] 62))
  go_enter Try.func20, Try.ntmps20
  go_wp2_with fail
  go_ret
  exact ⟨rfl, D.out⟩
end Go.Proofs.Ytfcjhojkfchccaa

/- Rows of proposals that are being built. -/
namespace Go.Proofs.Ytfcjhojkfchccaa
open Go.RowKit
set_option linter.unusedVariables false

/-- The cells of a proposal. -/
def pcell (p : Pr) : List Value := [.int .i64 p.id.1, .int .i64 p.id.2, .int .i64 p.bal, .int .i64 p.k, .int .i64 p.key, .int .i64 p.v, .int .i64 p.r, .int .u64 (p.g 0), .int .u64 (p.g 1), .int .u64 (p.g 2), .int .u64 (p.g 3), .int .u64 (p.g 4)]
def flatR : List Pr → List Value
  | [] => []
  | x :: r => pcell x ++ flatR r
theorem pcell_len (x : Pr) : (pcell x).length = 12 := rfl
theorem flatR_app : ∀ (A B : List Pr), flatR (A ++ B) = flatR A ++ flatR B
  | [], B => rfl
  | c :: r, B => by simp [flatR, flatR_app r B]
theorem flatR_len : ∀ L : List Pr, (flatR L).length = L.length * 12
  | [] => rfl
  | c :: r => by simp [flatR, pcell_len, flatR_len r]; omega
theorem flatR_get : ∀ (L : List Pr) (i j : Nat), i < L.length → j < 12 → (flatR L)[i * 12 + j]? = (pcell (L.getD i pr0))[j]?
  | [], i, j, h, _ => absurd h (by simp)
  | x :: r, 0, j, _, hj => by
    rw [flatR, Nat.zero_mul, Nat.zero_add, List.getElem?_append_left (by rw [pcell_len]; exact hj)]; rfl
  | x :: r, i + 1, j, h, hj => by
    have ih := flatR_get r i j (by simpa using h) hj
    rw [flatR, List.getElem?_append_right (by rw [pcell_len]; omega)]
    have e : (i + 1) * 12 + j - (pcell x).length = i * 12 + j := by rw [pcell_len]; omega
    rw [e, ih]; rfl

/-- A slice of proposals that is being built. -/
structure RPr (w : World) (B : Nat) (v : Value) (L : List Pr) : Prop where
  row : w.ownsRow B 59 12 v L.length (flatR L)
  nn : v ≠ .slice none 0 0
section
variable {w w' : World} {B : Nat} {v : Value} {L : List Pr}
theorem RPr.lt (h : RPr w B v L) {k : Nat} (hk : v.ownBlock = some k) : B ≤ k ∧ k < w.heap.size := by
  rcases h.row.2 with ⟨rfl, _⟩ | ⟨g, cap, cur, rfl, hb, hg, _⟩
  · exact absurd rfl h.nn
  · simp [Value.ownBlock] at hk; subst hk; exact ⟨hb, lt_of_heap hg⟩
theorem RPr.same (h : RPr w B v L) (hk : ∀ b, B ≤ b → b < w.heap.size → w'.heap[b]? = w.heap[b]?) : RPr w' B v L := by
  refine ⟨⟨h.row.1, ?_⟩, h.nn⟩
  rcases h.row.2 with hn | ⟨g, cap, cur, rfl, hb, hg, rest⟩
  · exact .inl hn
  · exact .inr ⟨g, cap, cur, rfl, hb, (hk g hb (lt_of_heap hg)).trans hg, rest⟩
theorem RPr.up (h : RPr w B v L) (hb : Below w.heap.size w w') : RPr w' B v L := h.same fun b _ hl => hb.block b hl
theorem RPr.put (h : RPr w B v L) {v' : Value} {x : Pr} (hown : w'.ownsRow B 59 12 v' (L.length + 1) (flatR L ++ pcell x)) (hn : v' ≠ .slice none 0 0) : RPr w' B v' (L ++ [x]) :=
  ⟨by rw [flatR_app, List.length_append]; simpa [flatR] using hown, hn⟩
theorem RPr.grown (h : RPr w B v L) {o : Obj} (hg : (w.alloc o).grownBy w' (Value.ownBlock v)) (hB : B ≤ w.heap.size) : Below B w w' := by
  have a := (Below.refl B w).alloc hB o
  exact a.trans ⟨hg.os, hg.tape, hg.output, hg.size, fun k hk => hg.block k (by have := a.size; omega) (fun e => absurd (h.lt e.symm).1 (by omega))⟩
/-- It can be read. -/
theorem RPr.prs (h : RPr w B v L) (hl : L.length ≤ 2000000) : Prs w v L := by
  rcases h.row.2 with ⟨rfl, _⟩ | ⟨g, cap, cur, rfl, hb, hg, hc, hm, hs, ht⟩
  · exact absurd rfl h.nn
  · refine ⟨_, cap, rfl, hc, hl, .inr ⟨g, 0, rfl, lt_of_heap hg, fun i hi => ?_⟩⟩
    have hk : ∀ j, j < 12 → cur[i * 12 + j]? = (pcell (L.getD i pr0))[j]? := fun j hj => by
      rw [← flatR_get L i j hi hj, ← ht, List.getElem?_take, if_pos (by omega)]; simp
    have hc : ∀ o, w.cell? ⟨g, o, none⟩ = cur[o]? := fun o => by rw [cell_of_cells hg]
    rw [Nat.zero_add]
    exact ⟨by rw [hc]; exact hk 0 (by omega), by rw [hc]; exact hk 1 (by omega), by rw [hc]; exact hk 2 (by omega), by rw [hc]; exact hk 3 (by omega), by rw [hc]; exact hk 4 (by omega), by rw [hc]; exact hk 5 (by omega), by rw [hc]; exact hk 6 (by omega), by rw [hc]; exact hk 7 (by omega), by rw [hc]; exact hk 8 (by omega), by rw [hc]; exact hk 9 (by omega), by rw [hc]; exact hk 10 (by omega), by rw [hc]; exact hk 11 (by omega)⟩
end
end Go.Proofs.Ytfcjhojkfchccaa

/- A slice of proposals made with a capacity. -/
namespace Go.Proofs.Ytfcjhojkfchccaa
open Go.RowKit
set_option linter.unusedVariables false
set_option maxRecDepth 100000

theorem info_pr : (Try.prog.info? 59).map (fun i => (i.zero, i.size, i.bytes)) = some (some (.agg #[.int .i64 0, .int .i64 0, .int .i64 0, .int .i64 0, .int .i64 0, .int .i64 0, .int .i64 0, .int .u64 0, .int .u64 0, .int .u64 0, .int .u64 0, .int .u64 0]), 12, 96) := by kernel_rfl
theorem make_capR (n : Nat) (hn : n ≤ 2000000) (w : World) : (Instr.makeSlice 60 (.int .i64 0) (.int .i64 n)).run Try.prog w = .ok (.slice (some ⟨w.heap.size, 0, none⟩) 0 n) (w.alloc (.cells (madeCells #[.int .i64 0, .int .i64 0, .int .i64 0, .int .i64 0, .int .i64 0, .int .i64 0, .int .i64 0, .int .u64 0, .int .u64 0, .int .u64 0, .int .u64 0, .int .u64 0] (n * 12)) 59)) := by
  obtain ⟨i, hi, hz, hs, hb⟩ := info_parts info_pr
  have hr := run_make (P := Try.prog) w 60 59 i _ Try.underlying60 hi hz .i64 .i64 0 n (by omega) (by omega) (by rw [hb]; omega) (by omega)
  simp only [Int.toNat_natCast, hs] at hr
  exact hr
theorem rpr_cap (w : World) (n B : Nat) (hB : B ≤ w.heap.size) (hn : n ≤ 2000000) : RPr (w.alloc (.cells (madeCells #[.int .i64 0, .int .i64 0, .int .i64 0, .int .i64 0, .int .i64 0, .int .i64 0, .int .i64 0, .int .u64 0, .int .u64 0, .int .u64 0, .int .u64 0, .int .u64 0] (n * 12)) 59)) B (.slice (some ⟨w.heap.size, 0, none⟩) 0 n) [] :=
  ⟨World.ownsRow_made _ _ n hB (by unfold maxLen; omega) (by simp [madeCells]), by simp⟩
end Go.Proofs.Ytfcjhojkfchccaa
