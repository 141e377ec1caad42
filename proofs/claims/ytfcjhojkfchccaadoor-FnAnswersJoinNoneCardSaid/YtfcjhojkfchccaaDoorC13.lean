/- Texts laid together. -/
import Derived.Test.YtfcjhojkfchccaaDoorC09
import Derived.Test.YtfcjhojkfchccaaDoorC04
import Derived.OwnWalk
import Derived.Test.YtfcjhojkfchccaaDoorC19
import Derived.Test.YtfcjhojkfchccaaDoorC15
/- Proposals: their offers and their subjects, compared; rows of them. -/
namespace Go.Proofs.YtfcjhojkfchccaaDoor
open Go.RowKit
set_option linter.unusedVariables false
set_option maxRecDepth 100000

/-- What a proposal is about. -/
def sbV (a : Pid) (k key v : Int) : Value := .agg #[.int .i64 a.1, .int .i64 a.2, .int .i64 k, .int .i64 key, .int .i64 v]
theorem ne_sb (p q k key v p' q' k' key' v' : Int) (w : World) : (binOp .neq 103 (.agg #[.int .i64 p, .int .i64 q, .int .i64 k, .int .i64 key, .int .i64 v]) (.agg #[.int .i64 p', .int .i64 q', .int .i64 k', .int .i64 key', .int .i64 v'])).run Tryd.prog w = .ok (.bool (!decide (p = p' ∧ q = q' ∧ k = k' ∧ key = key' ∧ v = v'))) w := by
  by_cases h1 : p = p'
  · subst h1
    by_cases h2 : q = q'
    · subst h2
      by_cases h3 : k = k'
      · subst h3
        by_cases h4 : key = key'
        · subst h4
          by_cases h5 : v = v'
          · subst h5; simp [go_sem]
          · simp [go_sem, h5]
        · simp [go_sem, h4]
      · simp [go_sem, h3]
    · simp [go_sem, h2]
  · simp [go_sem, h1]
theorem eqIn_set (x0 x1 x2 x3 x4 y0 y1 y2 y3 y4 : Int) (w : World) : (Op.equalIn 9999 63 (.agg #[.int .u64 x0, .int .u64 x1, .int .u64 x2, .int .u64 x3, .int .u64 x4]) (.agg #[.int .u64 y0, .int .u64 y1, .int .u64 y2, .int .u64 y3, .int .u64 y4])).run Tryd.prog w = .ok (decide (x0 = y0 ∧ x1 = y1 ∧ x2 = y2 ∧ x3 = y3 ∧ x4 = y4)) w := by
  have hp : ∀ (cs : Array Value) (k : Nat) (v : Value), cs[k]? = some v → (part 61 cs k).run Tryd.prog w = .ok v w := by
    intro cs k v h
    have ha : (isAgg 61).run Tryd.prog w = .ok false w := by kernel_rfl
    simp [part, ha, h]
  have hs : (sizeOf 61).run Tryd.prog w = .ok 1 w := by kernel_rfl
  have hu : (underlying 63).run Tryd.prog w = .ok (.array 5 61) w := by kernel_rfl
  have he : ∀ a b : Int, (Op.equalIn 9998 61 (.int .u64 a) (.int .u64 b)).run Tryd.prog w = .ok (a == b) w := fun a b => run_equalIn_int _ _ _ _ .u64 _ _ Tryd.underlying61
  rw [show (9999:Nat) = 9998+1 from rfl, Op.equalIn]
  simp [hu, hs, hp, he, Std.Legacy.Range.forIn_eq_forIn_range', Std.Legacy.Range.size, List.range'_succ, List.range'_zero, List.forIn_cons, List.forIn_nil]
  by_cases h0 : x0 = y0 <;> by_cases h1 : x1 = y1 <;> by_cases h2 : x2 = y2 <;> by_cases h3 : x3 = y3 <;> by_cases h4 : x4 = y4 <;> simp [h0, h1, h2, h3, h4]
theorem ne_at (r f0 f1 f2 f3 f4 r' f0' f1' f2' f3' f4' : Int) (w : World) : (binOp .neq 65 (.agg #[.int .i64 r, .int .u64 f0, .int .u64 f1, .int .u64 f2, .int .u64 f3, .int .u64 f4]) (.agg #[.int .i64 r', .int .u64 f0', .int .u64 f1', .int .u64 f2', .int .u64 f3', .int .u64 f4'])).run Tryd.prog w = .ok (.bool (!decide (r = r' ∧ f0 = f0' ∧ f1 = f1' ∧ f2 = f2' ∧ f3 = f3' ∧ f4 = f4'))) w := by
  have e := eqIn_set f0 f1 f2 f3 f4 f0' f1' f2' f3' f4' w
  by_cases h : r = r'
  · subst h
    simp only [true_and]
    generalize decide (f0 = f0' ∧ f1 = f1' ∧ f2 = f2' ∧ f3 = f3' ∧ f4 = f4') = q at e ⊢
    cases q <;> simp [go_sem, e]
  · simp [go_sem, h]
theorem at_resOf (tm : Array Value) (w : World) (b : Nat) (x0 x1 x2 x3 x4 x5 : Value) (t : TypeId) (h2 : tm[2]? = some (.pointer (some ⟨b, 0, none⟩))) (h : w.heap[b]? = some (.cells #[x0, x1, x2, x3, x4, x5] t (0, 0))) :
    (results Tryd.f45 tm).run Tryd.prog w = .ok (.agg #[x0, x1, x2, x3, x4, x5]) w := by
  obtain ⟨⟨t0, t1, t2, t3, t4, t5⟩, _, _⟩ := all6 h
  simp [results, Tryd.results45, go_sem, h2, t0, t1, t2, t3, t4, t5]
set_option maxHeartbeats 4000000 in
theorem ioffer_any (a : Pid) (bal k key v r : Int) (g : Nat → Nat) (w : World) :
    Calls Tryd.prog 45 #[prV a bal k key v r g] w fun e w' => e = .returned (atV r g) ∧ Below w.heap.size w w' := by
  unfold prV atV
  have A := (Below.heap_alloc _ (.cells #[.int .i64 0, .int .u64 0, .int .u64 0, .int .u64 0, .int .u64 0, .int .u64 0] 65) _ (by simp)).trans (heap_alloc_new w (.cells #[.int .i64 a.1, .int .i64 a.2, .int .i64 bal, .int .i64 k, .int .i64 key, .int .i64 v, .int .i64 r, .int .u64 (g 0), .int .u64 (g 1), .int .u64 (g 2), .int .u64 (g 3), .int .u64 (g 4)] 67))
  have R := heap_alloc_at (w.alloc (.cells #[.int .i64 a.1, .int .i64 a.2, .int .i64 bal, .int .i64 k, .int .i64 key, .int .i64 v, .int .i64 r, .int .u64 (g 0), .int .u64 (g 1), .int .u64 (g 2), .int .u64 (g 3), .int .u64 (g 4)] 67)) (.cells #[.int .i64 0, .int .u64 0, .int .u64 0, .int .u64 0, .int .u64 0, .int .u64 0] 65) (w.heap.size + 1) (by simp)
  have D := Lib.hid (((Below.refl w.heap.size w).alloc (Nat.le_refl _) (.cells #[.int .i64 a.1, .int .i64 a.2, .int .i64 bal, .int .i64 k, .int .i64 key, .int .i64 v, .int .i64 r, .int .u64 (g 0), .int .u64 (g 1), .int .u64 (g 2), .int .u64 (g 3), .int .u64 (g 4)] 67)).alloc (by simp) (.cells #[.int .i64 0, .int .u64 0, .int .u64 0, .int .u64 0, .int .u64 0, .int .u64 0] 65))
  go_enter Tryd.func45, Tryd.ntmps45
  go_upto_region 1 with fail
  generalize (w.alloc (.cells #[.int .i64 a.1, .int .i64 a.2, .int .i64 bal, .int .i64 k, .int .i64 key, .int .i64 v, .int .i64 r, .int .u64 (g 0), .int .u64 (g 1), .int .u64 (g 2), .int .u64 (g 3), .int .u64 (g 4)] 67)).alloc (.cells #[.int .i64 0, .int .u64 0, .int .u64 0, .int .u64 0, .int .u64 0, .int .u64 0] 65) = w1 at A R D ⊢
  obtain ⟨⟨c0, c1, c2, c3, c4, c5, c6, c7, c8, c9, c10, c11⟩, _, cl⟩ := all12 A
  obtain ⟨⟨z0, z1, z2, z3, z4, z5⟩, zf, zl⟩ := all6 R
  have f0 := zf 0
  have f1 := zf 1
  have f2 := zf 2
  have f3 := zf 3
  have f4 := zf 4
  have f5 := zf 5
  have R := Lib.hid R
  clear A zf
  go_wp2_with fail
  exact bodyPost_ret (at_resOf _ _ _ _ _ _ _ _ _ _ rfl (put6_at _ _ _ _ _ _ R.out)) rfl ⟨rfl, D.out.trans (put6_below _ _ _ _ _ _ (Nat.le_succ _))⟩
theorem put5_at {w : World} {b : Nat} {t : TypeId} {y0 y1 y2 y3 y4 : Value} (x0 x1 x2 x3 x4 : Value) (h : w.heap[b]? = some (.cells #[y0, y1, y2, y3, y4] t (0, 0))) :
    (((((w.setCell ⟨b, 0, none⟩ x0).setCell ⟨b, 1, none⟩ x1).setCell ⟨b, 2, none⟩ x2).setCell ⟨b, 3, none⟩ x3).setCell ⟨b, 4, none⟩ x4).heap[b]? = some (.cells #[x0, x1, x2, x3, x4] t (0, 0)) := by
  have e := heap_setCell_same _ b 4 _ _ x4 (heap_setCell_same _ b 3 _ _ x3 (heap_setCell_same _ b 2 _ _ x2 (heap_setCell_same _ b 1 _ _ x1 (heap_setCell_same _ b 0 _ _ x0 h))))
  simp only [List.setIfInBounds_toArray, List.set_cons_zero, List.set_cons_succ] at e
  exact e
theorem put5_below {w : World} {b B : Nat} (x0 x1 x2 x3 x4 : Value) (h : B ≤ b) : Below B w (((((w.setCell ⟨b, 0, none⟩ x0).setCell ⟨b, 1, none⟩ x1).setCell ⟨b, 2, none⟩ x2).setCell ⟨b, 3, none⟩ x3).setCell ⟨b, 4, none⟩ x4) :=
  ((((Below.refl B w).setCell (p := ⟨b, 0, none⟩) h x0).setCell (p := ⟨b, 1, none⟩) h x1).setCell (p := ⟨b, 2, none⟩) h x2).setCell (p := ⟨b, 3, none⟩) h x3 |>.setCell (p := ⟨b, 4, none⟩) h x4
theorem all5 {w : World} {b : Nat} {x0 x1 x2 x3 x4 : Value} {t : TypeId} (h : w.heap[b]? = some (.cells #[x0, x1, x2, x3, x4] t (0, 0))) :
    (w.cell? ⟨b, 0, none⟩ = some x0 ∧ w.cell? ⟨b, 1, none⟩ = some x1 ∧ w.cell? ⟨b, 2, none⟩ = some x2 ∧ w.cell? ⟨b, 3, none⟩ = some x3 ∧ w.cell? ⟨b, 4, none⟩ = some x4) ∧ (∀ m, w.frozen? ⟨b, m, none⟩ = false) ∧ b < w.heap.size := by
  refine ⟨?_, fun m => by simp [World.frozen?, h], lt_of_heap h⟩
  simp [World.cell?, h]
theorem sb_resAb (tm : Array Value) (w : World) (b : Nat) (x0 x1 x2 x3 x4 : Value) (t : TypeId) (h2 : tm[2]? = some (.pointer (some ⟨b, 0, none⟩))) (h : w.heap[b]? = some (.cells #[x0, x1, x2, x3, x4] t (0, 0))) :
    (results Tryd.f64 tm).run Tryd.prog w = .ok (.agg #[x0, x1, x2, x3, x4]) w := by
  obtain ⟨⟨t0, t1, t2, t3, t4⟩, _, _⟩ := all5 h
  simp [results, Tryd.results64, go_sem, h2, t0, t1, t2, t3, t4]
set_option maxHeartbeats 4000000 in
theorem iabout_any (a : Pid) (bal k key v r : Int) (g : Nat → Nat) (w : World) :
    Calls Tryd.prog 64 #[prV a bal k key v r g] w fun e w' => e = .returned (sbV a k key v) ∧ Below w.heap.size w w' := by
  unfold prV sbV
  have A := (Below.heap_alloc _ (.cells #[.int .i64 0, .int .i64 0, .int .i64 0, .int .i64 0, .int .i64 0] 103) _ (by simp)).trans (heap_alloc_new w (.cells #[.int .i64 a.1, .int .i64 a.2, .int .i64 bal, .int .i64 k, .int .i64 key, .int .i64 v, .int .i64 r, .int .u64 (g 0), .int .u64 (g 1), .int .u64 (g 2), .int .u64 (g 3), .int .u64 (g 4)] 67))
  have R := heap_alloc_at (w.alloc (.cells #[.int .i64 a.1, .int .i64 a.2, .int .i64 bal, .int .i64 k, .int .i64 key, .int .i64 v, .int .i64 r, .int .u64 (g 0), .int .u64 (g 1), .int .u64 (g 2), .int .u64 (g 3), .int .u64 (g 4)] 67)) (.cells #[.int .i64 0, .int .i64 0, .int .i64 0, .int .i64 0, .int .i64 0] 103) (w.heap.size + 1) (by simp)
  have D := Lib.hid (((Below.refl w.heap.size w).alloc (Nat.le_refl _) (.cells #[.int .i64 a.1, .int .i64 a.2, .int .i64 bal, .int .i64 k, .int .i64 key, .int .i64 v, .int .i64 r, .int .u64 (g 0), .int .u64 (g 1), .int .u64 (g 2), .int .u64 (g 3), .int .u64 (g 4)] 67)).alloc (by simp) (.cells #[.int .i64 0, .int .i64 0, .int .i64 0, .int .i64 0, .int .i64 0] 103))
  go_enter Tryd.func64, Tryd.ntmps64
  go_upto_region 1 with fail
  generalize (w.alloc (.cells #[.int .i64 a.1, .int .i64 a.2, .int .i64 bal, .int .i64 k, .int .i64 key, .int .i64 v, .int .i64 r, .int .u64 (g 0), .int .u64 (g 1), .int .u64 (g 2), .int .u64 (g 3), .int .u64 (g 4)] 67)).alloc (.cells #[.int .i64 0, .int .i64 0, .int .i64 0, .int .i64 0, .int .i64 0] 103) = w1 at A R D ⊢
  obtain ⟨⟨c0, c1, c2, c3, c4, c5, c6, c7, c8, c9, c10, c11⟩, _, cl⟩ := all12 A
  obtain ⟨⟨z0, z1, z2, z3, z4⟩, zf, zl⟩ := all5 R
  have f0 := zf 0
  have f1 := zf 1
  have f2 := zf 2
  have f3 := zf 3
  have f4 := zf 4
  have R := Lib.hid R
  clear A zf
  go_wp2_with fail
  exact bodyPost_ret (sb_resAb _ _ _ _ _ _ _ _ _ rfl (put5_at _ _ _ _ _ R.out)) rfl ⟨rfl, D.out.trans (put5_below _ _ _ _ _ (Nat.le_succ _))⟩
end Go.Proofs.YtfcjhojkfchccaaDoor

/- Proposals in memory, and rows of them. -/
namespace Go.Proofs.YtfcjhojkfchccaaDoor
open Go.RowKit
set_option linter.unusedVariables false

/-- A proposal. -/
structure Pr where
  id : Pid
  bal : Int
  k : Int
  key : Int
  v : Int
  r : Int
  g : Nat → Nat
def pr0 : Pr := ⟨nop, 0, 0, 0, 0, 0, fun _ => 0⟩
def Pr.val (p : Pr) : Value := prV p.id p.bal p.k p.key p.v p.r p.g
/-- The offers of two are the same. -/
def ofS (p q : Pr) : Bool := decide (p.r = q.r ∧ (p.g 0 : Int) = (q.g 0 : Int) ∧ (p.g 1 : Int) = (q.g 1 : Int) ∧ (p.g 2 : Int) = (q.g 2 : Int) ∧ (p.g 3 : Int) = (q.g 3 : Int) ∧ (p.g 4 : Int) = (q.g 4 : Int))
/-- The subjects of two are the same. -/
def sbS (p q : Pr) : Bool := decide (p.id.1 = q.id.1 ∧ p.id.2 = q.id.2 ∧ p.k = q.k ∧ p.key = q.key ∧ p.v = q.v)
/-- A proposal in memory, from a cell on. -/
structure PrAt (w : World) (b o : Nat) (p : Pr) : Prop where
  c0 : w.cell? ⟨b, o, none⟩ = some (.int .i64 p.id.1)
  c1 : w.cell? ⟨b, o + 1, none⟩ = some (.int .i64 p.id.2)
  c2 : w.cell? ⟨b, o + 2, none⟩ = some (.int .i64 p.bal)
  c3 : w.cell? ⟨b, o + 3, none⟩ = some (.int .i64 p.k)
  c4 : w.cell? ⟨b, o + 4, none⟩ = some (.int .i64 p.key)
  c5 : w.cell? ⟨b, o + 5, none⟩ = some (.int .i64 p.v)
  c6 : w.cell? ⟨b, o + 6, none⟩ = some (.int .i64 p.r)
  c7 : w.cell? ⟨b, o + 7, none⟩ = some (.int .u64 (p.g 0))
  c8 : w.cell? ⟨b, o + 8, none⟩ = some (.int .u64 (p.g 1))
  c9 : w.cell? ⟨b, o + 9, none⟩ = some (.int .u64 (p.g 2))
  c10 : w.cell? ⟨b, o + 10, none⟩ = some (.int .u64 (p.g 3))
  c11 : w.cell? ⟨b, o + 11, none⟩ = some (.int .u64 (p.g 4))
theorem PrAt.up {w w' : World} {b o B : Nat} {p : Pr} (h : PrAt w b o p) (hb : Below B w w') (hl : b < B) : PrAt w' b o p := by
  have hc : ∀ o, w'.cell? ⟨b, o, none⟩ = w.cell? ⟨b, o, none⟩ := fun o => hb.cell (p := ⟨b, o, none⟩) hl
  exact ⟨by rw [hc]; exact h.c0, by rw [hc]; exact h.c1, by rw [hc]; exact h.c2, by rw [hc]; exact h.c3, by rw [hc]; exact h.c4, by rw [hc]; exact h.c5, by rw [hc]; exact h.c6, by rw [hc]; exact h.c7, by rw [hc]; exact h.c8, by rw [hc]; exact h.c9, by rw [hc]; exact h.c10, by rw [hc]; exact h.c11⟩
/-- A slice of proposals, readable. -/
structure PrsAt (w : World) (b off : Nat) (P : List Pr) : Prop where
  lt : b < w.heap.size
  at_ : ∀ i, i < P.length → PrAt w b (off + i * 12) (P.getD i pr0)
theorem PrsAt.up {w w' : World} {b off B : Nat} {P : List Pr} (h : PrsAt w b off P) (hb : Below B w w') (hB : w.heap.size ≤ B) : PrsAt w' b off P :=
  ⟨Nat.lt_of_lt_of_le h.lt hb.size, fun i hi => (h.at_ i hi).up hb (Nat.lt_of_lt_of_le h.lt hB)⟩
def Prs (w : World) (v : Value) (P : List Pr) : Prop :=
  ∃ a cap, v = .slice a P.length cap ∧ P.length ≤ cap ∧ P.length ≤ 2000000 ∧ (P.length = 0 ∨ ∃ b off, a = some ⟨b, off, none⟩ ∧ PrsAt w b off P)
theorem Prs.up {w w' : World} {B : Nat} {v : Value} {P : List Pr} (h : Prs w v P) (hb : Below B w w') (hB : w.heap.size ≤ B) : Prs w' v P := by
  obtain ⟨a, cap, rfl, h1, h2, h3⟩ := h
  refine ⟨a, cap, rfl, h1, h2, ?_⟩
  rcases h3 with h3 | ⟨b, off, rfl, h4⟩
  · exact .inl h3
  · exact .inr ⟨b, off, rfl, h4.up hb hB⟩
/-- All of a list are such. -/
theorem all_first {P : List Pr} {f : Pr → Bool} (h : ∀ j, j < P.length → f (P.getD j pr0) = true) : P.all f = true := by
  rw [List.all_eq_true]
  intro x hx
  obtain ⟨k, hk, e⟩ := List.getElem_of_mem hx
  have := h k hk
  rw [List.getD_eq_getElem?_getD, List.getElem?_eq_getElem hk] at this
  exact e ▸ this
theorem all_fails {P : List Pr} {f : Pr → Bool} {k : Nat} (hk : k < P.length) (h : f (P.getD k pr0) = false) : P.all f = false := by
  rw [List.all_eq_false]
  rw [List.getD_eq_getElem?_getD, List.getElem?_eq_getElem hk] at h
  exact ⟨_, List.getElem_mem hk, by simpa using h⟩
end Go.Proofs.YtfcjhojkfchccaaDoor

/- The size of a poll. -/
namespace Go.Proofs.YtfcjhojkfchccaaDoor
open Go.RowKit
set_option linter.unusedVariables false

/-- A poll as a value: the own proposal and the slice of the others'. -/
def polV (p : Pr) (u : Value) : Value := .agg #[.int .i64 p.id.1, .int .i64 p.id.2, .int .i64 p.bal, .int .i64 p.k, .int .i64 p.key, .int .i64 p.v, .int .i64 p.r, .int .u64 (p.g 0), .int .u64 (p.g 1), .int .u64 (p.g 2), .int .u64 (p.g 3), .int .u64 (p.g 4), u]

set_option maxRecDepth 100000 in
theorem ipsize_any (p : Pr) (a : Option Addr) (n c : Nat) (w : World) (hn : n ≤ 2000000) :
    Calls Tryd.prog 43 #[polV p (.slice a n c)] w fun e w' => e = .returned (.int .i64 (1 + n)) ∧ Below w.heap.size w w' := by
  unfold polV
  have D := Lib.hid (Below.alloc (Below.refl w.heap.size w) (Nat.le_refl _) (.cells #[.int .i64 p.id.1, .int .i64 p.id.2, .int .i64 p.bal, .int .i64 p.k, .int .i64 p.key, .int .i64 p.v, .int .i64 p.r, .int .u64 (p.g 0), .int .u64 (p.g 1), .int .u64 (p.g 2), .int .u64 (p.g 3), .int .u64 (p.g 4), .slice a n c] 70))
  go_enter Tryd.func43, Tryd.ntmps43
  go_wp2_with fail
  go_ret
  exact ⟨rfl, D.out⟩
end Go.Proofs.YtfcjhojkfchccaaDoor

/- Rows of proposals that are being built. -/
namespace Go.Proofs.YtfcjhojkfchccaaDoor
open Go.RowKit
set_option linter.unusedVariables false

/-- The cells of a proposal. -/
def pcell (p : Pr) : List Value := [.int .i64 p.id.1, .int .i64 p.id.2, .int .i64 p.bal, .int .i64 p.k, .int .i64 p.key, .int .i64 p.v, .int .i64 p.r, .int .u64 (p.g 0), .int .u64 (p.g 1), .int .u64 (p.g 2), .int .u64 (p.g 3), .int .u64 (p.g 4)]
def flatR : List Pr → List Value
  | [] => []
  | x :: r => pcell x ++ flatR r
theorem pcell_len (x : Pr) : (pcell x).length = 12 := rfl
theorem flatR_app : ∀ (A B : List Pr), flatR (A ++ B) = flatR A ++ flatR B
  | [], B => rfl
  | c :: r, B => by simp [flatR, flatR_app r B]
theorem flatR_len : ∀ L : List Pr, (flatR L).length = L.length * 12
  | [] => rfl
  | c :: r => by simp [flatR, pcell_len, flatR_len r]; omega
theorem flatR_get : ∀ (L : List Pr) (i j : Nat), i < L.length → j < 12 → (flatR L)[i * 12 + j]? = (pcell (L.getD i pr0))[j]?
  | [], i, j, h, _ => absurd h (by simp)
  | x :: r, 0, j, _, hj => by
    rw [flatR, Nat.zero_mul, Nat.zero_add, List.getElem?_append_left (by rw [pcell_len]; exact hj)]; rfl
  | x :: r, i + 1, j, h, hj => by
    have ih := flatR_get r i j (by simpa using h) hj
    rw [flatR, List.getElem?_append_right (by rw [pcell_len]; omega)]
    have e : (i + 1) * 12 + j - (pcell x).length = i * 12 + j := by rw [pcell_len]; omega
    rw [e, ih]; rfl

/-- A slice of proposals that is being built. -/
structure RPr (w : World) (B : Nat) (v : Value) (L : List Pr) : Prop where
  row : w.ownsRow B 67 12 v L.length (flatR L)
  nn : v ≠ .slice none 0 0
section
variable {w w' : World} {B : Nat} {v : Value} {L : List Pr}
theorem RPr.lt (h : RPr w B v L) {k : Nat} (hk : v.ownBlock = some k) : B ≤ k ∧ k < w.heap.size := by
  rcases h.row.2 with ⟨rfl, _⟩ | ⟨g, cap, cur, rfl, hb, hg, _⟩
  · exact absurd rfl h.nn
  · simp [Value.ownBlock] at hk; subst hk; exact ⟨hb, lt_of_heap hg⟩
theorem RPr.same (h : RPr w B v L) (hk : ∀ b, B ≤ b → b < w.heap.size → w'.heap[b]? = w.heap[b]?) : RPr w' B v L := by
  refine ⟨⟨h.row.1, ?_⟩, h.nn⟩
  rcases h.row.2 with hn | ⟨g, cap, cur, rfl, hb, hg, rest⟩
  · exact .inl hn
  · exact .inr ⟨g, cap, cur, rfl, hb, (hk g hb (lt_of_heap hg)).trans hg, rest⟩
theorem RPr.up (h : RPr w B v L) (hb : Below w.heap.size w w') : RPr w' B v L := h.same fun b _ hl => hb.block b hl
theorem RPr.put (h : RPr w B v L) {v' : Value} {x : Pr} (hown : w'.ownsRow B 67 12 v' (L.length + 1) (flatR L ++ pcell x)) (hn : v' ≠ .slice none 0 0) : RPr w' B v' (L ++ [x]) :=
  ⟨by rw [flatR_app, List.length_append]; simpa [flatR] using hown, hn⟩
theorem RPr.grown (h : RPr w B v L) {o : Obj} (hg : (w.alloc o).grownBy w' (Value.ownBlock v)) (hB : B ≤ w.heap.size) : Below B w w' := by
  have a := (Below.refl B w).alloc hB o
  exact a.trans ⟨hg.os, hg.tape, hg.output, hg.size, fun k hk => hg.block k (by have := a.size; omega) (fun e => absurd (h.lt e.symm).1 (by omega))⟩
/-- It can be read. -/
theorem RPr.prs (h : RPr w B v L) (hl : L.length ≤ 2000000) : Prs w v L := by
  rcases h.row.2 with ⟨rfl, _⟩ | ⟨g, cap, cur, rfl, hb, hg, hc, hm, hs, ht⟩
  · exact absurd rfl h.nn
  · refine ⟨_, cap, rfl, hc, hl, .inr ⟨g, 0, rfl, lt_of_heap hg, fun i hi => ?_⟩⟩
    have hk : ∀ j, j < 12 → cur[i * 12 + j]? = (pcell (L.getD i pr0))[j]? := fun j hj => by
      rw [← flatR_get L i j hi hj, ← ht, List.getElem?_take, if_pos (by omega)]; simp
    have hc : ∀ o, w.cell? ⟨g, o, none⟩ = cur[o]? := fun o => by rw [cell_of_cells hg]
    rw [Nat.zero_add]
    exact ⟨by rw [hc]; exact hk 0 (by omega), by rw [hc]; exact hk 1 (by omega), by rw [hc]; exact hk 2 (by omega), by rw [hc]; exact hk 3 (by omega), by rw [hc]; exact hk 4 (by omega), by rw [hc]; exact hk 5 (by omega), by rw [hc]; exact hk 6 (by omega), by rw [hc]; exact hk 7 (by omega), by rw [hc]; exact hk 8 (by omega), by rw [hc]; exact hk 9 (by omega), by rw [hc]; exact hk 10 (by omega), by rw [hc]; exact hk 11 (by omega)⟩
end
end Go.Proofs.YtfcjhojkfchccaaDoor

/- A slice of proposals made with a capacity. -/
namespace Go.Proofs.YtfcjhojkfchccaaDoor
open Go.RowKit
set_option linter.unusedVariables false
set_option maxRecDepth 100000

theorem info_pr : (Tryd.prog.info? 67).map (fun i => (i.zero, i.size, i.bytes)) = some (some (.agg #[.int .i64 0, .int .i64 0, .int .i64 0, .int .i64 0, .int .i64 0, .int .i64 0, .int .i64 0, .int .u64 0, .int .u64 0, .int .u64 0, .int .u64 0, .int .u64 0]), 12, 96) := by kernel_rfl
theorem make_capR (n : Nat) (hn : n ≤ 2000000) (w : World) : (Instr.makeSlice 68 (.int .i64 0) (.int .i64 n)).run Tryd.prog w = .ok (.slice (some ⟨w.heap.size, 0, none⟩) 0 n) (w.alloc (.cells (madeCells #[.int .i64 0, .int .i64 0, .int .i64 0, .int .i64 0, .int .i64 0, .int .i64 0, .int .i64 0, .int .u64 0, .int .u64 0, .int .u64 0, .int .u64 0, .int .u64 0] (n * 12)) 67)) := by
  obtain ⟨i, hi, hz, hs, hb⟩ := info_parts info_pr
  have hr := run_make (P := Tryd.prog) w 68 67 i _ Tryd.underlying68 hi hz .i64 .i64 0 n (by omega) (by omega) (by rw [hb]; omega) (by omega)
  simp only [Int.toNat_natCast, hs] at hr
  exact hr
theorem rpr_cap (w : World) (n B : Nat) (hB : B ≤ w.heap.size) (hn : n ≤ 2000000) : RPr (w.alloc (.cells (madeCells #[.int .i64 0, .int .i64 0, .int .i64 0, .int .i64 0, .int .i64 0, .int .i64 0, .int .i64 0, .int .u64 0, .int .u64 0, .int .u64 0, .int .u64 0, .int .u64 0] (n * 12)) 67)) B (.slice (some ⟨w.heap.size, 0, none⟩) 0 n) [] :=
  ⟨World.ownsRow_made _ _ n hB (by unfold maxLen; omega) (by simp [madeCells]), by simp⟩
end Go.Proofs.YtfcjhojkfchccaaDoor

/- Proposals and paths: plain facts. -/
namespace Go.Proofs.YtfcjhojkfchccaaDoor
set_option linter.unusedVariables false

/-- The proposal of an entry. -/
def prOf (X : En) : Pr := ⟨X.id, X.bal, X.k, X.key, X.v, X.seq, setF X.deps⟩
/-- It is one. -/
def propB (X : En) : Bool := enB X && (X.st == 1)
/-- Answers are all proposals, and about the same. -/
def pollB (X : En) (E : List En) : Bool := propB X && (E.all propB && (E.map prOf).all fun x => sbS x (prOf X))
/-- The proposal of an entry with the bits of its ids. -/
def prM (X : En) : Pr := ⟨X.id, X.bal, X.k, X.key, X.v, X.seq, mask X.deps⟩
theorem prOf_M {X : En} (h : srtB X.deps = true) : prOf X = prM X := by unfold prOf prM; rw [setF_t h]
theorem idsO_maskA {L : List Pid} (h2 : L.all okP = true) (h3 : Asc L) : idsO (mask L) = L := by
  refine asc_ext (idsO_asc _) h3 (fun x => ?_)
  rw [mem_idsO]
  constructor
  · rintro ⟨r, n, rfl, hr, hn, hb⟩; exact (mask_bit h2 r n).1 hb
  · intro hx
    obtain ⟨r, n, rfl, hr, hn, hn2⟩ := id_nat (List.all_eq_true.1 h2 x hx)
    exact ⟨r, n, rfl, hr, by omega, (mask_bit h2 r n).2 hx⟩
theorem prop_of {X : En} (h : propB X = true) : enB X = true ∧ X.st = 1 := by
  unfold propB at h
  simpa using h
/-- The poll is good where the answers are. -/
theorem poll_answ {own : En} {A : List En} (hl : A.length < 5) : pollB own A = answB own A := by
  rw [Bool.eq_iff_iff]
  constructor
  · intro h
    unfold pollB at h
    simp only [Bool.and_eq_true, List.all_eq_true, List.mem_map, forall_exists_index, and_imp, forall_apply_eq_imp_iff₂] at h
    obtain ⟨h1, h2, h3⟩ := h
    obtain ⟨g1, g2⟩ := prop_of h1
    refine answ_to (fun x hx => ?_) g1 g2 hl
    obtain ⟨k1, k2⟩ := prop_of (h2 x hx)
    have h4 := h3 x hx
    unfold sbS prOf at h4
    rw [decide_eq_true_eq] at h4
    dsimp only at h4
    unfold oneB
    rw [Bool.and_eq_true, decide_eq_true_eq]
    exact ⟨k1, Prod.ext h4.1 h4.2.1, ⟨h4.2.2.1, h4.2.2.2.1, h4.2.2.2.2⟩, k2⟩
  · intro h
    obtain ⟨h1, h2, h3, _⟩ := answ_of h
    unfold pollB
    simp only [Bool.and_eq_true, List.all_eq_true, List.mem_map, forall_exists_index, and_imp, forall_apply_eq_imp_iff₂]
    refine ⟨by unfold propB; simp [h2, h3], fun x hx => ?_, fun x hx => ?_⟩
    · obtain ⟨k1, _, _, k4⟩ := one_of (h1 x hx)
      unfold propB; simp [k1, k4]
    · obtain ⟨_, k2, ⟨k3, k4, k5⟩, _⟩ := one_of (h1 x hx)
      unfold sbS prOf
      rw [decide_eq_true_eq]
      dsimp only
      rw [k2]
      exact ⟨rfl, rfl, k3, k4, k5⟩
theorem answ_long {own : En} {A : List En} (hl : ¬ A.length < 5) : answB own A = false := by
  cases e : answB own A with
  | false => rfl
  | true => exact absurd (answ_of e).2.2.2 hl
/-- Offers are the same where ranks and ids are. -/
theorem ofS_like {own x : En} (ho : srtB own.deps = true) (hx : srtB x.deps = true) : ofS (prOf x) (prOf own) = likeB own x := by
  obtain ⟨_, o2, o3⟩ := srt_of ho
  obtain ⟨_, x2, x3⟩ := srt_of hx
  rw [prOf_M ho, prOf_M hx]
  unfold ofS likeB prM
  dsimp only
  rw [Bool.eq_iff_iff, decide_eq_true_eq, decide_eq_true_eq]
  constructor
  · rintro ⟨h, g0, g1, g2, g3, g4⟩
    refine ⟨h, ?_⟩
    rw [← idsO_maskA x2 x3, ← idsO_maskA o2 o3]
    unfold idsO idsFrom
    simp only [idsFrom]
    rw [Int.ofNat_inj.1 g0, Int.ofNat_inj.1 g1, Int.ofNat_inj.1 g2, Int.ofNat_inj.1 g3, Int.ofNat_inj.1 g4]
  · rintro ⟨h, e⟩
    rw [e]
    exact ⟨h, rfl, rfl, rfl, rfl, rfl⟩
theorem all_like {own : En} {A : List En} (ho : srtB own.deps = true) (hA : ∀ x ∈ A, srtB x.deps = true) : ((A.map prOf).all fun x => ofS x (prOf own)) = A.all (likeB own) := by
  rw [Bool.eq_iff_iff, List.all_eq_true, List.all_eq_true]
  simp only [List.mem_map, forall_exists_index, and_imp, forall_apply_eq_imp_iff₂]
  exact ⟨fun h x hx => by rw [← ofS_like ho (hA x hx)]; exact h x hx, fun h x hx => by rw [ofS_like ho (hA x hx)]; exact h x hx⟩
/-- What PathOf answers. -/
def pathR (n : Int) (own : En) (A : List En) : Int :=
  if (1 ≤ n ∧ n ≤ 5) ∧ answB own A = true ∧ (A.length : Int) < n then
    (if A.all (likeB own) = true ∧ (3 * n + 3) / 4 ≤ A.length + 1 then 1 else if n / 2 + 1 ≤ (A.length : Int) + 1 then 2 else 0)
  else -1
theorem path_fast {n : Int} {own : En} {A : List En} (h : pathR n own A = 1) : (1 ≤ n ∧ n ≤ 5) ∧ answB own A = true ∧ A.all (likeB own) = true ∧ (3 * n + 3) / 4 ≤ (A.length : Int) + 1 := by
  unfold pathR at h
  split at h
  · rename_i g
    split at h
    · rename_i f; exact ⟨g.1, g.2.1, f⟩
    · split at h <;> omega
  · omega
theorem path_enough {n : Int} {own : En} {A : List En} (h : 0 ≤ pathR n own A) : (1 ≤ n ∧ n ≤ 5) ∧ (pathR n own A = 0 ↔ (A.length : Int) + 1 < n / 2 + 1) := by
  unfold pathR at h ⊢
  split at h
  · rename_i g
    refine ⟨g.1, ?_⟩
    rw [if_pos g]
    split
    · rename_i f; have := f.2; omega
    · split <;> omega
  · omega
theorem ans_fast {own : En} {A : List En} (h1 : answB own A = true) (h2 : A.all (likeB own) = true) : ansR own A = (own, true) := by
  have g := answ_of h1
  have e := ansE_same A own (srt_of (enB_of g.2.1).2.2.1).2.2 (List.all_eq_true.1 h2)
  unfold ansR
  rw [e, if_pos ⟨h1, g.2.1⟩]
end Go.Proofs.YtfcjhojkfchccaaDoor

/- Proposals joined: plain facts. -/
namespace Go.Proofs.YtfcjhojkfchccaaDoor
set_option linter.unusedVariables false

/-- An answer's offer is joined. -/
def joinPr (p q : Pr) : Pr := { p with r := max p.r q.r, g := joinF p.g q.g }
def joinPs (p : Pr) (P : List Pr) : Pr := P.foldl joinPr p
theorem take_nextR {P : List Pr} {k : Nat} (hk : k < P.length) : P.take (k + 1) = P.take k ++ [P.getD k pr0] := by
  rw [List.take_add_one, List.getElem?_eq_getElem hk, List.getD_eq_getElem?_getD, List.getElem?_eq_getElem hk]; rfl
theorem joinPs_next {p : Pr} {P : List Pr} {k : Nat} (hk : k < P.length) : joinPs p (P.take (k + 1)) = joinPr (joinPs p (P.take k)) (P.getD k pr0) := by
  rw [take_nextR hk]; unfold joinPs; rw [List.foldl_append]; rfl
theorem joinPs_keep : ∀ (P : List Pr) (p : Pr), (joinPs p P).id = p.id ∧ (joinPs p P).bal = p.bal ∧ (joinPs p P).k = p.k ∧ (joinPs p P).key = p.key ∧ (joinPs p P).v = p.v
  | [], p => ⟨rfl, rfl, rfl, rfl, rfl⟩
  | x :: P, p => by
    obtain ⟨h1, h2, h3, h4, h5⟩ := joinPs_keep P (joinPr p x)
    exact ⟨h1, h2, h3, h4, h5⟩
theorem joinF_lt {f g : Nat → Nat} (hf : ∀ r, f r < 2251799813685248) (hg : ∀ r, g r < 2251799813685248) (r : Nat) : joinF f g r < 2251799813685248 := by
  have h : (2251799813685248 : Nat) = 2 ^ 51 := by decide
  unfold joinF
  rw [h]
  exact Nat.or_lt_two_pow (h ▸ hf r) (h ▸ hg r)
theorem joinPs_lt : ∀ (P : List Pr) (p : Pr), (∀ r, p.g r < 2251799813685248) → (∀ x ∈ P, ∀ r, x.g r < 2251799813685248) → ∀ r, (joinPs p P).g r < 2251799813685248
  | [], p, h, _ => h
  | x :: P, p, h, g => joinPs_lt P (joinPr p x) (joinF_lt h (g x (List.mem_cons_self ..))) fun y hy => g y (List.mem_cons_of_mem _ hy)
theorem joinP_ok {a b : List Pid} (ha : a.all okP = true) (hb : b.all okP = true) : (joinP a b).all okP = true := by
  rw [List.all_eq_true] at ha hb ⊢
  intro x hx
  rcases joinP_mem.1 hx with h | h
  · exact ha x h
  · exact hb x h
theorem mask_join {a b : List Pid} (ha : a.all okP = true) (hb : b.all okP = true) : joinF (mask a) (mask b) = mask (joinP a b) := by
  funext r
  unfold joinF
  refine Nat.eq_of_testBit_eq fun n => ?_
  rw [Bool.eq_iff_iff, Nat.testBit_or, Bool.or_eq_true, mask_bit ha, mask_bit hb, mask_bit (joinP_ok ha hb), joinP_mem]
theorem prM_join {o x : En} (ho : o.deps.all okP = true) (hx : x.deps.all okP = true) : joinPr (prM o) (prM x) = prM (ansS o x) := by
  unfold joinPr prM ansS
  dsimp only
  rw [mask_join ho hx]
theorem joinPs_M : ∀ (A : List En) (own : En), own.deps.all okP = true → (∀ x ∈ A, srtB x.deps = true) → joinPs (prM own) (A.map prOf) = prM (ansE own A) ∧ (ansE own A).deps.all okP = true
  | [], own, h, _ => ⟨rfl, h⟩
  | x :: A, own, h, g => by
    have hx := g x (List.mem_cons_self ..)
    have ho := (srt_of hx).2.1
    have ih := joinPs_M A (ansS own x) (joinP_ok h ho) (fun y hy => g y (List.mem_cons_of_mem _ hy))
    refine ⟨?_, ih.2⟩
    show joinPs (joinPr (prM own) (prOf x)) (A.map prOf) = _
    rw [prOf_M hx, prM_join h ho]
    exact ih.1
/-- The entry of a proposal. -/
def enP (p : Pr) : En := ⟨p.id, p.bal, 1, p.k, p.key, p.v, p.r, idsO p.g⟩
/-- What the entry of all joined is. -/
theorem enP_join {own : En} {A : List En} (h : pollB own A = true) : enP (joinPs (prOf own) (A.map prOf)) = ansE own A := by
  unfold pollB at h
  simp only [Bool.and_eq_true] at h
  obtain ⟨h1, h2, _⟩ := h
  obtain ⟨g1, g2⟩ := prop_of h1
  have hs := (enB_of g1).2.2.1
  obtain ⟨_, s2, s3⟩ := srt_of hs
  have hA : ∀ x ∈ A, srtB x.deps = true := fun x hx => (enB_of (prop_of (List.all_eq_true.1 h2 x hx)).1).2.2.1
  obtain ⟨e1, e2⟩ := joinPs_M A own s2 hA
  rw [prOf_M hs, e1]
  unfold enP prM
  dsimp only
  rw [idsO_maskA e2 (ansE_asc A own s3)]
  have e3 := (ansE_keep A own).2.2.1
  rw [g2] at e3
  rw [← e3]
end Go.Proofs.YtfcjhojkfchccaaDoor
