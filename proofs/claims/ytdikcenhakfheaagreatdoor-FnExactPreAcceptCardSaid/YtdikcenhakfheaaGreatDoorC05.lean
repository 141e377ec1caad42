/- Texts laid together. -/
import Derived.Test.YtdikcenhakfheaaGreatDoorC01
import Derived.Test.YtdikcenhakfheaaGreatDoorC04
import Derived.Deep.RegionHeld3
import Derived.Test.YtdikcenhakfheaaGreatDoorC06
import Derived.Test.YtdikcenhakfheaaGreatDoorC07
import Derived.Test.YtdikcenhakfheaaGreatDoorC08
import Derived.Test.YtdikcenhakfheaaGreatDoorC13
import Derived.Test.YtdikcenhakfheaaGreatDoorC12
/- Values of what proposals have; stores of so many cells, one after the other. -/
namespace Go.Proofs.YtdikcenhakfheaaGreatDoor
open Go.RowKit
set_option linter.unusedVariables false

/-- A rank and a set. -/
def atV (r : Int) (g : Nat → Nat) : Value := .agg #[.int .i64 r, .int .u64 (g 0), .int .u64 (g 1), .int .u64 (g 2), .int .u64 (g 3), .int .u64 (g 4)]
/-- A proposal. -/
def prV (a : Pid) (bal k key v r : Int) (g : Nat → Nat) : Value := .agg #[.int .i64 a.1, .int .i64 a.2, .int .i64 bal, .int .i64 k, .int .i64 key, .int .i64 v, .int .i64 r, .int .u64 (g 0), .int .u64 (g 1), .int .u64 (g 2), .int .u64 (g 3), .int .u64 (g 4)]
theorem cell_set {W : World} {b c o o' : Nat} {v : Value} (u : Value) (hn : b ≠ c) (h : W.cell? ⟨b, o, none⟩ = some v) : (W.setCell ⟨c, o', none⟩ u).cell? ⟨b, o, none⟩ = some v :=
  (World.cell?_of_block (a := ⟨b, o, none⟩) (heap_setCell_other W ⟨c, o', none⟩ b u hn)).trans h
theorem bblk_d {w w' : World} {b : Nat} {o : Obj} (hb : Below w.drew.heap.size w.drew w') (hl : b < w.heap.size) (h : w.heap[b]? = some o) : w'.heap[b]? = some o := (hb.block b hl).trans h
theorem put6_at {w : World} {b : Nat} {t : TypeId} {y0 y1 y2 y3 y4 y5 : Value} (x0 x1 x2 x3 x4 x5 : Value) (h : w.heap[b]? = some (.cells #[y0, y1, y2, y3, y4, y5] t (0, 0))) :
    ((((((w.setCell ⟨b, 0, none⟩ x0).setCell ⟨b, 1, none⟩ x1).setCell ⟨b, 2, none⟩ x2).setCell ⟨b, 3, none⟩ x3).setCell ⟨b, 4, none⟩ x4).setCell ⟨b, 5, none⟩ x5).heap[b]? = some (.cells #[x0, x1, x2, x3, x4, x5] t (0, 0)) := by
  have e := heap_setCell_same _ b 5 _ _ x5 (heap_setCell_same _ b 4 _ _ x4 (heap_setCell_same _ b 3 _ _ x3 (heap_setCell_same _ b 2 _ _ x2 (heap_setCell_same _ b 1 _ _ x1 (heap_setCell_same _ b 0 _ _ x0 h)))))
  simp only [List.setIfInBounds_toArray, List.set_cons_zero, List.set_cons_succ] at e
  exact e
theorem put6_other {w : World} {b c : Nat} (x0 x1 x2 x3 x4 x5 : Value) (h : c ≠ b) : ((((((w.setCell ⟨b, 0, none⟩ x0).setCell ⟨b, 1, none⟩ x1).setCell ⟨b, 2, none⟩ x2).setCell ⟨b, 3, none⟩ x3).setCell ⟨b, 4, none⟩ x4).setCell ⟨b, 5, none⟩ x5).heap[c]? = w.heap[c]? := by
  rw [heap_setCell_other _ _ _ _ h, heap_setCell_other _ _ _ _ h, heap_setCell_other _ _ _ _ h, heap_setCell_other _ _ _ _ h, heap_setCell_other _ _ _ _ h, heap_setCell_other _ _ _ _ h]
theorem put6_below {w : World} {b B : Nat} (x0 x1 x2 x3 x4 x5 : Value) (h : B ≤ b) : Below B w ((((((w.setCell ⟨b, 0, none⟩ x0).setCell ⟨b, 1, none⟩ x1).setCell ⟨b, 2, none⟩ x2).setCell ⟨b, 3, none⟩ x3).setCell ⟨b, 4, none⟩ x4).setCell ⟨b, 5, none⟩ x5) :=
  ((((((Below.refl B w).setCell (p := ⟨b, 0, none⟩) h x0).setCell (p := ⟨b, 1, none⟩) h x1).setCell (p := ⟨b, 2, none⟩) h x2).setCell (p := ⟨b, 3, none⟩) h x3).setCell (p := ⟨b, 4, none⟩) h x4).setCell (p := ⟨b, 5, none⟩) h x5
theorem all6 {w : World} {b : Nat} {x0 x1 x2 x3 x4 x5 : Value} {t : TypeId} (h : w.heap[b]? = some (.cells #[x0, x1, x2, x3, x4, x5] t (0, 0))) :
    (w.cell? ⟨b, 0, none⟩ = some x0 ∧ w.cell? ⟨b, 1, none⟩ = some x1 ∧ w.cell? ⟨b, 2, none⟩ = some x2 ∧ w.cell? ⟨b, 3, none⟩ = some x3 ∧ w.cell? ⟨b, 4, none⟩ = some x4 ∧ w.cell? ⟨b, 5, none⟩ = some x5) ∧ (∀ m, w.frozen? ⟨b, m, none⟩ = false) ∧ b < w.heap.size := by
  refine ⟨?_, fun m => by simp [World.frozen?, h], lt_of_heap h⟩
  simp [World.cell?, h]
theorem put12_at {w : World} {b : Nat} {t : TypeId} {y0 y1 y2 y3 y4 y5 y6 y7 y8 y9 y10 y11 : Value} (x0 x1 x2 x3 x4 x5 x6 x7 x8 x9 x10 x11 : Value) (h : w.heap[b]? = some (.cells #[y0, y1, y2, y3, y4, y5, y6, y7, y8, y9, y10, y11] t (0, 0))) :
    ((((((((((((w.setCell ⟨b, 0, none⟩ x0).setCell ⟨b, 1, none⟩ x1).setCell ⟨b, 2, none⟩ x2).setCell ⟨b, 3, none⟩ x3).setCell ⟨b, 4, none⟩ x4).setCell ⟨b, 5, none⟩ x5).setCell ⟨b, 6, none⟩ x6).setCell ⟨b, 7, none⟩ x7).setCell ⟨b, 8, none⟩ x8).setCell ⟨b, 9, none⟩ x9).setCell ⟨b, 10, none⟩ x10).setCell ⟨b, 11, none⟩ x11).heap[b]? = some (.cells #[x0, x1, x2, x3, x4, x5, x6, x7, x8, x9, x10, x11] t (0, 0)) := by
  have e := heap_setCell_same _ b 11 _ _ x11 (heap_setCell_same _ b 10 _ _ x10 (heap_setCell_same _ b 9 _ _ x9 (heap_setCell_same _ b 8 _ _ x8 (heap_setCell_same _ b 7 _ _ x7 (heap_setCell_same _ b 6 _ _ x6 (heap_setCell_same _ b 5 _ _ x5 (heap_setCell_same _ b 4 _ _ x4 (heap_setCell_same _ b 3 _ _ x3 (heap_setCell_same _ b 2 _ _ x2 (heap_setCell_same _ b 1 _ _ x1 (heap_setCell_same _ b 0 _ _ x0 h)))))))))))
  simp only [List.setIfInBounds_toArray, List.set_cons_zero, List.set_cons_succ] at e
  exact e
theorem put12_other {w : World} {b c : Nat} (x0 x1 x2 x3 x4 x5 x6 x7 x8 x9 x10 x11 : Value) (h : c ≠ b) : ((((((((((((w.setCell ⟨b, 0, none⟩ x0).setCell ⟨b, 1, none⟩ x1).setCell ⟨b, 2, none⟩ x2).setCell ⟨b, 3, none⟩ x3).setCell ⟨b, 4, none⟩ x4).setCell ⟨b, 5, none⟩ x5).setCell ⟨b, 6, none⟩ x6).setCell ⟨b, 7, none⟩ x7).setCell ⟨b, 8, none⟩ x8).setCell ⟨b, 9, none⟩ x9).setCell ⟨b, 10, none⟩ x10).setCell ⟨b, 11, none⟩ x11).heap[c]? = w.heap[c]? := by
  rw [heap_setCell_other _ _ _ _ h, heap_setCell_other _ _ _ _ h, heap_setCell_other _ _ _ _ h, heap_setCell_other _ _ _ _ h, heap_setCell_other _ _ _ _ h, heap_setCell_other _ _ _ _ h, heap_setCell_other _ _ _ _ h, heap_setCell_other _ _ _ _ h, heap_setCell_other _ _ _ _ h, heap_setCell_other _ _ _ _ h, heap_setCell_other _ _ _ _ h, heap_setCell_other _ _ _ _ h]
theorem put12_below {w : World} {b B : Nat} (x0 x1 x2 x3 x4 x5 x6 x7 x8 x9 x10 x11 : Value) (h : B ≤ b) : Below B w ((((((((((((w.setCell ⟨b, 0, none⟩ x0).setCell ⟨b, 1, none⟩ x1).setCell ⟨b, 2, none⟩ x2).setCell ⟨b, 3, none⟩ x3).setCell ⟨b, 4, none⟩ x4).setCell ⟨b, 5, none⟩ x5).setCell ⟨b, 6, none⟩ x6).setCell ⟨b, 7, none⟩ x7).setCell ⟨b, 8, none⟩ x8).setCell ⟨b, 9, none⟩ x9).setCell ⟨b, 10, none⟩ x10).setCell ⟨b, 11, none⟩ x11) :=
  ((((((((((((Below.refl B w).setCell (p := ⟨b, 0, none⟩) h x0).setCell (p := ⟨b, 1, none⟩) h x1).setCell (p := ⟨b, 2, none⟩) h x2).setCell (p := ⟨b, 3, none⟩) h x3).setCell (p := ⟨b, 4, none⟩) h x4).setCell (p := ⟨b, 5, none⟩) h x5).setCell (p := ⟨b, 6, none⟩) h x6).setCell (p := ⟨b, 7, none⟩) h x7).setCell (p := ⟨b, 8, none⟩) h x8).setCell (p := ⟨b, 9, none⟩) h x9).setCell (p := ⟨b, 10, none⟩) h x10).setCell (p := ⟨b, 11, none⟩) h x11
theorem all12 {w : World} {b : Nat} {x0 x1 x2 x3 x4 x5 x6 x7 x8 x9 x10 x11 : Value} {t : TypeId} (h : w.heap[b]? = some (.cells #[x0, x1, x2, x3, x4, x5, x6, x7, x8, x9, x10, x11] t (0, 0))) :
    (w.cell? ⟨b, 0, none⟩ = some x0 ∧ w.cell? ⟨b, 1, none⟩ = some x1 ∧ w.cell? ⟨b, 2, none⟩ = some x2 ∧ w.cell? ⟨b, 3, none⟩ = some x3 ∧ w.cell? ⟨b, 4, none⟩ = some x4 ∧ w.cell? ⟨b, 5, none⟩ = some x5 ∧ w.cell? ⟨b, 6, none⟩ = some x6 ∧ w.cell? ⟨b, 7, none⟩ = some x7 ∧ w.cell? ⟨b, 8, none⟩ = some x8 ∧ w.cell? ⟨b, 9, none⟩ = some x9 ∧ w.cell? ⟨b, 10, none⟩ = some x10 ∧ w.cell? ⟨b, 11, none⟩ = some x11) ∧ (∀ m, w.frozen? ⟨b, m, none⟩ = false) ∧ b < w.heap.size := by
  refine ⟨?_, fun m => by simp [World.frozen?, h], lt_of_heap h⟩
  simp [World.cell?, h]
end Go.Proofs.YtdikcenhakfheaaGreatDoor

/- The program's idSetOf at every slice. -/
namespace Go.Proofs.YtdikcenhakfheaaGreatDoor
open Go.RowKit
set_option linter.unusedVariables false

set_option maxRecDepth 100000 in
set_option maxHeartbeats 1000000 in
theorem iset_nil (a : Option Addr) (ca : Nat) (w : World) :
    Calls Tryz.prog 47 #[.slice a 0 ca] w (SetPost [] w) := by
  have R0 : Set5 ((w.alloc (.cells #[.int .u64 0, .int .u64 0, .int .u64 0, .int .u64 0, .int .u64 0] 74)).alloc (.cells #[.int .u64 0, .int .u64 0, .int .u64 0, .int .u64 0, .int .u64 0] 74)) w.heap.size (fun _ => 0) := (Below.heap_alloc _ _ _ (by simp)).trans (heap_alloc_new w _)
  have R0 := Lib.hid R0
  have e1 : Hid (srtB [] = true) := Lib.hid (by decide)
  have e2 : Hid (setF [] = fun _ => 0) := Lib.hid (by rw [setF_t e1.out]; funext r; rfl)
  go_enter Tryz.func47, Tryz.ntmps47
  go_wp2_with fail
  refine wp_loop_rounds 1 ?_
  rw [rounds_succ]
  go_wp2_with fail
  exact bodyPost_ret (set_res _ _ w.heap.size _ true rfl rfl R0.out) rfl ⟨by rw [e2.out, e1.out], ((Below.refl _ _).alloc (Nat.le_refl _) _).alloc (by simp) _⟩

theorem iset_any (u : Value) (L : List Pid) (w : World) (h : Ids w u L) :
    Calls Tryz.prog 47 #[u] w (SetPost L w) := by
  obtain ⟨a, cap, rfl, h1, h2, h3⟩ := h
  rcases h3 with h3 | ⟨b, off, rfl, h4, h5⟩
  · obtain rfl : L = [] := List.length_eq_zero_iff.1 h3
    exact iset_nil a cap w
  · exact set_at b off cap L w h4 h2 h5
end Go.Proofs.YtdikcenhakfheaaGreatDoor

/- The program's join of two sets. -/
namespace Go.Proofs.YtdikcenhakfheaaGreatDoor
open Go.RowKit
set_option linter.unusedVariables false

theorem sx_i0 (x0 x1 x2 x3 x4 : Value) (w : World) : (Instr.index 74 (.agg #[x0, x1, x2, x3, x4]) (.int .i64 0)).run Tryz.prog w = .ok x0 w := by kernel_rfl
theorem sx_i1 (x0 x1 x2 x3 x4 : Value) (w : World) : (Instr.index 74 (.agg #[x0, x1, x2, x3, x4]) (.int .i64 1)).run Tryz.prog w = .ok x1 w := by kernel_rfl
theorem sx_i2 (x0 x1 x2 x3 x4 : Value) (w : World) : (Instr.index 74 (.agg #[x0, x1, x2, x3, x4]) (.int .i64 2)).run Tryz.prog w = .ok x2 w := by kernel_rfl
theorem sx_i3 (x0 x1 x2 x3 x4 : Value) (w : World) : (Instr.index 74 (.agg #[x0, x1, x2, x3, x4]) (.int .i64 3)).run Tryz.prog w = .ok x3 w := by kernel_rfl
theorem sx_i4 (x0 x1 x2 x3 x4 : Value) (w : World) : (Instr.index 74 (.agg #[x0, x1, x2, x3, x4]) (.int .i64 4)).run Tryz.prog w = .ok x4 w := by kernel_rfl

theorem join_res (tm : Array Value) (w : World) (b : Nat) (g : Nat → Nat) (h4 : tm[4]? = some (.pointer (some ⟨b, 0, none⟩))) (h : Set5 w b g) :
    (results Tryz.f55 tm).run Tryz.prog w = .ok (setV g) w := by
  obtain ⟨t0, t1, t2, t3, t4⟩ := h.five
  simp [results, Tryz.results55, go_sem, setV, h4, t0, t1, t2, t3, t4]

def joinF (f g : Nat → Nat) : Nat → Nat := fun r => f r ||| g r

set_option maxRecDepth 100000 in
set_option maxHeartbeats 4000000 in
theorem join_any (f g : Nat → Nat) (w : World) (hf : ∀ r, f r < 2251799813685248) (hg : ∀ r, g r < 2251799813685248) :
    Calls Tryz.prog 55 #[setV f, setV g] w fun e w' => e = .returned (setV (joinF f g)) ∧ Below w.heap.size w w' := by
  have ob : ∀ r, bits .or .u64 (f r : Int) (g r : Int) = ((joinF f g r : Nat) : Int) := fun r => bits_or_u64_nat _ _ (by have := hf r; omega) (by have := hg r; omega)
  have o0 := ob 0; have o1 := ob 1; have o2 := ob 2; have o3 := ob 3; have o4 := ob 4
  clear ob hf hg
  unfold setV
  obtain ⟨j, hj⟩ : ∃ j, Hid (joinF f g = j) := ⟨_, Lib.hid rfl⟩
  rw [hj.out] at o0 o1 o2 o3 o4 ⊢
  have k0 := fun w => sx_i0 (.int .u64 (g 0)) (.int .u64 (g 1)) (.int .u64 (g 2)) (.int .u64 (g 3)) (.int .u64 (g 4)) w
  have k1 := fun w => sx_i1 (.int .u64 (g 0)) (.int .u64 (g 1)) (.int .u64 (g 2)) (.int .u64 (g 3)) (.int .u64 (g 4)) w
  have k2 := fun w => sx_i2 (.int .u64 (g 0)) (.int .u64 (g 1)) (.int .u64 (g 2)) (.int .u64 (g 3)) (.int .u64 (g 4)) w
  have k3 := fun w => sx_i3 (.int .u64 (g 0)) (.int .u64 (g 1)) (.int .u64 (g 2)) (.int .u64 (g 3)) (.int .u64 (g 4)) w
  have k4 := fun w => sx_i4 (.int .u64 (g 0)) (.int .u64 (g 1)) (.int .u64 (g 2)) (.int .u64 (g 3)) (.int .u64 (g 4)) w
  go_enter Tryz.func55, Tryz.ntmps55
  go_wp2_with fail
  refine wp_loop_rounds 6 ?_
  rw [rounds_succ]
  go_wp2_with fail
  rw [rounds_succ]
  go_wp2_with fail
  rw [rounds_succ]
  go_wp2_with fail
  rw [rounds_succ]
  go_wp2_with fail
  rw [rounds_succ]
  go_wp2_with fail
  rw [rounds_succ]
  go_wp2_with fail
  exact bodyPost_ret (join_res _ _ (w.heap.size + 1 + 1) j rfl (heap_alloc_at _ _ _ (by simp))) rfl ⟨rfl, (((Below.refl _ _).alloc (Nat.le_refl _) _).alloc (by simp) _).alloc (by simp; omega) _⟩
end Go.Proofs.YtdikcenhakfheaaGreatDoor

/- The program's join of ranks and sets. -/
namespace Go.Proofs.YtdikcenhakfheaaGreatDoor
open Go.RowKit
set_option linter.unusedVariables false

theorem at_resJ (tm : Array Value) (w : World) (b : Nat) (x0 x1 x2 x3 x4 x5 : Value) (t : TypeId) (h2 : tm[4]? = some (.pointer (some ⟨b, 0, none⟩))) (h : w.heap[b]? = some (.cells #[x0, x1, x2, x3, x4, x5] t (0, 0))) :
    (results Tryz.f73 tm).run Tryz.prog w = .ok (.agg #[x0, x1, x2, x3, x4, x5]) w := by
  obtain ⟨⟨t0, t1, t2, t3, t4, t5⟩, _, _⟩ := all6 h
  simp [results, Tryz.results73, go_sem, h2, t0, t1, t2, t3, t4, t5]
theorem atj_keep {w wc w' : World} {r s : Int} {f g : Nat → Nat} (hb : Below wc.heap.size wc w') (h : (wc.cell? ⟨w.heap.size, 0, none⟩ = some (.int .i64 r) ∧ wc.cell? ⟨w.heap.size, 1, none⟩ = some (.int .u64 (f 0)) ∧ wc.cell? ⟨w.heap.size, 2, none⟩ = some (.int .u64 (f 1)) ∧ wc.cell? ⟨w.heap.size, 3, none⟩ = some (.int .u64 (f 2)) ∧ wc.cell? ⟨w.heap.size, 4, none⟩ = some (.int .u64 (f 3)) ∧ wc.cell? ⟨w.heap.size, 5, none⟩ = some (.int .u64 (f 4)) ∧ wc.cell? ⟨w.heap.size + 1, 0, none⟩ = some (.int .i64 s) ∧ wc.cell? ⟨w.heap.size + 1, 1, none⟩ = some (.int .u64 (g 0)) ∧ wc.cell? ⟨w.heap.size + 1, 2, none⟩ = some (.int .u64 (g 1)) ∧ wc.cell? ⟨w.heap.size + 1, 3, none⟩ = some (.int .u64 (g 2)) ∧ wc.cell? ⟨w.heap.size + 1, 4, none⟩ = some (.int .u64 (g 3)) ∧ wc.cell? ⟨w.heap.size + 1, 5, none⟩ = some (.int .u64 (g 4))) ∧ Below w.heap.size w wc) : (w'.cell? ⟨w.heap.size, 0, none⟩ = some (.int .i64 r) ∧ w'.cell? ⟨w.heap.size, 1, none⟩ = some (.int .u64 (f 0)) ∧ w'.cell? ⟨w.heap.size, 2, none⟩ = some (.int .u64 (f 1)) ∧ w'.cell? ⟨w.heap.size, 3, none⟩ = some (.int .u64 (f 2)) ∧ w'.cell? ⟨w.heap.size, 4, none⟩ = some (.int .u64 (f 3)) ∧ w'.cell? ⟨w.heap.size, 5, none⟩ = some (.int .u64 (f 4)) ∧ w'.cell? ⟨w.heap.size + 1, 0, none⟩ = some (.int .i64 s) ∧ w'.cell? ⟨w.heap.size + 1, 1, none⟩ = some (.int .u64 (g 0)) ∧ w'.cell? ⟨w.heap.size + 1, 2, none⟩ = some (.int .u64 (g 1)) ∧ w'.cell? ⟨w.heap.size + 1, 3, none⟩ = some (.int .u64 (g 2)) ∧ w'.cell? ⟨w.heap.size + 1, 4, none⟩ = some (.int .u64 (g 3)) ∧ w'.cell? ⟨w.heap.size + 1, 5, none⟩ = some (.int .u64 (g 4))) ∧ Below w.heap.size w w' :=
  ⟨⟨cell_later hb h.1.1, cell_later hb h.1.2.1, cell_later hb h.1.2.2.1, cell_later hb h.1.2.2.2.1, cell_later hb h.1.2.2.2.2.1, cell_later hb h.1.2.2.2.2.2.1, cell_later hb h.1.2.2.2.2.2.2.1, cell_later hb h.1.2.2.2.2.2.2.2.1, cell_later hb h.1.2.2.2.2.2.2.2.2.1, cell_later hb h.1.2.2.2.2.2.2.2.2.2.1, cell_later hb h.1.2.2.2.2.2.2.2.2.2.2.1, cell_later hb h.1.2.2.2.2.2.2.2.2.2.2.2⟩, h.2.trans (hb.mono h.2.size)⟩
theorem atj_drew {w wc : World} {r s : Int} {f g : Nat → Nat} (h : (wc.cell? ⟨w.heap.size, 0, none⟩ = some (.int .i64 r) ∧ wc.cell? ⟨w.heap.size, 1, none⟩ = some (.int .u64 (f 0)) ∧ wc.cell? ⟨w.heap.size, 2, none⟩ = some (.int .u64 (f 1)) ∧ wc.cell? ⟨w.heap.size, 3, none⟩ = some (.int .u64 (f 2)) ∧ wc.cell? ⟨w.heap.size, 4, none⟩ = some (.int .u64 (f 3)) ∧ wc.cell? ⟨w.heap.size, 5, none⟩ = some (.int .u64 (f 4)) ∧ wc.cell? ⟨w.heap.size + 1, 0, none⟩ = some (.int .i64 s) ∧ wc.cell? ⟨w.heap.size + 1, 1, none⟩ = some (.int .u64 (g 0)) ∧ wc.cell? ⟨w.heap.size + 1, 2, none⟩ = some (.int .u64 (g 1)) ∧ wc.cell? ⟨w.heap.size + 1, 3, none⟩ = some (.int .u64 (g 2)) ∧ wc.cell? ⟨w.heap.size + 1, 4, none⟩ = some (.int .u64 (g 3)) ∧ wc.cell? ⟨w.heap.size + 1, 5, none⟩ = some (.int .u64 (g 4))) ∧ Below w.heap.size w wc) : (wc.drew.cell? ⟨w.heap.size, 0, none⟩ = some (.int .i64 r) ∧ wc.drew.cell? ⟨w.heap.size, 1, none⟩ = some (.int .u64 (f 0)) ∧ wc.drew.cell? ⟨w.heap.size, 2, none⟩ = some (.int .u64 (f 1)) ∧ wc.drew.cell? ⟨w.heap.size, 3, none⟩ = some (.int .u64 (f 2)) ∧ wc.drew.cell? ⟨w.heap.size, 4, none⟩ = some (.int .u64 (f 3)) ∧ wc.drew.cell? ⟨w.heap.size, 5, none⟩ = some (.int .u64 (f 4)) ∧ wc.drew.cell? ⟨w.heap.size + 1, 0, none⟩ = some (.int .i64 s) ∧ wc.drew.cell? ⟨w.heap.size + 1, 1, none⟩ = some (.int .u64 (g 0)) ∧ wc.drew.cell? ⟨w.heap.size + 1, 2, none⟩ = some (.int .u64 (g 1)) ∧ wc.drew.cell? ⟨w.heap.size + 1, 3, none⟩ = some (.int .u64 (g 2)) ∧ wc.drew.cell? ⟨w.heap.size + 1, 4, none⟩ = some (.int .u64 (g 3)) ∧ wc.drew.cell? ⟨w.heap.size + 1, 5, none⟩ = some (.int .u64 (g 4))) ∧ Below w.heap.size w wc.drew := ⟨h.1, h.2.drew⟩
theorem atj_set {w wc : World} {r s : Int} {f g : Nat → Nat} {c i : Nat} {u : Value} (hc : w.heap.size + 1 < c) (h : (wc.cell? ⟨w.heap.size, 0, none⟩ = some (.int .i64 r) ∧ wc.cell? ⟨w.heap.size, 1, none⟩ = some (.int .u64 (f 0)) ∧ wc.cell? ⟨w.heap.size, 2, none⟩ = some (.int .u64 (f 1)) ∧ wc.cell? ⟨w.heap.size, 3, none⟩ = some (.int .u64 (f 2)) ∧ wc.cell? ⟨w.heap.size, 4, none⟩ = some (.int .u64 (f 3)) ∧ wc.cell? ⟨w.heap.size, 5, none⟩ = some (.int .u64 (f 4)) ∧ wc.cell? ⟨w.heap.size + 1, 0, none⟩ = some (.int .i64 s) ∧ wc.cell? ⟨w.heap.size + 1, 1, none⟩ = some (.int .u64 (g 0)) ∧ wc.cell? ⟨w.heap.size + 1, 2, none⟩ = some (.int .u64 (g 1)) ∧ wc.cell? ⟨w.heap.size + 1, 3, none⟩ = some (.int .u64 (g 2)) ∧ wc.cell? ⟨w.heap.size + 1, 4, none⟩ = some (.int .u64 (g 3)) ∧ wc.cell? ⟨w.heap.size + 1, 5, none⟩ = some (.int .u64 (g 4))) ∧ Below w.heap.size w wc) : ((wc.setCell ⟨c, i, none⟩ u).cell? ⟨w.heap.size, 0, none⟩ = some (.int .i64 r) ∧ (wc.setCell ⟨c, i, none⟩ u).cell? ⟨w.heap.size, 1, none⟩ = some (.int .u64 (f 0)) ∧ (wc.setCell ⟨c, i, none⟩ u).cell? ⟨w.heap.size, 2, none⟩ = some (.int .u64 (f 1)) ∧ (wc.setCell ⟨c, i, none⟩ u).cell? ⟨w.heap.size, 3, none⟩ = some (.int .u64 (f 2)) ∧ (wc.setCell ⟨c, i, none⟩ u).cell? ⟨w.heap.size, 4, none⟩ = some (.int .u64 (f 3)) ∧ (wc.setCell ⟨c, i, none⟩ u).cell? ⟨w.heap.size, 5, none⟩ = some (.int .u64 (f 4)) ∧ (wc.setCell ⟨c, i, none⟩ u).cell? ⟨w.heap.size + 1, 0, none⟩ = some (.int .i64 s) ∧ (wc.setCell ⟨c, i, none⟩ u).cell? ⟨w.heap.size + 1, 1, none⟩ = some (.int .u64 (g 0)) ∧ (wc.setCell ⟨c, i, none⟩ u).cell? ⟨w.heap.size + 1, 2, none⟩ = some (.int .u64 (g 1)) ∧ (wc.setCell ⟨c, i, none⟩ u).cell? ⟨w.heap.size + 1, 3, none⟩ = some (.int .u64 (g 2)) ∧ (wc.setCell ⟨c, i, none⟩ u).cell? ⟨w.heap.size + 1, 4, none⟩ = some (.int .u64 (g 3)) ∧ (wc.setCell ⟨c, i, none⟩ u).cell? ⟨w.heap.size + 1, 5, none⟩ = some (.int .u64 (g 4))) ∧ Below w.heap.size w (wc.setCell ⟨c, i, none⟩ u) :=
  ⟨⟨cell_set u (by omega) h.1.1, cell_set u (by omega) h.1.2.1, cell_set u (by omega) h.1.2.2.1, cell_set u (by omega) h.1.2.2.2.1, cell_set u (by omega) h.1.2.2.2.2.1, cell_set u (by omega) h.1.2.2.2.2.2.1, cell_set u (by omega) h.1.2.2.2.2.2.2.1, cell_set u (by omega) h.1.2.2.2.2.2.2.2.1, cell_set u (by omega) h.1.2.2.2.2.2.2.2.2.1, cell_set u (by omega) h.1.2.2.2.2.2.2.2.2.2.1, cell_set u (by omega) h.1.2.2.2.2.2.2.2.2.2.2.1, cell_set u (by omega) h.1.2.2.2.2.2.2.2.2.2.2.2⟩, h.2.setCell (p := ⟨c, i, none⟩) (by show w.heap.size ≤ c; omega) u⟩

set_option maxRecDepth 100000 in
set_option maxHeartbeats 4000000 in
theorem ijoinA_any (r s : Int) (f g : Nat → Nat) (w : World) (hf : ∀ r, f r < 2251799813685248) (hg : ∀ r, g r < 2251799813685248) :
    Calls Tryz.prog 73 #[atV r f, atV s g] w fun e w' => e = .returned (atV (max r s) (joinF f g)) ∧ Below w.heap.size w w' := by
  have jn := fun W => join_any f g W hf hg
  unfold setV at jn
  obtain ⟨j, hj⟩ : ∃ j, Hid (joinF f g = j) := ⟨_, Lib.hid rfl⟩
  rw [hj.out] at jn ⊢
  clear hf hg
  unfold atV
  have A0 := (Below.heap_alloc _ (.cells #[.int .i64 0, .int .u64 0, .int .u64 0, .int .u64 0, .int .u64 0, .int .u64 0] 76) _ (by simp; omega)).trans ((Below.heap_alloc _ (.cells #[.int .i64 s, .int .u64 (g 0), .int .u64 (g 1), .int .u64 (g 2), .int .u64 (g 3), .int .u64 (g 4)] 76) _ (by simp)).trans (heap_alloc_new w (.cells #[.int .i64 r, .int .u64 (f 0), .int .u64 (f 1), .int .u64 (f 2), .int .u64 (f 3), .int .u64 (f 4)] 76)))
  have B0 := (Below.heap_alloc _ (.cells #[.int .i64 0, .int .u64 0, .int .u64 0, .int .u64 0, .int .u64 0, .int .u64 0] 76) _ (by simp)).trans (heap_alloc_at (w.alloc (.cells #[.int .i64 r, .int .u64 (f 0), .int .u64 (f 1), .int .u64 (f 2), .int .u64 (f 3), .int .u64 (f 4)] 76)) (.cells #[.int .i64 s, .int .u64 (g 0), .int .u64 (g 1), .int .u64 (g 2), .int .u64 (g 3), .int .u64 (g 4)] 76) (w.heap.size + 1) (by simp))
  have R0 := Lib.hid (heap_alloc_at ((w.alloc (.cells #[.int .i64 r, .int .u64 (f 0), .int .u64 (f 1), .int .u64 (f 2), .int .u64 (f 3), .int .u64 (f 4)] 76)).alloc (.cells #[.int .i64 s, .int .u64 (g 0), .int .u64 (g 1), .int .u64 (g 2), .int .u64 (g 3), .int .u64 (g 4)] 76)) (.cells #[.int .i64 0, .int .u64 0, .int .u64 0, .int .u64 0, .int .u64 0, .int .u64 0] 76) (w.heap.size + 1 + 1) (by simp))
  have D0 := (((Below.refl w.heap.size w).alloc (Nat.le_refl _) (.cells #[.int .i64 r, .int .u64 (f 0), .int .u64 (f 1), .int .u64 (f 2), .int .u64 (f 3), .int .u64 (f 4)] 76)).alloc (by simp) (.cells #[.int .i64 s, .int .u64 (g 0), .int .u64 (g 1), .int .u64 (g 2), .int .u64 (g 3), .int .u64 (g 4)] 76)).alloc (by simp; omega) (.cells #[.int .i64 0, .int .u64 0, .int .u64 0, .int .u64 0, .int .u64 0, .int .u64 0] 76)
  have H0 := Lib.hid (show ((((w.alloc (.cells #[.int .i64 r, .int .u64 (f 0), .int .u64 (f 1), .int .u64 (f 2), .int .u64 (f 3), .int .u64 (f 4)] 76)).alloc (.cells #[.int .i64 s, .int .u64 (g 0), .int .u64 (g 1), .int .u64 (g 2), .int .u64 (g 3), .int .u64 (g 4)] 76)).alloc (.cells #[.int .i64 0, .int .u64 0, .int .u64 0, .int .u64 0, .int .u64 0, .int .u64 0] 76)).cell? ⟨w.heap.size, 0, none⟩ = some (.int .i64 r) ∧ (((w.alloc (.cells #[.int .i64 r, .int .u64 (f 0), .int .u64 (f 1), .int .u64 (f 2), .int .u64 (f 3), .int .u64 (f 4)] 76)).alloc (.cells #[.int .i64 s, .int .u64 (g 0), .int .u64 (g 1), .int .u64 (g 2), .int .u64 (g 3), .int .u64 (g 4)] 76)).alloc (.cells #[.int .i64 0, .int .u64 0, .int .u64 0, .int .u64 0, .int .u64 0, .int .u64 0] 76)).cell? ⟨w.heap.size, 1, none⟩ = some (.int .u64 (f 0)) ∧ (((w.alloc (.cells #[.int .i64 r, .int .u64 (f 0), .int .u64 (f 1), .int .u64 (f 2), .int .u64 (f 3), .int .u64 (f 4)] 76)).alloc (.cells #[.int .i64 s, .int .u64 (g 0), .int .u64 (g 1), .int .u64 (g 2), .int .u64 (g 3), .int .u64 (g 4)] 76)).alloc (.cells #[.int .i64 0, .int .u64 0, .int .u64 0, .int .u64 0, .int .u64 0, .int .u64 0] 76)).cell? ⟨w.heap.size, 2, none⟩ = some (.int .u64 (f 1)) ∧ (((w.alloc (.cells #[.int .i64 r, .int .u64 (f 0), .int .u64 (f 1), .int .u64 (f 2), .int .u64 (f 3), .int .u64 (f 4)] 76)).alloc (.cells #[.int .i64 s, .int .u64 (g 0), .int .u64 (g 1), .int .u64 (g 2), .int .u64 (g 3), .int .u64 (g 4)] 76)).alloc (.cells #[.int .i64 0, .int .u64 0, .int .u64 0, .int .u64 0, .int .u64 0, .int .u64 0] 76)).cell? ⟨w.heap.size, 3, none⟩ = some (.int .u64 (f 2)) ∧ (((w.alloc (.cells #[.int .i64 r, .int .u64 (f 0), .int .u64 (f 1), .int .u64 (f 2), .int .u64 (f 3), .int .u64 (f 4)] 76)).alloc (.cells #[.int .i64 s, .int .u64 (g 0), .int .u64 (g 1), .int .u64 (g 2), .int .u64 (g 3), .int .u64 (g 4)] 76)).alloc (.cells #[.int .i64 0, .int .u64 0, .int .u64 0, .int .u64 0, .int .u64 0, .int .u64 0] 76)).cell? ⟨w.heap.size, 4, none⟩ = some (.int .u64 (f 3)) ∧ (((w.alloc (.cells #[.int .i64 r, .int .u64 (f 0), .int .u64 (f 1), .int .u64 (f 2), .int .u64 (f 3), .int .u64 (f 4)] 76)).alloc (.cells #[.int .i64 s, .int .u64 (g 0), .int .u64 (g 1), .int .u64 (g 2), .int .u64 (g 3), .int .u64 (g 4)] 76)).alloc (.cells #[.int .i64 0, .int .u64 0, .int .u64 0, .int .u64 0, .int .u64 0, .int .u64 0] 76)).cell? ⟨w.heap.size, 5, none⟩ = some (.int .u64 (f 4)) ∧ (((w.alloc (.cells #[.int .i64 r, .int .u64 (f 0), .int .u64 (f 1), .int .u64 (f 2), .int .u64 (f 3), .int .u64 (f 4)] 76)).alloc (.cells #[.int .i64 s, .int .u64 (g 0), .int .u64 (g 1), .int .u64 (g 2), .int .u64 (g 3), .int .u64 (g 4)] 76)).alloc (.cells #[.int .i64 0, .int .u64 0, .int .u64 0, .int .u64 0, .int .u64 0, .int .u64 0] 76)).cell? ⟨w.heap.size + 1, 0, none⟩ = some (.int .i64 s) ∧ (((w.alloc (.cells #[.int .i64 r, .int .u64 (f 0), .int .u64 (f 1), .int .u64 (f 2), .int .u64 (f 3), .int .u64 (f 4)] 76)).alloc (.cells #[.int .i64 s, .int .u64 (g 0), .int .u64 (g 1), .int .u64 (g 2), .int .u64 (g 3), .int .u64 (g 4)] 76)).alloc (.cells #[.int .i64 0, .int .u64 0, .int .u64 0, .int .u64 0, .int .u64 0, .int .u64 0] 76)).cell? ⟨w.heap.size + 1, 1, none⟩ = some (.int .u64 (g 0)) ∧ (((w.alloc (.cells #[.int .i64 r, .int .u64 (f 0), .int .u64 (f 1), .int .u64 (f 2), .int .u64 (f 3), .int .u64 (f 4)] 76)).alloc (.cells #[.int .i64 s, .int .u64 (g 0), .int .u64 (g 1), .int .u64 (g 2), .int .u64 (g 3), .int .u64 (g 4)] 76)).alloc (.cells #[.int .i64 0, .int .u64 0, .int .u64 0, .int .u64 0, .int .u64 0, .int .u64 0] 76)).cell? ⟨w.heap.size + 1, 2, none⟩ = some (.int .u64 (g 1)) ∧ (((w.alloc (.cells #[.int .i64 r, .int .u64 (f 0), .int .u64 (f 1), .int .u64 (f 2), .int .u64 (f 3), .int .u64 (f 4)] 76)).alloc (.cells #[.int .i64 s, .int .u64 (g 0), .int .u64 (g 1), .int .u64 (g 2), .int .u64 (g 3), .int .u64 (g 4)] 76)).alloc (.cells #[.int .i64 0, .int .u64 0, .int .u64 0, .int .u64 0, .int .u64 0, .int .u64 0] 76)).cell? ⟨w.heap.size + 1, 3, none⟩ = some (.int .u64 (g 2)) ∧ (((w.alloc (.cells #[.int .i64 r, .int .u64 (f 0), .int .u64 (f 1), .int .u64 (f 2), .int .u64 (f 3), .int .u64 (f 4)] 76)).alloc (.cells #[.int .i64 s, .int .u64 (g 0), .int .u64 (g 1), .int .u64 (g 2), .int .u64 (g 3), .int .u64 (g 4)] 76)).alloc (.cells #[.int .i64 0, .int .u64 0, .int .u64 0, .int .u64 0, .int .u64 0, .int .u64 0] 76)).cell? ⟨w.heap.size + 1, 4, none⟩ = some (.int .u64 (g 3)) ∧ (((w.alloc (.cells #[.int .i64 r, .int .u64 (f 0), .int .u64 (f 1), .int .u64 (f 2), .int .u64 (f 3), .int .u64 (f 4)] 76)).alloc (.cells #[.int .i64 s, .int .u64 (g 0), .int .u64 (g 1), .int .u64 (g 2), .int .u64 (g 3), .int .u64 (g 4)] 76)).alloc (.cells #[.int .i64 0, .int .u64 0, .int .u64 0, .int .u64 0, .int .u64 0, .int .u64 0] 76)).cell? ⟨w.heap.size + 1, 5, none⟩ = some (.int .u64 (g 4))) ∧ Below w.heap.size w (((w.alloc (.cells #[.int .i64 r, .int .u64 (f 0), .int .u64 (f 1), .int .u64 (f 2), .int .u64 (f 3), .int .u64 (f 4)] 76)).alloc (.cells #[.int .i64 s, .int .u64 (g 0), .int .u64 (g 1), .int .u64 (g 2), .int .u64 (g 3), .int .u64 (g 4)] 76)).alloc (.cells #[.int .i64 0, .int .u64 0, .int .u64 0, .int .u64 0, .int .u64 0, .int .u64 0] 76)) from ⟨by obtain ⟨⟨a0, a1, a2, a3, a4, a5⟩, _, _⟩ := all6 A0; obtain ⟨⟨b0, b1, b2, b3, b4, b5⟩, _, _⟩ := all6 B0; exact ⟨a0, a1, a2, a3, a4, a5, b0, b1, b2, b3, b4, b5⟩, D0⟩)
  clear A0 B0 D0
  rcases (show (s ≤ r ∧ max r s = r) ∨ (¬ s ≤ r ∧ max r s = s) by omega) with ⟨hm, e⟩ | ⟨hm, e⟩
  all_goals
    rw [e]
    clear e
    go_enter Tryz.func73, Tryz.ntmps73
    go_upto_region 1 with fail
    generalize (((w.alloc (.cells #[.int .i64 r, .int .u64 (f 0), .int .u64 (f 1), .int .u64 (f 2), .int .u64 (f 3), .int .u64 (f 4)] 76)).alloc (.cells #[.int .i64 s, .int .u64 (g 0), .int .u64 (g 1), .int .u64 (g 2), .int .u64 (g 3), .int .u64 (g 4)] 76)).alloc (.cells #[.int .i64 0, .int .u64 0, .int .u64 0, .int .u64 0, .int .u64 0, .int .u64 0] 76)) = w1 at R0 H0 ⊢
    have hR1 := lt_of_heap R0.out
    go_region_held3 (fun w' => (w'.cell? ⟨w.heap.size, 0, none⟩ = some (.int .i64 r) ∧ w'.cell? ⟨w.heap.size, 1, none⟩ = some (.int .u64 (f 0)) ∧ w'.cell? ⟨w.heap.size, 2, none⟩ = some (.int .u64 (f 1)) ∧ w'.cell? ⟨w.heap.size, 3, none⟩ = some (.int .u64 (f 2)) ∧ w'.cell? ⟨w.heap.size, 4, none⟩ = some (.int .u64 (f 3)) ∧ w'.cell? ⟨w.heap.size, 5, none⟩ = some (.int .u64 (f 4)) ∧ w'.cell? ⟨w.heap.size + 1, 0, none⟩ = some (.int .i64 s) ∧ w'.cell? ⟨w.heap.size + 1, 1, none⟩ = some (.int .u64 (g 0)) ∧ w'.cell? ⟨w.heap.size + 1, 2, none⟩ = some (.int .u64 (g 1)) ∧ w'.cell? ⟨w.heap.size + 1, 3, none⟩ = some (.int .u64 (g 2)) ∧ w'.cell? ⟨w.heap.size + 1, 4, none⟩ = some (.int .u64 (g 3)) ∧ w'.cell? ⟨w.heap.size + 1, 5, none⟩ = some (.int .u64 (g 4))) ∧ Below w.heap.size w w') (first | (with_reducible assumption) | ((with_reducible refine atj_set (c := w.heap.size + 1 + 1) (by omega) ?_); (with_reducible refine atj_set (c := w.heap.size + 1 + 1) (by omega) ?_); (with_reducible refine atj_set (c := w.heap.size + 1 + 1) (by omega) ?_); (with_reducible refine atj_set (c := w.heap.size + 1 + 1) (by omega) ?_); (with_reducible refine atj_set (c := w.heap.size + 1 + 1) (by omega) ?_); (with_reducible refine atj_set (c := w.heap.size + 1 + 1) (by omega) ?_); (with_reducible assumption)) | (with_reducible exact atj_drew H0.out) | (with_reducible exact atj_drew (by assumption)) | (with_reducible exact atj_keep (by assumption) (by assumption)) | (with_reducible exact atj_keep (by assumption) (atj_drew (by assumption))))
      (first | (go_at_call 55; (with_reducible refine (jn _).mono ?_); rintro e w' ⟨rfl, hb⟩; replace R0 := Lib.hid (by first | exact bblk hb (lt_of_heap R0.out) R0.out | exact bblk_d hb (lt_of_heap R0.out) R0.out); obtain ⟨⟨z0, z1, z2, z3, z4, z5⟩, fz, hzl⟩ := all6 R0.out; have f0 := fz 0; have f1 := fz 1; have f2 := fz 2; have f3 := fz 3; have f4 := fz 4; have f5 := fz 5))
    all_goals
      go_wp2_with fail
      refine bodyPost_ret (at_resJ _ _ _ _ _ _ _ _ _ _ rfl (put6_at _ _ _ _ _ _ R0.out)) rfl ⟨rfl, ?_⟩
      have Dw : Below w.heap.size w w' := by first | exact bstep H0.out.2 hb | exact bstep H0.out.2.drew hb
      exact Dw.trans (put6_below _ _ _ _ _ _ (by omega))
end Go.Proofs.YtdikcenhakfheaaGreatDoor

/- The program's DepsValid. -/
namespace Go.Proofs.YtdikcenhakfheaaGreatDoor
open Go.RowKit
set_option linter.unusedVariables false

set_option maxRecDepth 100000 in
set_option maxHeartbeats 1000000 in
theorem ival_any (u : Value) (L : List Pid) (w : World) (h : Ids w u L) :
    Calls Tryz.prog 96 #[u] w fun e w' => e = .returned (.bool (srtB L)) ∧ Below w.heap.size w w' := by
  have h := Lib.hid h
  go_enter Tryz.func96, Tryz.ntmps96
  go_wp2_with fail
  refine (iset_any u L _ h.out).mono ?_
  rintro e w1 ⟨rfl, hb⟩
  have D1 := Lib.hid hb
  clear hb h
  unfold setV
  go_wp2_with fail
  go_ret
  exact ⟨rfl, D1.out.alloc D1.out.size _⟩
end Go.Proofs.YtdikcenhakfheaaGreatDoor

/- The program's valid of a node. -/
namespace Go.Proofs.YtdikcenhakfheaaGreatDoor
open Go.RowKit
set_option linter.unusedVariables false

def ndB4 (r n s : Int) (v h : Bool) : Bool := idB r n && (decide (1 ≤ s ∧ s ≤ 99) && (v && !h))

set_option maxRecDepth 100000 in
set_option maxHeartbeats 2000000 in
theorem ndv_any (x : Nd) (u : Value) (w : World) (h : Ids w u x.deps) :
    Calls Tryz.prog 84 #[ndv x u] w fun e w' => e = .returned (.bool (ndB x)) ∧ Below w.heap.size w w' := by
  obtain ⟨⟨p, r⟩, s, L⟩ := x
  unfold ndv
  dsimp only at h ⊢
  have sv := ivid_any p r
  have sd := fun W (H : Ids W u L) => ival_any u L W H
  have sc := fun W (H : Ids W u L) => cont_any u L p r W H
  obtain ⟨c, hc⟩ : ∃ c, Hid (ndB ⟨(p, r), s, L⟩ = c) := ⟨_, Lib.hid rfl⟩
  rw [hc.out]
  have hc := Lib.hid (show ndB4 p r s (srtB L) (hasP L (p, r)) = c from hc.out)
  obtain ⟨q1, h1⟩ : ∃ q, idB p r = q := ⟨_, rfl⟩
  obtain ⟨q2, h2⟩ : ∃ q, srtB L = q := ⟨_, rfl⟩
  obtain ⟨q3, h3⟩ : ∃ q, hasP L (p, r) = q := ⟨_, rfl⟩
  have hc := hc.out
  unfold ndB4 at hc
  rw [h1] at sv hc
  rw [h2] at hc
  rw [h3] at hc
  rw [h2] at sd
  rw [h3] at sc
  clear h1 h2 h3
  have hI := Lib.hid (h.up ((Below.refl _ _).alloc (Nat.le_refl _) (.cells #[.int .i64 p, .int .i64 r, .int .i64 s, u] 126)) (Nat.le_refl _))
  have hD := Lib.hid ((Below.refl w.heap.size w).alloc (Nat.le_refl _) (.cells #[.int .i64 p, .int .i64 r, .int .i64 s, u] 126))
  obtain ⟨a0, a1, a2, a3⟩ := four_cells (heap_alloc_new w (.cells #[.int .i64 p, .int .i64 r, .int .i64 s, u] 126))
  clear h
  cases q1
  · obtain rfl : false = c := by simpa using hc
    clear hc sd sc hI
    go_enter Tryz.func84, Tryz.ntmps84
    go_wp2_with fail
    refine (sv _).mono ?_
    rintro e w1 ⟨rfl, B⟩
    have a0 := cell_later B a0
    have a1 := cell_later B a1
    have a2 := cell_later B a2
    have a3 := cell_later B a3
    have hD := Lib.hid (hD.out.trans (B.mono hD.out.size))
    clear B
    go_wp2_with fail
    go_ret
    exact ⟨rfl, hD.out⟩
  · by_cases hs1 : 1 ≤ s
    · by_cases hs2 : s ≤ 99
      · cases q2
        · obtain rfl : false = c := by simpa using hc
          clear hc sc
          go_enter Tryz.func84, Tryz.ntmps84
          go_wp2_with fail
          refine (sv _).mono ?_
          rintro e w1 ⟨rfl, B⟩
          have a0 := cell_later B a0
          have a1 := cell_later B a1
          have a2 := cell_later B a2
          have a3 := cell_later B a3
          have hI := Lib.hid (hI.out.up B (Nat.le_refl _))
          have hD := Lib.hid (hD.out.trans (B.mono hD.out.size))
          go_wp2_with fail
          refine (sd _ hI.out).mono ?_
          rintro e w2 ⟨rfl, B2⟩
          have a0 := cell_later B2 a0
          have a1 := cell_later B2 a1
          have a2 := cell_later B2 a2
          have a3 := cell_later B2 a3
          have hD := Lib.hid (hD.out.trans (B2.mono hD.out.size))
          clear B B2 hI sd sv
          go_wp2_with fail
          go_ret
          exact ⟨rfl, hD.out⟩
        · obtain rfl : (!q3) = c := by simpa [hs1, hs2] using hc
          clear hc
          go_enter Tryz.func84, Tryz.ntmps84
          go_wp2_with fail
          refine (sv _).mono ?_
          rintro e w1 ⟨rfl, B⟩
          have a0 := cell_later B a0
          have a1 := cell_later B a1
          have a2 := cell_later B a2
          have a3 := cell_later B a3
          have hI := Lib.hid (hI.out.up B (Nat.le_refl _))
          have hD := Lib.hid (hD.out.trans (B.mono hD.out.size))
          go_wp2_with fail
          refine (sd _ hI.out).mono ?_
          rintro e w2 ⟨rfl, B2⟩
          have a0 := cell_later B2 a0
          have a1 := cell_later B2 a1
          have a2 := cell_later B2 a2
          have a3 := cell_later B2 a3
          have hI := Lib.hid (hI.out.up B2 (Nat.le_refl _))
          have hD := Lib.hid (hD.out.trans (B2.mono hD.out.size))
          go_wp2_with fail
          refine (sc _ hI.out).mono ?_
          rintro e w3 ⟨rfl, B3⟩
          have a0 := cell_later B3 a0
          have a1 := cell_later B3 a1
          have a2 := cell_later B3 a2
          have a3 := cell_later B3 a3
          have hD := Lib.hid (hD.out.trans (B3.mono hD.out.size))
          clear B B2 B3 hI sd sv sc
          go_wp2_with fail
          go_ret
          exact ⟨rfl, hD.out⟩
      · obtain rfl : false = c := by simpa [hs2] using hc
        clear hc sd sc hI
        go_enter Tryz.func84, Tryz.ntmps84
        go_wp2_with fail
        refine (sv _).mono ?_
        rintro e w1 ⟨rfl, B⟩
        have a0 := cell_later B a0
        have a1 := cell_later B a1
        have a2 := cell_later B a2
        have a3 := cell_later B a3
        have hD := Lib.hid (hD.out.trans (B.mono hD.out.size))
        go_wp2_with fail
        go_ret
        exact ⟨rfl, hD.out⟩
    · obtain rfl : false = c := by simpa [hs1] using hc
      clear hc sd sc hI
      go_enter Tryz.func84, Tryz.ntmps84
      go_wp2_with fail
      refine (sv _).mono ?_
      rintro e w1 ⟨rfl, B⟩
      have a0 := cell_later B a0
      have a1 := cell_later B a1
      have a2 := cell_later B a2
      have a3 := cell_later B a3
      have hD := Lib.hid (hD.out.trans (B.mono hD.out.size))
      go_wp2_with fail
      go_ret
      exact ⟨rfl, hD.out⟩
end Go.Proofs.YtdikcenhakfheaaGreatDoor

/- The program's and the model's EntryValid. -/
namespace Go.Proofs.YtdikcenhakfheaaGreatDoor
open Go.RowKit
set_option linter.unusedVariables false

theorem nd_resN (tm : Array Value) (w : World) (b : Nat) (x y z u : Value) (t : TypeId) (h2 : tm[2]? = some (.pointer (some ⟨b, 0, none⟩))) (h : w.heap[b]? = some (.cells #[x, y, z, u] t (0, 0))) :
    (results Tryz.f83 tm).run Tryz.prog w = .ok (.agg #[x, y, z, u]) w := by
  obtain ⟨t0, t1, t2, t3⟩ := four_cells h
  simp [results, Tryz.results83, go_sem, h2, t0, t1, t2, t3]

set_option maxRecDepth 100000 in
theorem inode_any (e : En) (ua : Option Addr) (un uc : Nat) (w : World) :
    Calls Tryz.prog 83 #[env e (.slice ua un uc)] w fun x w' => x = .returned (ndv e.nd (.slice ua un uc)) ∧ Below w.heap.size w w' := by
  obtain ⟨⟨p, r⟩, bal, st, k, key, v, s, L⟩ := e
  dsimp only [env, En.nd, ndv]
  have D0 := Lib.hid (((Below.refl w.heap.size w).alloc (Nat.le_refl _) (.cells #[.int .i64 p, .int .i64 r, .int .i64 bal, .int .i64 st, .int .i64 k, .int .i64 key, .int .i64 v, .int .i64 s, .slice ua un uc] 30)).alloc (by simp) (.cells #[.int .i64 p, .int .i64 r, .int .i64 s, .slice ua un uc] 126))
  have hA := heap_alloc_at (w.alloc (.cells #[.int .i64 p, .int .i64 r, .int .i64 bal, .int .i64 st, .int .i64 k, .int .i64 key, .int .i64 v, .int .i64 s, .slice ua un uc] 30)) (.cells #[.int .i64 p, .int .i64 r, .int .i64 s, .slice ua un uc] 126) (w.heap.size + 1) (by simp)
  go_enter Tryz.func83, Tryz.ntmps83
  go_wp2_with fail
  exact bodyPost_ret (nd_resN _ _ _ _ _ _ _ _ rfl hA) rfl ⟨rfl, D0.out⟩

set_option maxRecDepth 100000 in
set_option maxHeartbeats 4000000 in
theorem ievalid_any (e : En) (u : Value) (w : World) (h : Ids w u e.deps) :
    Calls Tryz.prog 49 #[env e u] w fun x w' => x = .returned (.bool (enB e)) ∧ Below w.heap.size w w' := by
  obtain ⟨⟨p, r⟩, bal, st, k, key, v, s, L⟩ := e
  dsimp only at h
  obtain ⟨ua, un, uc, hu⟩ : ∃ ua un uc, u = .slice ua un uc := by obtain ⟨a, c, e, _⟩ := h; exact ⟨a, _, c, e⟩
  have sn := fun W => inode_any ⟨(p, r), bal, st, k, key, v, s, L⟩ ua un uc W
  rw [← hu] at sn
  clear hu
  have sv := fun W (H : Ids W u L) => ndv_any ⟨(p, r), s, L⟩ u W H
  have sc := fun W => ivalid_any k key v W
  have bf := fun W => ibf_any bal W
  dsimp only [env, En.nd, ndv] at sn sv ⊢
  obtain ⟨c, hc⟩ : ∃ c, enB ⟨(p, r), bal, st, k, key, v, s, L⟩ = c := ⟨_, rfl⟩
  rw [hc]
  dsimp only [enB, En.nd] at hc
  generalize ndB ⟨(p, r), s, L⟩ = q1 at sv hc
  generalize cvB k key v = q2 at sc hc
  generalize decide (0 ≤ bal ∧ bal ≤ 999) = b3 at bf hc
  have D0 := (Below.refl w.heap.size w).alloc (Nat.le_refl _) (.cells #[.int .i64 p, .int .i64 r, .int .i64 bal, .int .i64 st, .int .i64 k, .int .i64 key, .int .i64 v, .int .i64 s, u] 30)
  have hI := Lib.hid (h.up D0 (Nat.le_refl _))
  have hA := Lib.hid (heap_alloc_new w (.cells #[.int .i64 p, .int .i64 r, .int .i64 bal, .int .i64 st, .int .i64 k, .int .i64 key, .int .i64 v, .int .i64 s, u] 30))
  have D0 := Lib.hid D0
  clear h
  cases q1
  · obtain rfl : false = c := by simpa using hc
    clear hc sc bf
    go_enter Tryz.func49, Tryz.ntmps49
    go_wp2_with fail
    refine (sn _).mono ?_
    rintro e w1 ⟨rfl, B⟩
    have D1 := Lib.hid (bstep D0.out B)
    have hA := Lib.hid (bblk B (lt_of_heap hA.out) hA.out)
    have hI := Lib.hid (hI.out.up B (Nat.le_refl _))
    obtain ⟨a0, a1, a2, a3, a4, a5, a6, a7, a8⟩ := nine_cells hA.out
    have hal1 := lt_of_heap hA.out
    clear B D0
    go_wp2_with fail
    refine (sv _ hI.out).mono ?_
    rintro e w2 ⟨rfl, B⟩
    clear a0 a1 a2 a3 a4 a5 a6 a7 a8
    have D2 := Lib.hid (bstep D1.out B)
    have hA := Lib.hid (bblk B (lt_of_heap hA.out) hA.out)
    have hI := Lib.hid (hI.out.up B (Nat.le_refl _))
    obtain ⟨a0, a1, a2, a3, a4, a5, a6, a7, a8⟩ := nine_cells hA.out
    have hal2 := lt_of_heap hA.out
    clear B D1
    go_wp2_with fail
    go_ret
    exact ⟨rfl, D2.out⟩
  · cases b3
    · obtain rfl : false = c := by simpa using hc
      clear hc sc
      go_enter Tryz.func49, Tryz.ntmps49
      go_wp2_with fail
      refine (sn _).mono ?_
      rintro e w1 ⟨rfl, B⟩
      have D1 := Lib.hid (bstep D0.out B)
      have hA := Lib.hid (bblk B (lt_of_heap hA.out) hA.out)
      have hI := Lib.hid (hI.out.up B (Nat.le_refl _))
      obtain ⟨a0, a1, a2, a3, a4, a5, a6, a7, a8⟩ := nine_cells hA.out
      have hal1 := lt_of_heap hA.out
      clear B D0
      go_wp2_with fail
      refine (sv _ hI.out).mono ?_
      rintro e w2 ⟨rfl, B⟩
      clear a0 a1 a2 a3 a4 a5 a6 a7 a8
      have D2 := Lib.hid (bstep D1.out B)
      have hA := Lib.hid (bblk B (lt_of_heap hA.out) hA.out)
      have hI := Lib.hid (hI.out.up B (Nat.le_refl _))
      obtain ⟨a0, a1, a2, a3, a4, a5, a6, a7, a8⟩ := nine_cells hA.out
      have hal2 := lt_of_heap hA.out
      clear B D1
      go_wp2_with fail
      refine (bf _).mono ?_
      rintro e wb ⟨rfl, rfl⟩
      go_wp2_with fail
      go_ret
      exact ⟨rfl, D2.out⟩
    · by_cases hs1 : 1 ≤ st
      · by_cases hs2 : st ≤ 3
        · obtain rfl : q2 = c := by simpa [hs1, hs2] using hc
          clear hc
          go_enter Tryz.func49, Tryz.ntmps49
          go_wp2_with fail
          refine (sn _).mono ?_
          rintro e w1 ⟨rfl, B⟩
          have D1 := Lib.hid (bstep D0.out B)
          have hA := Lib.hid (bblk B (lt_of_heap hA.out) hA.out)
          have hI := Lib.hid (hI.out.up B (Nat.le_refl _))
          obtain ⟨a0, a1, a2, a3, a4, a5, a6, a7, a8⟩ := nine_cells hA.out
          have hal1 := lt_of_heap hA.out
          clear B D0
          go_wp2_with fail
          refine (sv _ hI.out).mono ?_
          rintro e w2 ⟨rfl, B⟩
          clear a0 a1 a2 a3 a4 a5 a6 a7 a8
          have D2 := Lib.hid (bstep D1.out B)
          have hA := Lib.hid (bblk B (lt_of_heap hA.out) hA.out)
          have hI := Lib.hid (hI.out.up B (Nat.le_refl _))
          obtain ⟨a0, a1, a2, a3, a4, a5, a6, a7, a8⟩ := nine_cells hA.out
          have hal2 := lt_of_heap hA.out
          clear B D1
          go_wp2_with fail
          refine (bf _).mono ?_
          rintro e wb ⟨rfl, rfl⟩
          go_wp2_with fail
          refine (sc _).mono ?_
          rintro e w3 ⟨rfl, B⟩
          clear a0 a1 a2 a3 a4 a5 a6 a7 a8
          have D3 := Lib.hid (bstep D2.out B)
          have hA := Lib.hid (bblk B (lt_of_heap hA.out) hA.out)
          have hI := Lib.hid (hI.out.up B (Nat.le_refl _))
          obtain ⟨a0, a1, a2, a3, a4, a5, a6, a7, a8⟩ := nine_cells hA.out
          have hal3 := lt_of_heap hA.out
          clear B D2
          go_wp2_with fail
          go_ret
          exact ⟨rfl, D3.out⟩
        · obtain rfl : false = c := by simpa [hs2] using hc
          clear hc sc
          go_enter Tryz.func49, Tryz.ntmps49
          go_wp2_with fail
          refine (sn _).mono ?_
          rintro e w1 ⟨rfl, B⟩
          have D1 := Lib.hid (bstep D0.out B)
          have hA := Lib.hid (bblk B (lt_of_heap hA.out) hA.out)
          have hI := Lib.hid (hI.out.up B (Nat.le_refl _))
          obtain ⟨a0, a1, a2, a3, a4, a5, a6, a7, a8⟩ := nine_cells hA.out
          have hal1 := lt_of_heap hA.out
          clear B D0
          go_wp2_with fail
          refine (sv _ hI.out).mono ?_
          rintro e w2 ⟨rfl, B⟩
          clear a0 a1 a2 a3 a4 a5 a6 a7 a8
          have D2 := Lib.hid (bstep D1.out B)
          have hA := Lib.hid (bblk B (lt_of_heap hA.out) hA.out)
          have hI := Lib.hid (hI.out.up B (Nat.le_refl _))
          obtain ⟨a0, a1, a2, a3, a4, a5, a6, a7, a8⟩ := nine_cells hA.out
          have hal2 := lt_of_heap hA.out
          clear B D1
          go_wp2_with fail
          refine (bf _).mono ?_
          rintro e wb ⟨rfl, rfl⟩
          go_wp2_with fail
          go_ret
          exact ⟨rfl, D2.out⟩
      · obtain rfl : false = c := by simpa [hs1] using hc
        clear hc sc
        go_enter Tryz.func49, Tryz.ntmps49
        go_wp2_with fail
        refine (sn _).mono ?_
        rintro e w1 ⟨rfl, B⟩
        have D1 := Lib.hid (bstep D0.out B)
        have hA := Lib.hid (bblk B (lt_of_heap hA.out) hA.out)
        have hI := Lib.hid (hI.out.up B (Nat.le_refl _))
        obtain ⟨a0, a1, a2, a3, a4, a5, a6, a7, a8⟩ := nine_cells hA.out
        have hal1 := lt_of_heap hA.out
        clear B D0
        go_wp2_with fail
        refine (sv _ hI.out).mono ?_
        rintro e w2 ⟨rfl, B⟩
        clear a0 a1 a2 a3 a4 a5 a6 a7 a8
        have D2 := Lib.hid (bstep D1.out B)
        have hA := Lib.hid (bblk B (lt_of_heap hA.out) hA.out)
        have hI := Lib.hid (hI.out.up B (Nat.le_refl _))
        obtain ⟨a0, a1, a2, a3, a4, a5, a6, a7, a8⟩ := nine_cells hA.out
        have hal2 := lt_of_heap hA.out
        clear B D1
        go_wp2_with fail
        refine (bf _).mono ?_
        rintro e wb ⟨rfl, rfl⟩
        go_wp2_with fail
        go_ret
        exact ⟨rfl, D2.out⟩

theorem in_of (x a b : Int) : inB x a b = decide (a ≤ x ∧ x ≤ b) := by rw [Bool.eq_iff_iff]; simp [inB]
set_option maxRecDepth 100000 in
set_option maxHeartbeats 4000000 in
theorem sentry_any (e : En) (u : Value) (w : World) (h : Ids w u e.deps) :
    Calls Tryz.prog 41 #[env e u] w fun x w' => x = .returned (.bool (enB e)) ∧ Below w.heap.size w w' := by
  obtain ⟨⟨p, r⟩, bal, st, k, key, v, s, L⟩ := e
  dsimp only [env] at h ⊢
  have s1 := fun W => svid_any p r W
  have i1 := fun W => in_any bal 0 999 W
  have i2 := fun W => in_any st 1 3 W
  have s2 := fun W => svalid_any k key v W
  have i3 := fun W => in_any s 1 99 W
  have s3 := fun W (H : Ids W u L) => sval_any u L W H
  have s4 := fun W (H : Ids W u L) => shas_any u L p r W H
  obtain ⟨c, hc⟩ : ∃ c, enB ⟨(p, r), bal, st, k, key, v, s, L⟩ = c := ⟨_, rfl⟩
  rw [hc]
  replace hc : (idB p r && inB bal 0 999 && inB st 1 3 && cvB k key v && inB s 1 99 && srtB L && !hasP L (p, r)) = c := by
    rw [← hc, in_of, in_of, in_of]
    dsimp only [enB, En.nd, ndB, okP]
    cases idB p r <;> cases decide (0 ≤ bal ∧ bal ≤ 999) <;> cases decide (1 ≤ st ∧ st ≤ 3) <;> cases cvB k key v <;> cases decide (1 ≤ s ∧ s ≤ 99) <;> cases srtB L <;> cases hasP L (p, r) <;> rfl
  generalize idB p r = q1 at s1 hc
  generalize inB bal 0 999 = q2 at i1 hc
  generalize inB st 1 3 = q3 at i2 hc
  generalize cvB k key v = q4 at s2 hc
  generalize inB s 1 99 = q5 at i3 hc
  generalize srtB L = q6 at s3 hc
  generalize hasP L (p, r) = q7 at s4 hc
  have D0 := (Below.refl w.heap.size w).alloc (Nat.le_refl _) (.cells #[.int .i64 p, .int .i64 r, .int .i64 bal, .int .i64 st, .int .i64 k, .int .i64 key, .int .i64 v, .int .i64 s, u] 30)
  have hI := Lib.hid (h.up D0 (Nat.le_refl _))
  have hA := Lib.hid (heap_alloc_new w (.cells #[.int .i64 p, .int .i64 r, .int .i64 bal, .int .i64 st, .int .i64 k, .int .i64 key, .int .i64 v, .int .i64 s, u] 30))
  have D0 := Lib.hid D0
  clear h
  cases q1
  · obtain rfl : false = c := by simpa using hc
    clear hc
    go_enter Tryz.func41, Tryz.ntmps41
    go_wp2_with fail
    refine (s1 _).mono ?_
    rintro e w1 ⟨rfl, B⟩
    have D1 := Lib.hid (bstep D0.out B)
    have hA := Lib.hid (bblk B (lt_of_heap hA.out) hA.out)
    have hI := Lib.hid (hI.out.up B (Nat.le_refl _))
    obtain ⟨a0, a1, a2, a3, a4, a5, a6, a7, a8⟩ := nine_cells hA.out
    have hal1 := lt_of_heap hA.out
    clear B D0
    go_wp2_with fail
    go_ret
    exact ⟨rfl, D1.out⟩
  · cases q2
    · obtain rfl : false = c := by simpa using hc
      clear hc
      go_enter Tryz.func41, Tryz.ntmps41
      go_wp2_with fail
      refine (s1 _).mono ?_
      rintro e w1 ⟨rfl, B⟩
      have D1 := Lib.hid (bstep D0.out B)
      have hA := Lib.hid (bblk B (lt_of_heap hA.out) hA.out)
      have hI := Lib.hid (hI.out.up B (Nat.le_refl _))
      obtain ⟨a0, a1, a2, a3, a4, a5, a6, a7, a8⟩ := nine_cells hA.out
      have hal1 := lt_of_heap hA.out
      clear B D0
      go_wp2_with fail
      refine (i1 _).mono ?_
      rintro e w2 ⟨rfl, rfl⟩
      go_wp2_with fail
      go_ret
      exact ⟨rfl, D1.out⟩
    · cases q3
      · obtain rfl : false = c := by simpa using hc
        clear hc
        go_enter Tryz.func41, Tryz.ntmps41
        go_wp2_with fail
        refine (s1 _).mono ?_
        rintro e w1 ⟨rfl, B⟩
        have D1 := Lib.hid (bstep D0.out B)
        have hA := Lib.hid (bblk B (lt_of_heap hA.out) hA.out)
        have hI := Lib.hid (hI.out.up B (Nat.le_refl _))
        obtain ⟨a0, a1, a2, a3, a4, a5, a6, a7, a8⟩ := nine_cells hA.out
        have hal1 := lt_of_heap hA.out
        clear B D0
        go_wp2_with fail
        refine (i1 _).mono ?_
        rintro e w2 ⟨rfl, rfl⟩
        go_wp2_with fail
        refine (i2 _).mono ?_
        rintro e w3 ⟨rfl, rfl⟩
        go_wp2_with fail
        go_ret
        exact ⟨rfl, D1.out⟩
      · cases q4
        · obtain rfl : false = c := by simpa using hc
          clear hc
          go_enter Tryz.func41, Tryz.ntmps41
          go_wp2_with fail
          refine (s1 _).mono ?_
          rintro e w1 ⟨rfl, B⟩
          have D1 := Lib.hid (bstep D0.out B)
          have hA := Lib.hid (bblk B (lt_of_heap hA.out) hA.out)
          have hI := Lib.hid (hI.out.up B (Nat.le_refl _))
          obtain ⟨a0, a1, a2, a3, a4, a5, a6, a7, a8⟩ := nine_cells hA.out
          have hal1 := lt_of_heap hA.out
          clear B D0
          go_wp2_with fail
          refine (i1 _).mono ?_
          rintro e w2 ⟨rfl, rfl⟩
          go_wp2_with fail
          refine (i2 _).mono ?_
          rintro e w3 ⟨rfl, rfl⟩
          go_wp2_with fail
          refine (s2 _).mono ?_
          rintro e w4 ⟨rfl, B⟩
          clear a0 a1 a2 a3 a4 a5 a6 a7 a8
          have D2 := Lib.hid (bstep D1.out B)
          have hA := Lib.hid (bblk B (lt_of_heap hA.out) hA.out)
          have hI := Lib.hid (hI.out.up B (Nat.le_refl _))
          obtain ⟨a0, a1, a2, a3, a4, a5, a6, a7, a8⟩ := nine_cells hA.out
          have hal2 := lt_of_heap hA.out
          clear B D1
          go_wp2_with fail
          go_ret
          exact ⟨rfl, D2.out⟩
        · cases q5
          · obtain rfl : false = c := by simpa using hc
            clear hc
            go_enter Tryz.func41, Tryz.ntmps41
            go_wp2_with fail
            refine (s1 _).mono ?_
            rintro e w1 ⟨rfl, B⟩
            have D1 := Lib.hid (bstep D0.out B)
            have hA := Lib.hid (bblk B (lt_of_heap hA.out) hA.out)
            have hI := Lib.hid (hI.out.up B (Nat.le_refl _))
            obtain ⟨a0, a1, a2, a3, a4, a5, a6, a7, a8⟩ := nine_cells hA.out
            have hal1 := lt_of_heap hA.out
            clear B D0
            go_wp2_with fail
            refine (i1 _).mono ?_
            rintro e w2 ⟨rfl, rfl⟩
            go_wp2_with fail
            refine (i2 _).mono ?_
            rintro e w3 ⟨rfl, rfl⟩
            go_wp2_with fail
            refine (s2 _).mono ?_
            rintro e w4 ⟨rfl, B⟩
            clear a0 a1 a2 a3 a4 a5 a6 a7 a8
            have D2 := Lib.hid (bstep D1.out B)
            have hA := Lib.hid (bblk B (lt_of_heap hA.out) hA.out)
            have hI := Lib.hid (hI.out.up B (Nat.le_refl _))
            obtain ⟨a0, a1, a2, a3, a4, a5, a6, a7, a8⟩ := nine_cells hA.out
            have hal2 := lt_of_heap hA.out
            clear B D1
            go_wp2_with fail
            refine (i3 _).mono ?_
            rintro e w5 ⟨rfl, rfl⟩
            go_wp2_with fail
            go_ret
            exact ⟨rfl, D2.out⟩
          · cases q6
            · obtain rfl : false = c := by simpa using hc
              clear hc
              go_enter Tryz.func41, Tryz.ntmps41
              go_wp2_with fail
              refine (s1 _).mono ?_
              rintro e w1 ⟨rfl, B⟩
              have D1 := Lib.hid (bstep D0.out B)
              have hA := Lib.hid (bblk B (lt_of_heap hA.out) hA.out)
              have hI := Lib.hid (hI.out.up B (Nat.le_refl _))
              obtain ⟨a0, a1, a2, a3, a4, a5, a6, a7, a8⟩ := nine_cells hA.out
              have hal1 := lt_of_heap hA.out
              clear B D0
              go_wp2_with fail
              refine (i1 _).mono ?_
              rintro e w2 ⟨rfl, rfl⟩
              go_wp2_with fail
              refine (i2 _).mono ?_
              rintro e w3 ⟨rfl, rfl⟩
              go_wp2_with fail
              refine (s2 _).mono ?_
              rintro e w4 ⟨rfl, B⟩
              clear a0 a1 a2 a3 a4 a5 a6 a7 a8
              have D2 := Lib.hid (bstep D1.out B)
              have hA := Lib.hid (bblk B (lt_of_heap hA.out) hA.out)
              have hI := Lib.hid (hI.out.up B (Nat.le_refl _))
              obtain ⟨a0, a1, a2, a3, a4, a5, a6, a7, a8⟩ := nine_cells hA.out
              have hal2 := lt_of_heap hA.out
              clear B D1
              go_wp2_with fail
              refine (i3 _).mono ?_
              rintro e w5 ⟨rfl, rfl⟩
              go_wp2_with fail
              refine (s3 _ hI.out).mono ?_
              rintro e w6 ⟨rfl, B⟩
              clear a0 a1 a2 a3 a4 a5 a6 a7 a8
              have D3 := Lib.hid (bstep D2.out B)
              have hA := Lib.hid (bblk B (lt_of_heap hA.out) hA.out)
              have hI := Lib.hid (hI.out.up B (Nat.le_refl _))
              obtain ⟨a0, a1, a2, a3, a4, a5, a6, a7, a8⟩ := nine_cells hA.out
              have hal3 := lt_of_heap hA.out
              clear B D2
              go_wp2_with fail
              go_ret
              exact ⟨rfl, D3.out⟩
            · obtain rfl : (!q7) = c := by simpa using hc
              clear hc
              go_enter Tryz.func41, Tryz.ntmps41
              go_wp2_with fail
              refine (s1 _).mono ?_
              rintro e w1 ⟨rfl, B⟩
              have D1 := Lib.hid (bstep D0.out B)
              have hA := Lib.hid (bblk B (lt_of_heap hA.out) hA.out)
              have hI := Lib.hid (hI.out.up B (Nat.le_refl _))
              obtain ⟨a0, a1, a2, a3, a4, a5, a6, a7, a8⟩ := nine_cells hA.out
              have hal1 := lt_of_heap hA.out
              clear B D0
              go_wp2_with fail
              refine (i1 _).mono ?_
              rintro e w2 ⟨rfl, rfl⟩
              go_wp2_with fail
              refine (i2 _).mono ?_
              rintro e w3 ⟨rfl, rfl⟩
              go_wp2_with fail
              refine (s2 _).mono ?_
              rintro e w4 ⟨rfl, B⟩
              clear a0 a1 a2 a3 a4 a5 a6 a7 a8
              have D2 := Lib.hid (bstep D1.out B)
              have hA := Lib.hid (bblk B (lt_of_heap hA.out) hA.out)
              have hI := Lib.hid (hI.out.up B (Nat.le_refl _))
              obtain ⟨a0, a1, a2, a3, a4, a5, a6, a7, a8⟩ := nine_cells hA.out
              have hal2 := lt_of_heap hA.out
              clear B D1
              go_wp2_with fail
              refine (i3 _).mono ?_
              rintro e w5 ⟨rfl, rfl⟩
              go_wp2_with fail
              refine (s3 _ hI.out).mono ?_
              rintro e w6 ⟨rfl, B⟩
              clear a0 a1 a2 a3 a4 a5 a6 a7 a8
              have D3 := Lib.hid (bstep D2.out B)
              have hA := Lib.hid (bblk B (lt_of_heap hA.out) hA.out)
              have hI := Lib.hid (hI.out.up B (Nat.le_refl _))
              obtain ⟨a0, a1, a2, a3, a4, a5, a6, a7, a8⟩ := nine_cells hA.out
              have hal3 := lt_of_heap hA.out
              clear B D2
              go_wp2_with fail
              refine (s4 _ hI.out).mono ?_
              rintro e w7 ⟨rfl, B⟩
              clear a0 a1 a2 a3 a4 a5 a6 a7 a8
              have D4 := Lib.hid (bstep D3.out B)
              have hA := Lib.hid (bblk B (lt_of_heap hA.out) hA.out)
              have hI := Lib.hid (hI.out.up B (Nat.le_refl _))
              obtain ⟨a0, a1, a2, a3, a4, a5, a6, a7, a8⟩ := nine_cells hA.out
              have hal4 := lt_of_heap hA.out
              clear B D3
              go_wp2_with fail
              go_ret
              exact ⟨rfl, D4.out⟩
end Go.Proofs.YtdikcenhakfheaaGreatDoor

/- The program's many. -/
namespace Go.Proofs.YtdikcenhakfheaaGreatDoor
open Go.RowKit
set_option linter.unusedVariables false

set_option maxRecDepth 100000 in
set_option maxHeartbeats 2000000 in
theorem many_any (f : Nat → Nat) (w : World) (hf : ∀ r, f r < 2251799813685248) :
    Calls Tryz.prog 56 #[setV f] w fun e w' => e = .returned (.int .i64 (manyN f)) ∧ Below w.heap.size w w' := by
  have c0 := fun w => ones_any (f 0) w (by have := hf 0; omega)
  have c1 := fun w => ones_any (f 1) w (by have := hf 1; omega)
  have c2 := fun w => ones_any (f 2) w (by have := hf 2; omega)
  have c3 := fun w => ones_any (f 3) w (by have := hf 3; omega)
  have c4 := fun w => ones_any (f 4) w (by have := hf 4; omega)
  have b0 := pc_le 64 (f 0); have b1 := pc_le 64 (f 1); have b2 := pc_le 64 (f 2); have b3 := pc_le 64 (f 3); have b4 := pc_le 64 (f 4)
  have k0 := fun w => sx_i0 (.int .u64 (f 0)) (.int .u64 (f 1)) (.int .u64 (f 2)) (.int .u64 (f 3)) (.int .u64 (f 4)) w
  have k1 := fun w => sx_i1 (.int .u64 (f 0)) (.int .u64 (f 1)) (.int .u64 (f 2)) (.int .u64 (f 3)) (.int .u64 (f 4)) w
  have k2 := fun w => sx_i2 (.int .u64 (f 0)) (.int .u64 (f 1)) (.int .u64 (f 2)) (.int .u64 (f 3)) (.int .u64 (f 4)) w
  have k3 := fun w => sx_i3 (.int .u64 (f 0)) (.int .u64 (f 1)) (.int .u64 (f 2)) (.int .u64 (f 3)) (.int .u64 (f 4)) w
  have k4 := fun w => sx_i4 (.int .u64 (f 0)) (.int .u64 (f 1)) (.int .u64 (f 2)) (.int .u64 (f 3)) (.int .u64 (f 4)) w
  clear hf
  unfold setV manyN
  generalize pc 64 (f 0) = p0 at *
  generalize pc 64 (f 1) = p1 at *
  generalize pc 64 (f 2) = p2 at *
  generalize pc 64 (f 3) = p3 at *
  generalize pc 64 (f 4) = p4 at *
  go_enter Tryz.func56, Tryz.ntmps56
  go_wp2_with fail
  refine wp_loop_rounds 6 ?_
  rw [rounds_succ]
  go_wp2_with fail
  refine (c0 _).mono ?_
  rintro e w1 ⟨rfl, rfl⟩
  go_wp2_with fail
  rw [rounds_succ]
  go_wp2_with fail
  refine (c1 _).mono ?_
  rintro e w1 ⟨rfl, rfl⟩
  go_wp2_with fail
  rw [rounds_succ]
  go_wp2_with fail
  refine (c2 _).mono ?_
  rintro e w1 ⟨rfl, rfl⟩
  go_wp2_with fail
  rw [rounds_succ]
  go_wp2_with fail
  refine (c3 _).mono ?_
  rintro e w1 ⟨rfl, rfl⟩
  go_wp2_with fail
  rw [rounds_succ]
  go_wp2_with fail
  refine (c4 _).mono ?_
  rintro e w1 ⟨rfl, rfl⟩
  go_wp2_with fail
  rw [rounds_succ]
  go_wp2_with fail
  go_ret
  exact ⟨by congr 2, (Below.refl _ _).alloc (Nat.le_refl _) _⟩
end Go.Proofs.YtdikcenhakfheaaGreatDoor

/- The program's ids of a set. -/
namespace Go.Proofs.YtdikcenhakfheaaGreatDoor
open Go.RowKit
set_option linter.unusedVariables false

theorem TabIn.up {w w' : World} {B : Nat} (h : TabIn w) (hb : Below B w w') (hB : w.heap.size ≤ B) : TabIn w' := by
  intro j hj
  have hc := h j hj
  have hl : 0 < w.heap.size := by simpa using World.block_lt_of_cell? w _ hc
  exact (hb.cell (p := ⟨0, j, none⟩) (Nat.lt_of_lt_of_le hl hB)).trans hc

theorem make_cap (n : Nat) (hn : n ≤ 2000000) (w : World) : (Instr.makeSlice 28 (.int .i64 0) (.int .i64 n)).run Tryz.prog w = .ok (.slice (some ⟨w.heap.size, 0, none⟩) 0 n) (w.alloc (.cells (madeCells #[.int .i64 0, .int .i64 0] (n * 2)) 25)) := by
  obtain ⟨i, hi, hz, hs, hb⟩ := info_parts info_id
  have hr := run_make (P := Tryz.prog) w 28 25 i _ Tryz.underlying28 hi hz .i64 .i64 0 n (by omega) (by omega) (by rw [hb]; omega) (by omega)
  simp only [Int.toNat_natCast, hs] at hr
  exact hr
theorem madeP_size (n : Nat) : (madeCells #[.int .i64 0, .int .i64 0] (n * 2)).size = n * 2 := by simp [madeCells]
theorem row_cap (w : World) (n B : Nat) (hB : B ≤ w.heap.size) (hn : n ≤ 2000000) : Row (w.alloc (.cells (madeCells #[.int .i64 0, .int .i64 0] (n * 2)) 25)) B (.slice (some ⟨w.heap.size, 0, none⟩) 0 n) [] :=
  ⟨World.ownsRow_made _ _ n hB (by unfold maxLen; omega) (madeP_size n), by simp⟩

theorem ido_next {w w1 w2 : World} {v v' : Value} {O : List Pid} {x y : Int} {o : Obj} (hR : Row w1 w.heap.size v O) (hown : w2.ownsRow w.heap.size 25 2 v' (O.length + 1) (flatP O ++ [.int .i64 x, .int .i64 y]))
    (hg : (w1.alloc o).grownBy w2 (Value.ownBlock v)) (hn : v' ≠ .slice none 0 0) (D : Below w.heap.size w w1) : Row w2 w.heap.size v' (O ++ [(x, y)]) ∧ Below w.heap.size w w2 := by
  have hR1 : Row (w1.alloc o) w.heap.size v O := hR.up ((Below.refl _ _).alloc (Nat.le_refl _) _)
  exact ⟨hR.put hown hn, (D.alloc D.size o).trans (grown_below hR1 hg (by have := D.size; simp; omega))⟩

/-- What ids leaves. -/
def IdsoPost (f : Nat → Nat) (w : World) (e : Ending) (w' : World) : Prop :=
  ∃ b u, w.heap.size ≤ b ∧ e = .returned u ∧ OwnP w' b u (idsO f) ∧ Below w.heap.size w w'

theorem ido_len {f : Nat → Nat} {O X Y : List Pid} (h : O ++ (X ++ Y) = idsO f) : O.length ≤ 320 := by
  have := congrArg List.length h
  rw [List.length_append, idsO_len] at this
  have := manyN_le f
  omega

set_option maxRecDepth 100000 in
set_option maxHeartbeats 4000000 in
theorem idso_any (f : Nat → Nat) (w : World) (hf : ∀ r, f r < 2251799813685248) (hT : TabIn w) :
    Calls Tryz.prog 54 #[setV f] w (IdsoPost f w) := by
  obtain ⟨i0, hi, hz0, hz1, hz2⟩ := info_parts infoP
  have sm := fun w => many_any f w hf
  have hml := manyN_le f
  obtain ⟨mn, hmn⟩ : ∃ n, Hid (manyN f = n) := ⟨_, Lib.hid rfl⟩
  rw [hmn.out] at sm hml
  have hmk := make_cap mn (by omega)
  have ki : ∀ (r : Nat), r < 5 → ∀ w : World, (Instr.index 74 (.agg #[.int .u64 (f 0), .int .u64 (f 1), .int .u64 (f 2), .int .u64 (f 3), .int .u64 (f 4)]) (.int .i64 r)).run Tryz.prog w = .ok (.int .u64 (f r)) w := by
    intro r hr w
    rcases (show r = 0 ∨ r = 1 ∨ r = 2 ∨ r = 3 ∨ r = 4 by omega) with rfl | rfl | rfl | rfl | rfl
    · exact sx_i0 _ _ _ _ _ w
    · exact sx_i1 _ _ _ _ _ w
    · exact sx_i2 _ _ _ _ _ w
    · exact sx_i3 _ _ _ _ _ w
    · exact sx_i4 _ _ _ _ _ w
  have ki := Lib.hid ki
  have hf := Lib.hid hf
  have hT := Lib.hid hT
  unfold setV at sm ⊢
  go_enter Tryz.func54, Tryz.ntmps54
  go_wp2_with fail
  refine (sm _).mono ?_
  rintro e w1 ⟨rfl, hb⟩
  have A1 := (hb.block w.heap.size (by simp)).trans (heap_alloc_new w (.cells #[.int .u64 (f 0), .int .u64 (f 1), .int .u64 (f 2), .int .u64 (f 3), .int .u64 (f 4)] 74))
  have z1 : w.heap.size + 1 ≤ w1.heap.size := by simpa using hb.size
  have D1 := ((Below.refl w.heap.size w).alloc (Nat.le_refl _) (.cells #[.int .u64 (f 0), .int .u64 (f 1), .int .u64 (f 2), .int .u64 (f 3), .int .u64 (f 4)] 74)).trans (hb.mono (by simp))
  have A2 : Set5 (w1.alloc (.cells (madeCells #[.int .i64 0, .int .i64 0] (mn * 2)) 25)) w.heap.size f := (Below.heap_alloc _ _ _ (by omega)).trans A1
  obtain ⟨x0, x1, x2, x3, x4⟩ := A2.five
  have A1' : Set5 w1 w.heap.size f := A1
  obtain ⟨y0, y1, y2, y3, y4⟩ := A1'.five
  have R1 := Lib.hid (row_cap w1 mn w.heap.size (by omega) (by omega))
  have D2 := Lib.hid (D1.alloc (by omega) (.cells (madeCells #[.int .i64 0, .int .i64 0] (mn * 2)) 25))
  clear hb A1 A1' A2 D1 sm
  go_wp2_with fail
  clear hmk x0 x1 x2 x3 x4 y0 y1 y2 y3 y4 hml hmn
  go_loopw [3, 10] (fun v i wr => ∃ r : Nat, r ≤ 5 ∧ i = .int .i64 r ∧ ∃ O : List Pid, Hid (O ++ idsFrom f r (5 - r) = idsO f) ∧ Hid (Row wr w.heap.size v O) ∧ Hid (Below w.heap.size w wr)) (fun _ i _ => 5 - (intOf i).toNat)
  case atStart => exact ⟨0, Nat.zero_le _, rfl, [], Lib.hid rfl, R1, D2⟩
  case round =>
    obtain ⟨r, hr, rfl, O, hE, hR, hD⟩ := hrel
    clear R1 D2
    obtain ⟨wo, rfl⟩ : ∃ wo : World, wo = wr := ⟨_, rfl⟩
    by_cases hlt : r < 5
    · have kk := ki.out r hlt
      have hfr := Lib.hid (hf.out r)
      have hE : Hid (O ++ (bitsL r (f r) ++ idsFrom f (r + 1) (4 - r)) = idsO f) := Lib.hid (by rw [← hE.out, show 5 - r = (4 - r) + 1 by omega, idsFrom])
      go_wp2_with fail
      simp only [show decide ((r : Int) < 5) = true from decide_eq_true (by omega)]
      go_loopw [3, 5] (fun v q wr => ∃ m : Nat, Hid (m < 2251799813685248) ∧ q = .int .u64 m ∧ ∃ O : List Pid, Hid (O ++ (bitsL r m ++ idsFrom f (r + 1) (4 - r)) = idsO f) ∧ Hid (Row wr w.heap.size v O) ∧ Hid (Below w.heap.size w wr)) (fun _ q _ => (intOf q).toNat)
      case atStart => exact ⟨f r, hfr, rfl, O, hE, hR, hD⟩
      case round =>
        obtain ⟨m, hm, rfl, O, hE, hR, hD⟩ := hrel
        have hOl := ido_len hE.out
        have hm' := hm.out
        by_cases hm0 : m = 0
        · subst hm0
          have hE : Hid (O ++ idsFrom f (r + 1) (5 - (r + 1)) = idsO f) := Lib.hid (by rw [← hE.out, bitsL_zero, List.nil_append, show 5 - (r + 1) = 4 - r by omega])
          clear hm'
          go_wp2_with fail
          go_roundw
          case rel => exact ⟨r + 1, by omega, by go_num, O, hE, hR, hD⟩
          case measure => simp [intOf]; omega
        · have hm0' : ((m : Int) == 0) = false := by simpa using hm0
          have hm0n : ((m : Int) != 0) = true := by simpa using hm0
          have tz := tz_any m wr (by omega) hm0 (hT.out.up hD.out (Nat.le_refl _))
          have hE2 : Hid ((O ++ [((r : Int), ((Lib.ctz 64 m : Nat) : Int))]) ++ (bitsL r (m &&& (m - 1)) ++ idsFrom f (r + 1) (4 - r)) = idsO f) := Lib.hid (by rw [← hE.out, bitsL_cons hm0 (by omega)]; simp)
          have hless := low_less hm0
          have ws : IntKind.u64.wrap ((m : Int) - 1) = ((m - 1 : Nat) : Int) := by rw [show ((m : Int) - 1) = ((m - 1 : Nat) : Int) by omega]; exact wrapN _ (by omega)
          have wa : bits .and .u64 (m : Int) ((m - 1 : Nat) : Int) = ((m &&& (m - 1) : Nat) : Int) := bits_and_u64_nat m (m - 1) (by omega) (by omega)
          generalize m &&& (m - 1) = m' at hE2 hless wa
          generalize Lib.ctz 64 m = t at tz hE2
          obtain ⟨mp, hmp⟩ : ∃ k, Hid (m - 1 = k) := ⟨_, Lib.hid rfl⟩
          rw [hmp.out] at ws wa
          have hm2 := Lib.hid (show m' < 2251799813685248 by omega)
          clear hE hm'
          go_wp2_with fail
          refine tz.mono ?_
          rintro e w3 ⟨rfl, rfl⟩
          clear tz
          go_wp2_with (at_builtin; refine wpList_append_own _ rfl _ _ 28 rfl w.heap.size 25 i0 (.agg #[.int .i64 0, .int .i64 0]) 2 16 Tryz.underlying28 hi hz0 hz1 hz2 rfl (by decide) _ _ _ rfl (hR.out.1.alloc _) ⟨wr.heap.size, 0, none⟩ 1 1 [.int .i64 r, .int .i64 t] rfl rfl ?c1 ?c2 ?c3 ?c4 ?c5 ?_)
          case c1 => exact two_cells _ _ _ _ _ (by simp)
          case c2 => intro u hu; simp at hu; rcases hu with rfl | rfl <;> rfl
          case c3 => unfold maxLen; omega
          case c4 => omega
          case c5 => have := hD.out.size; simp; omega
          intro v' w4 hown' hgrow hnil
          have X := ido_next hR.out hown' hgrow (fun e => hnil e) hD.out
          have hR' := Lib.hid X.1
          have hD' := Lib.hid X.2
          clear X hown' hgrow hnil hR hD
          go_wp2_with fail
          go_roundw
          case rel => exact ⟨m', hm2, by go_num, _, hE2, hR', hD'⟩
          case measure => simp [intOf]; omega
    · obtain rfl : r = 5 := by omega
      have hE : Hid (O = idsO f) := Lib.hid (by rw [← hE.out]; simp [idsFrom])
      have hOl : O.length ≤ 320 := by rw [hE.out, idsO_len]; exact manyN_le f
      obtain ⟨o, ho, hown⟩ := hR.out.own (by omega)
      have hown := Lib.hid hown
      clear hR
      go_wp2_with fail
      go_ret
      exact ⟨o, _, ho, rfl, by rw [← hE.out]; exact hown.out, hD.out⟩
end Go.Proofs.YtdikcenhakfheaaGreatDoor

/- Which entries LogAttrs counts, what it answers. -/
namespace Go.Proofs.YtdikcenhakfheaaGreatDoor
open Go.RowKit
set_option linter.unusedVariables false

/-- Whether an entry counts. -/
def clsF (a : Pid) (k key : Int) (z : En) : Bool := !decide (z.id = a) && kcB z.k z.key k key
theorem clsF_no {a : Pid} {k key : Int} {z : En} (h : ¬ (¬ z.id = a ∧ kcB z.k z.key k key = true)) : clsF a k key z = false := by
  unfold clsF
  by_cases h1 : z.id = a
  · simp [h1]
  · cases h2 : kcB z.k z.key k key with
    | false => simp
    | true => exact absurd ⟨h1, h2⟩ h
theorem clsF_yes {a : Pid} {k key : Int} {z : En} (h1 : ¬ z.id = a) (h2 : kcB z.k z.key k key = true) : clsF a k key z = true := by unfold clsF; simp [h1, h2]
theorem topE_cls (a : Pid) (k key : Int) : ∀ E : List En, topE (clsE E a k key) = topF (clsF a k key) (fun z => z.seq) E
  | [] => rfl
  | z :: r => by
    have ih := topE_cls a k key r
    unfold clsE at ih ⊢
    unfold topF
    rw [List.filter_cons]
    by_cases h : (!decide (z.id = a) && kcB z.k z.key k key) = true
    · rw [if_pos h, if_pos (show clsF a k key z = true from h)]
      simp only [topE, ih]
    · rw [if_neg h, if_neg (show ¬ clsF a k key z = true from h), ih]
theorem pid_ne2 {a b : Pid} (h : ¬ a = b) : (¬ a.1 = b.1) ∨ (a.1 = b.1 ∧ ¬ a.2 = b.2) := by
  by_cases h1 : a.1 = b.1
  · exact .inr ⟨h1, fun h2 => h (Prod.ext h1 h2)⟩
  · exact .inl h1
theorem up_lt2 {k : Nat} : ∀ j : Nat, j < k + 1 ↔ j < k ∨ j = k := fun j => by omega

theorem lattR_log {E : List En} {a : Pid} {k key v : Int} (h : logB E = false) : lattR E a k key v = (0, [], false) := by unfold lattR; rw [h, if_neg (by simp)]
theorem lattR_id {E : List En} {a : Pid} {k key v : Int} (h : okP a = false) : lattR E a k key v = (0, [], false) := by unfold lattR; rw [h, if_neg (by simp)]
theorem lattR_cmd {E : List En} {a : Pid} {k key v : Int} (h : cvB k key v = false) : lattR E a k key v = (0, [], false) := by unfold lattR; rw [h, if_neg (by simp)]
theorem lattR_full {E : List En} {a : Pid} {k key v : Int} (h : ¬ topE (clsE E a k key) + 1 ≤ 99) : lattR E a k key v = (0, [], false) := by unfold lattR; rw [if_neg (fun x => h x.2.2.2)]
theorem lattR_good {E : List En} {a : Pid} {k key v : Int} (h1 : logB E = true) (h2 : okP a = true) (h3 : cvB k key v = true) (h4 : topE (clsE E a k key) + 1 ≤ 99) : lattR E a k key v = (topE (clsE E a k key) + 1, idsE (clsE E a k key), true) := by unfold lattR; rw [if_pos ⟨h1, h2, h3, h4⟩]
theorem cls_len {E : List En} (h : logB E = true) (a : Pid) (k key : Int) : (idsE (clsE E a k key)).length ≤ 12 := by
  rw [idsE_len]; exact Nat.le_trans (List.length_filter_le _ _) (log_of h).1
theorem top_rank {E : List En} (h : logB E = true) (a : Pid) (k key : Int) : 0 ≤ topE (clsE E a k key) ∧ topE (clsE E a k key) ≤ 99 := by
  rw [topE_cls]
  refine ⟨topF_nn _ _ _, ?_⟩
  rcases topF_is (f := clsF a k key) (v := fun z => z.seq) (E := E) with e | ⟨z, e1, _, e3⟩
  · omega
  · obtain ⟨j, hj, rfl⟩ := mem_enD e1
    rw [← e3]; exact (log_rank h hj).2

/-- What LogAttrs leaves. -/
def LatP (E : List En) (a : Pid) (k key v : Int) (w : World) (e : Ending) (w' : World) : Prop :=
  (∃ u, e = .returned (.tuple #[.int .i64 (lattR E a k key v).1, u, .bool (lattR E a k key v).2.2]) ∧ ∃ b, w.heap.size ≤ b ∧ OwnP w' b u (lattR E a k key v).2.1) ∧ Below w.heap.size w w'
theorem lat_fail {E : List En} {a : Pid} {k key v : Int} {w w2 : World} (B : Below w.heap.size w w2) (h : lattR E a k key v = (0, [], false)) : LatP E a k key v w (.returned (.tuple #[.int .i64 0, .slice (some ⟨w2.heap.size, 0, none⟩) 0 0, .bool false])) (w2.alloc (.cells #[] 25)) := by
  unfold LatP
  rw [h]
  exact ⟨⟨_, rfl, (row_new w2 w.heap.size B.size).own (Nat.zero_le _)⟩, B.alloc B.size _⟩

end Go.Proofs.YtdikcenhakfheaaGreatDoor
