/- Draws of ids: DrawIdValid, DrawIdBefore. -/
import Derived.Test.YtoepimmkebbgcaaDid
import Derived.Deep.RegionWith
namespace Go.Proofs.Ytoepimmkebbgcaa
open Go.RowKit
set_option linter.unusedVariables false

theorem blk4 {w : World} {b : Nat} {x y z u : Value} {t : TypeId} (h : w.heap[b]? = some (.cells #[x, y, z, u] t (0, 0))) :
    w.cell? ⟨b, 0, none⟩ = some x ∧ w.cell? ⟨b, 1, none⟩ = some y ∧ w.cell? ⟨b, 2, none⟩ = some z ∧ w.cell? ⟨b, 3, none⟩ = some u := by
  simp [World.cell?, h]

theorem Rd.drew {w : World} {r n : Nat} (h : Rd w r n) : Rd w.drew r n := h.kept ⟨rfl, rfl, rfl, Nat.le_refl _, fun _ _ => rfl⟩
theorem Keep.drew {B r : Nat} {a w : World} (h : Keep B r a w) : Keep B r a w.drew := ⟨h.os, h.tape, h.output, h.size, h.block⟩

/-- Some id. -/
def OneIdPost (w : World) (e : Ending) (w' : World) : Prop :=
  ∃ k v : Int, e = .returned (.agg #[.int .i64 k, .int .i64 v]) ∧ Below w.heap.size w w'

set_option maxHeartbeats 2000000 in
theorem didv_any (a : Option Addr) (len cap : Nat) (w : World) (hc : CodeIn w a len cap) (hcap : cap ≤ maxLen) :
    Calls Try.prog 20 #[.slice a len cap] w (OneIdPost w) := by
  have hc := Lib.hid hc
  have hcap := Lib.hid hcap
  go_enter Try.func20, Try.ntmps20
  go_wp2_with fail
  refine (open_any a len cap _ (hc.out.up ((Below.refl _ _).alloc (Nat.le_refl _) _)) hcap.out).mono ?_
  rintro e w1 ⟨r, rfl, hr0', hr', hb'⟩
  have hr0 : w.heap.size + 1 ≤ r := by simpa using hr0'
  have A1 := (hb'.block w.heap.size (by simp)).trans (heap_alloc_new w _)
  have s1 : w.heap.size + 1 ≤ w1.heap.size := by simpa using hb'.size
  have D1 : Hid (Below w.heap.size w w1) := Lib.hid (((Below.refl _ _).alloc (Nat.le_refl _) _).trans (hb'.mono (by simp)))
  have hr1 := Lib.hid hr'
  clear hr0' hr' hb' hc hcap
  have A1 := Lib.hid A1
  go_wp2_with fail
  refine (pick_any 4 r 0 _ hr1.out (by omega)).mono ?_
  rintro e w2 ⟨x, rfl, _, _, hr2, hk2⟩
  have s2 := hk2.size
  have A2 := Lib.hid ((hk2.block w.heap.size (by omega) (by omega)).trans A1.out)
  have D2 : Hid (Below w.heap.size w w2) := Lib.hid (D1.out.trans ((hk2.mono (by omega)).below (by omega)))
  have hr2 := Lib.hid hr2
  clear hk2 A1 D1 hr1
  by_cases z : x = 0
  · subst z
    go_wp2_with fail
    refine (pick_any 7 r 1 _ hr2.out (by omega)).mono ?_
    rintro e w3 ⟨x3, rfl, p0, p1', hr3, hk3⟩
    have p1 := p1' (by omega)
    have s3 := hk3.size
    have A3 := Lib.hid ((hk3.block w.heap.size (by omega) (by omega)).trans A2.out)
    have D3 : Hid (Below w.heap.size w w3) := Lib.hid (D2.out.trans ((hk3.mono (by omega)).below (by omega)))
    have hr3 := Lib.hid hr3
    clear hk3 A2 D2 hr2 p1'
    go_wp2_with fail
    refine (pick_any 4 r 2 _ (hr3.out.alloc _) (by omega)).mono ?_
    rintro e w4 ⟨x4, rfl, q0, q1', hr4, hk4⟩
    have q1 := q1' (by omega)
    have s4 : w3.heap.size + 1 ≤ w4.heap.size := by simpa using hk4.size
    have A4 := (hk4.block w.heap.size (by simp; omega) (by omega)).trans ((Below.heap_alloc w3 _ _ (by omega)).trans A3.out)
    have hrl := hr3.out.lt
    have L4 := (hk4.block w3.heap.size (by simp) (by omega)).trans (heap_alloc_new w3 _)
    have D4 : Hid (Below w.heap.size w w4) := Lib.hid ((D3.out.alloc (by omega) _).trans ((hk4.mono (by simp; omega)).below (by omega)))
    obtain ⟨a0, a1, f0, f1⟩ := blk2 A4
    obtain ⟨l0, l1, l2, l3⟩ := blk4 L4
    clear hk4 A3 D3 hr3 q1' A4 L4 hr4
    rcases (show x4 = 0 ∨ x4 = 1 ∨ x4 = 2 ∨ x4 = 3 by omega) with rfl | rfl | rfl | rfl
    · go_wp2_with fail
      exact bodyPost_ret (v := .agg #[.int .i64 (x3 - 1), .int .i64 0]) (by simp [results, Try.results20, go_sem, a0, a1]) rfl ⟨_, _, rfl, (D4.out.setCell (Nat.le_refl _) _).setCell (Nat.le_refl _) _⟩
    · go_wp2_with fail
      exact bodyPost_ret (v := .agg #[.int .i64 (x3 - 1), .int .i64 1]) (by simp [results, Try.results20, go_sem, a0, a1]) rfl ⟨_, _, rfl, (D4.out.setCell (Nat.le_refl _) _).setCell (Nat.le_refl _) _⟩
    · go_wp2_with fail
      exact bodyPost_ret (v := .agg #[.int .i64 (x3 - 1), .int .i64 50]) (by simp [results, Try.results20, go_sem, a0, a1]) rfl ⟨_, _, rfl, (D4.out.setCell (Nat.le_refl _) _).setCell (Nat.le_refl _) _⟩
    · go_wp2_with fail
      exact bodyPost_ret (v := .agg #[.int .i64 (x3 - 1), .int .i64 51]) (by simp [results, Try.results20, go_sem, a0, a1]) rfl ⟨_, _, rfl, (D4.out.setCell (Nat.le_refl _) _).setCell (Nat.le_refl _) _⟩
  · have z' : (x == 0) = false := by simpa using z
    clear z
    go_wp2_with fail
    refine (idd_any r 1 _ hr2.out (by omega)).mono ?_
    rintro e w3 ⟨k1, k2, rfl, _, _, _, hk3⟩
    have s3 := hk3.size
    have A3 := (hk3.block w.heap.size (by omega) (by omega)).trans A2.out
    have D3 : Hid (Below w.heap.size w w3) := Lib.hid (D2.out.trans ((hk3.mono (by omega)).below (by omega)))
    obtain ⟨a0, a1, f0, f1⟩ := blk2 A3
    clear hk3 A2 D2 hr2 A3
    go_wp2_with fail
    exact bodyPost_ret (v := .agg #[.int .i64 k1, .int .i64 k2]) (by simp [results, Try.results20, go_sem, a0, a1]) rfl ⟨_, _, rfl, (D3.out.setCell (Nat.le_refl _) _).setCell (Nat.le_refl _) _⟩

/-- Some two ids. -/
def TwoIdPost (w : World) (e : Ending) (w' : World) : Prop :=
  ∃ k v k' v' : Int, e = .returned (.tuple #[.agg #[.int .i64 k, .int .i64 v], .agg #[.int .i64 k', .int .i64 v']]) ∧ Below w.heap.size w w'

/-- A block of two numbers, whatever they are. -/
def Pair (w : World) (b : Nat) : Prop := ∃ x y t, w.heap[b]? = some (.cells #[.int .i64 x, .int .i64 y] t (0, 0))
theorem Pair.of {w : World} {b : Nat} {x y : Int} {t : TypeId} (h : w.heap[b]? = some (.cells #[.int .i64 x, .int .i64 y] t (0, 0))) : Pair w b := ⟨x, y, t, h⟩
theorem Pair.drew {w : World} {b : Nat} (h : Pair w b) : Pair w.drew b := h
theorem Pair.alloc {w : World} {b : Nat} (h : Pair w b) (o : Obj) : Pair (w.alloc o) b := by
  obtain ⟨x, y, t, h⟩ := h
  exact ⟨x, y, t, (Below.heap_alloc w o b ((Array.getElem?_eq_some_iff.1 h).1)).trans h⟩
theorem Pair.keep {w w' : World} {b r : Nat} (h : Pair w b) (hk : Keep w.heap.size r w w') (hr : b ≠ r) : Pair w' b := by
  obtain ⟨x, y, t, h⟩ := h
  exact ⟨x, y, t, (hk.block b (Array.getElem?_eq_some_iff.1 h).1 hr).trans h⟩
theorem Pair.set0 {w : World} {b : Nat} (h : Pair w b) (z : Int) : Pair (w.setCell ⟨b, 0, none⟩ (.int .i64 z)) b := by
  obtain ⟨x, y, t, h⟩ := h
  exact ⟨z, y, t, by simp [World.setCell, Array.getElem?_modify, h]⟩
theorem Pair.set1 {w : World} {b : Nat} (h : Pair w b) (z : Int) : Pair (w.setCell ⟨b, 1, none⟩ (.int .i64 z)) b := by
  obtain ⟨x, y, t, h⟩ := h
  exact ⟨x, z, t, by simp [World.setCell, Array.getElem?_modify, h]⟩
theorem Pair.far {w : World} {b : Nat} (h : Pair w b) {p : Addr} (hp : b ≠ p.block) (u : Value) : Pair (w.setCell p u) b := by
  obtain ⟨x, y, t, h⟩ := h
  exact ⟨x, y, t, (Below.heap_setCell _ _ _ _ hp).trans h⟩

theorem did_step {w W w3 : World} {r C : Nat} {k1 k2 : Int} (PA : Pair W w.heap.size) (PB : Pair W (w.heap.size + 1)) (hr0 : w.heap.size + 2 ≤ r) (hrC : r < C) (sW : W.heap.size = C + 1) (c0 : W.cell? ⟨C, 0, none⟩ = some (.int .i64 k1)) (c1 : W.cell? ⟨C, 1, none⟩ = some (.int .i64 k2)) (D : Below w.heap.size w W) (hk : Keep W.drew.heap.size r W.drew w3) :
    ∃ xa ya xb yb : Int, (w3.cell? ⟨w.heap.size, 0, none⟩ = some (.int .i64 xa) ∧ w3.cell? ⟨w.heap.size, 1, none⟩ = some (.int .i64 ya) ∧ w3.frozen? ⟨w.heap.size, 0, none⟩ = false ∧ w3.frozen? ⟨w.heap.size, 1, none⟩ = false) ∧ (w3.cell? ⟨w.heap.size + 1, 0, none⟩ = some (.int .i64 xb) ∧ w3.cell? ⟨w.heap.size + 1, 1, none⟩ = some (.int .i64 yb) ∧ w3.frozen? ⟨w.heap.size + 1, 0, none⟩ = false ∧ w3.frozen? ⟨w.heap.size + 1, 1, none⟩ = false) ∧ w3.cell? ⟨C, 0, none⟩ = some (.int .i64 k1) ∧ w3.cell? ⟨C, 1, none⟩ = some (.int .i64 k2) ∧ W.heap.size ≤ w3.heap.size ∧ Hid (Below w.heap.size w w3) := by
  have s3 : W.heap.size ≤ w3.heap.size := hk.size
  have e0 : W.drew.heap.size = W.heap.size := rfl
  obtain ⟨xa, ya, ta, PA3⟩ := PA.drew.keep hk (by omega)
  obtain ⟨xb, yb, tb, PB3⟩ := PB.drew.keep hk (by omega)
  refine ⟨xa, ya, xb, yb, blk2 PA3, blk2 PB3, ?_, ?_, s3, Lib.hid (D.drew.trans ((hk.mono (by omega)).below (by omega)))⟩
  · exact (World.cell?_of_block (a := ⟨C, 0, none⟩) (hk.block C (by omega) (by omega))).trans c0
  · exact (World.cell?_of_block (a := ⟨C, 1, none⟩) (hk.block C (by omega) (by omega))).trans c1

set_option maxHeartbeats 4000000 in
theorem dtwo_any (a : Option Addr) (len cap : Nat) (w : World) (hc : CodeIn w a len cap) (hcap : cap ≤ maxLen) :
    Calls Try.prog 11 #[.slice a len cap] w (TwoIdPost w) := by
  have hc := Lib.hid hc
  have hcap := Lib.hid hcap
  go_enter Try.func11, Try.ntmps11
  go_wp2_with fail
  refine (open_any a len cap _ (hc.out.up (((Below.refl _ _).alloc (Nat.le_refl _) _).alloc (by simp) _)) hcap.out).mono ?_
  rintro e w1 ⟨r, rfl, hr0', hr', hb'⟩
  have hr0 : w.heap.size + 2 ≤ r := by simpa using hr0'
  have A1 := (hb'.block w.heap.size (by simp; omega)).trans ((Below.heap_alloc _ _ _ (by simp)).trans (heap_alloc_new w _))
  have B1 := (hb'.block (w.heap.size + 1) (by simp)).trans (heap_alloc_at _ _ _ (by simp))
  have s1 : w.heap.size + 2 ≤ w1.heap.size := by simpa using hb'.size
  have D1 : Hid (Below w.heap.size w w1) := Lib.hid ((((Below.refl _ _).alloc (Nat.le_refl _) _).alloc (by simp) _).trans (hb'.mono (by simp; omega)))
  have hr1 := Lib.hid hr'
  clear hr0' hr' hb' hc hcap
  have A1 := Lib.hid A1
  have B1 := Lib.hid B1
  have hrl := hr1.out.lt
  go_wp2_with fail
  refine (idd_any r 0 _ hr1.out (by omega)).mono ?_
  rintro e w2 ⟨k1, k2, rfl, _, _, hr2, hk2⟩
  have s2 := hk2.size
  have A2 := (hk2.block w.heap.size (by omega) (by omega)).trans A1.out
  have B2 := (hk2.block (w.heap.size + 1) (by omega) (by omega)).trans B1.out
  have D2 := (D1.out.trans ((hk2.mono (by omega)).below (by omega)))
  clear hk2 A1 B1 D1 hr1
  obtain ⟨W, hW⟩ : ∃ W, W = w2.alloc (.cells #[.int .i64 k1, .int .i64 k2] 24) := ⟨_, rfl⟩
  have sW : W.heap.size = w2.heap.size + 1 := by subst hW; simp
  have PA : Hid (Pair W w.heap.size) := Lib.hid (by subst hW; exact (Pair.of A2).alloc _)
  have PB : Hid (Pair W (w.heap.size + 1)) := Lib.hid (by subst hW; exact (Pair.of B2).alloc _)
  have PC : Hid (Pair W w2.heap.size) := Lib.hid (by subst hW; exact Pair.of (heap_alloc_new w2 _))
  have D3 : Hid (Below w.heap.size w W) := Lib.hid (by subst hW; exact D2.alloc (by omega) _)
  have hr3 : Hid (Rd W r 4) := Lib.hid (by subst hW; exact hr2.alloc _)
  clear A2 B2 D2 hr2
  go_upto_region 1 with fail
  rw [← hW]
  obtain ⟨c0, c1, _, _⟩ := blk2 (show W.heap[w2.heap.size]? = some (.cells #[.int .i64 k1, .int .i64 k2] 24 (0, 0)) by subst hW; exact heap_alloc_new w2 _)
  clear hW PC
  have hrC := hr3.out.lt
  have hrC' : r < w2.heap.size := by omega
  go_region_with (go_at_call 29; (with_reducible refine (idd_any r 4 _ hr3.out.drew (by omega)).mono ?_); rintro e w3 ⟨m1, m2, rfl, _, _, _, hk3⟩; obtain ⟨xa, ya, xb, yb, ⟨a0, a1, f0, f1⟩, ⟨b0, b1, g0, g1⟩, C0, C1, s3, D4⟩ := did_step PA.out PB.out hr0 hrC' sW c0 c1 D3.out hk3; clear hk3 PA PB D3 hr3)
  all_goals
    go_wp2_with fail
    exact bodyPost_ret (v := .tuple #[.agg #[.int .i64 k1, .int .i64 k2], .agg #[.int .i64 m1, .int .i64 m2]]) (by simp [results, Try.results11, go_sem, a0, a1, b0, b1]) rfl ⟨_, _, _, _, rfl, by have X := D4.out; clear D4; repeat (first | with_reducible exact X | with_reducible refine Below.drew ?_ | with_reducible refine Below.setCell ?_ (by first | (simp; done) | (simp; omega)) _ | with_reducible refine Below.alloc ?_ (by simp; omega) _)⟩
end Go.Proofs.Ytoepimmkebbgcaa
