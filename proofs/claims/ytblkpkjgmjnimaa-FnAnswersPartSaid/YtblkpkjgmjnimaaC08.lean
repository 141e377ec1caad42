/- Texts laid together. -/
import Derived.Test.YtblkpkjgmjnimaaC02
import Derived.Test.YtblkpkjgmjnimaaC04
import Derived.Test.YtblkpkjgmjnimaaC05
import Derived.Test.YtblkpkjgmjnimaaC07
import Derived.Deep.DeepCutAuto
import Derived.Deep.RegionWith
import Derived.Deep.CutBlock
import Derived.IntWalk
/- Draws of one entry: l91Entry. -/
namespace Go.Proofs.Ytblkpkjgmjnimaa
open Go.RowKit
set_option linter.unusedVariables false

theorem Rd.drewE {w : World} {r n : Nat} (h : Rd w r n) : Rd w.drew r n := h.kept ⟨rfl, rfl, rfl, Nat.le_refl _, fun _ _ => rfl⟩
theorem Keep.drewE {B r : Nat} {a w : World} (h : Keep B r a w) : Keep B r a w.drew := ⟨h.os, h.tape, h.output, h.size, h.block⟩
/-- An entry that is being drawn: its block, its list. -/
structure EE (w wr : World) (r m xb b : Nat) (x y : Int) (e : En) (du : Value) : Prop where
  rd : Rd wr r m
  kp : Keep w.heap.size r w wr
  a : wr.heap[w.heap.size]? = some (.cells #[.int .i64 x, .int .i64 y] 24 (0, 0))
  z : wr.heap[w.heap.size + 1]? = some (.cells #[.int .i64 0, .int .i64 0, .int .i64 0, .int .i64 0, .int .i64 0, .int .i64 0, .int .i64 0, .int .i64 0, .slice none 0 0] 46 (0, 0))
  bx : wr.heap[xb]? = some (.cells #[.int .i64 e.id.1, .int .i64 e.id.2, .int .i64 e.bal, .int .i64 e.st, .int .i64 e.k, .int .i64 e.key, .int .i64 e.v, .int .i64 e.seq, du] 46 (0, 0))
  xl : w.heap.size + 2 ≤ xb
  bl : w.heap.size + 2 ≤ b
  ne : b ≠ xb
  li : OwnP wr b du e.deps
  id : e.id = (x, y)
section
variable {w wr w' : World} {r m m' xb b : Nat} {x y : Int} {e : En} {du : Value}
theorem EE.keep (h : EE w wr r m xb b x y e du) (hr : r < w.heap.size) (hrd : Rd w' r m') (hk : Keep wr.heap.size r wr w') : EE w w' r m' xb b x y e du := by
  have hx := h.xl
  have hb := h.bl
  exact ⟨hrd, h.kp.trans (hk.mono h.kp.size), (hk.block _ (lt_of_heap h.a) (by omega)).trans h.a, (hk.block _ (lt_of_heap h.z) (by omega)).trans h.z, (hk.block _ (lt_of_heap h.bx) (by omega)).trans h.bx, h.xl, h.bl, h.ne, h.li.same (hk.block b h.li.lt (by omega)), h.id⟩
theorem EE.low (h : EE w wr r m xb b x y e du) (hr : r < w.heap.size) (B : Below wr.heap.size wr w') : EE w w' r m xb b x y e du :=
  h.keep hr (h.rd.kept (B.mono (by have := h.kp.size; omega))) (Keep.of_below B)
/-- A cell of the entry's block is turned. -/
theorem EE.own (h : EE w wr r m xb b x y e du) (hr : r < w.heap.size) (i : Nat) (u : Value) : Rd (wr.setCell ⟨xb, i, none⟩ u) r m ∧ Keep w.heap.size r w (wr.setCell ⟨xb, i, none⟩ u) ∧ ∀ c, c ≠ xb → (wr.setCell ⟨xb, i, none⟩ u).heap[c]? = wr.heap[c]? :=
  ⟨h.rd.setCell (by show r < xb; have := h.xl; omega) u, h.kp.setCell (by show w.heap.size ≤ xb; have := h.xl; omega) u, fun c hc => heap_setCell_other _ _ _ _ hc⟩
theorem EE.redo (h : EE w wr r m xb b x y e du) (hr : r < w.heap.size) {b' : Nat} {u' : Value} {D : List Pid} (hb : w.heap.size + 2 ≤ b') (hn : b' ≠ xb) (hO : OwnP wr b' u' D) : EE w (wr.setCell ⟨xb, 8, none⟩ u') r m xb b' x y { e with deps := D } u' := by
  obtain ⟨o1, o2, o3⟩ := h.own hr 8 u'
  have hx := h.xl
  refine ⟨o1, o2, (o3 _ (by omega)).trans h.a, (o3 _ (by omega)).trans h.z, ?_, h.xl, hb, hn, hO.same (o3 _ hn), h.id⟩
  have := heap_setCell_same wr xb 8 _ _ u' h.bx
  simp only [List.setIfInBounds_toArray, List.set_cons_zero, List.set_cons_succ] at this
  exact this
theorem EE.setSt (h : EE w wr r m xb b x y e du) (hr : r < w.heap.size) (z : Int) : EE w (wr.setCell ⟨xb, 3, none⟩ (.int .i64 z)) r m xb b x y { e with st := z } du := by
  obtain ⟨o1, o2, o3⟩ := h.own hr 3 (.int .i64 z)
  have hx := h.xl
  refine ⟨o1, o2, (o3 _ (by omega)).trans h.a, (o3 _ (by omega)).trans h.z, ?_, h.xl, h.bl, h.ne, h.li.same (o3 _ h.ne), h.id⟩
  have := heap_setCell_same wr xb 3 _ _ (.int .i64 z) h.bx
  simp only [List.setIfInBounds_toArray, List.set_cons_zero, List.set_cons_succ] at this
  exact this
theorem EE.setBal (h : EE w wr r m xb b x y e du) (hr : r < w.heap.size) (z : Int) : EE w (wr.setCell ⟨xb, 2, none⟩ (.int .i64 z)) r m xb b x y { e with bal := z } du := by
  obtain ⟨o1, o2, o3⟩ := h.own hr 2 (.int .i64 z)
  have hx := h.xl
  refine ⟨o1, o2, (o3 _ (by omega)).trans h.a, (o3 _ (by omega)).trans h.z, ?_, h.xl, h.bl, h.ne, h.li.same (o3 _ h.ne), h.id⟩
  have := heap_setCell_same wr xb 2 _ _ (.int .i64 z) h.bx
  simp only [List.setIfInBounds_toArray, List.set_cons_zero, List.set_cons_succ] at this
  exact this
end

theorem EE.more {w wr : World} {r m m' xb b : Nat} {x y : Int} {e : En} {du : Value} (h : EE w wr r m xb b x y e du) (hm : m ≤ m') : EE w wr r m' xb b x y e du := ⟨h.rd.more hm, h.kp, h.a, h.z, h.bx, h.xl, h.bl, h.ne, h.li, h.id⟩
/-- A list and an entry's block that are being made, in any order. -/
structure PE (w W : World) (r m : Nat) (x y : Int) (on ox : Option Nat) : Prop where
  rd : Rd W r m
  kp : Keep w.heap.size r w W
  a : W.heap[w.heap.size]? = some (.cells #[.int .i64 x, .int .i64 y] 24 (0, 0))
  z : W.heap[w.heap.size + 1]? = some (.cells #[.int .i64 0, .int .i64 0, .int .i64 0, .int .i64 0, .int .i64 0, .int .i64 0, .int .i64 0, .int .i64 0, .slice none 0 0] 46 (0, 0))
  li : ∀ b, on = some b → w.heap.size + 2 ≤ b ∧ W.heap[b]? = some (.cells #[] 24 (0, 0))
  bx : ∀ b, ox = some b → w.heap.size + 2 ≤ b ∧ W.heap[b]? = some (.cells #[.int .i64 0, .int .i64 0, .int .i64 0, .int .i64 0, .int .i64 0, .int .i64 0, .int .i64 0, .int .i64 0, .slice none 0 0] 46 (0, 0))
section
variable {w W w' : World} {r m m' : Nat} {x y : Int} {on ox : Option Nat}
theorem PE.start (h : Rd w r m) (hr : r < w.heap.size) (x y : Int) : PE w ((w.alloc (.cells #[.int .i64 x, .int .i64 y] 24)).alloc (.cells #[.int .i64 0, .int .i64 0, .int .i64 0, .int .i64 0, .int .i64 0, .int .i64 0, .int .i64 0, .int .i64 0, .slice none 0 0] 46)).drew r m x y none none :=
  ⟨Rd.drewE ((h.alloc _).alloc _), (((Keep.refl _ _ _).alloc (Nat.le_refl _) _).alloc (by simp) _).drewE, (Below.heap_alloc _ _ _ (by simp)).trans (heap_alloc_new w _), heap_alloc_at _ _ _ (by simp), fun _ h => (nomatch h), fun _ h => nomatch h⟩
theorem PE.keep (h : PE w W r m x y on ox) (hr : r < w.heap.size) (hrd : Rd w' r m') (hk : Keep W.heap.size r W w') : PE w w' r m' x y on ox :=
  ⟨hrd, h.kp.trans (hk.mono h.kp.size), (hk.block _ (lt_of_heap h.a) (by omega)).trans h.a, (hk.block _ (lt_of_heap h.z) (by omega)).trans h.z, fun b e => ⟨(h.li b e).1, (hk.block b (lt_of_heap (h.li b e).2) (by have := (h.li b e).1; omega)).trans (h.li b e).2⟩, fun b e => ⟨(h.bx b e).1, (hk.block b (lt_of_heap (h.bx b e).2) (by have := (h.bx b e).1; omega)).trans (h.bx b e).2⟩⟩
theorem PE.list (h : PE w W r m x y on ox) (hr : r < w.heap.size) : PE w (W.alloc (.cells #[] 24)) r m x y (some W.heap.size) ox := by
  have g := h.keep hr (h.rd.alloc (.cells #[] 24)) (Keep.of_below ((Below.refl W.heap.size W).alloc (Nat.le_refl _) (.cells #[] 24)))
  exact ⟨g.rd, g.kp, g.a, g.z, fun b e => by injection e with e; subst e; exact ⟨by have := lt_of_heap h.z; omega, heap_alloc_new W _⟩, g.bx⟩
theorem PE.box (h : PE w W r m x y on ox) (hr : r < w.heap.size) : PE w (W.alloc (.cells #[.int .i64 0, .int .i64 0, .int .i64 0, .int .i64 0, .int .i64 0, .int .i64 0, .int .i64 0, .int .i64 0, .slice none 0 0] 46)) r m x y on (some W.heap.size) := by
  have g := h.keep hr (h.rd.alloc (.cells #[.int .i64 0, .int .i64 0, .int .i64 0, .int .i64 0, .int .i64 0, .int .i64 0, .int .i64 0, .int .i64 0, .slice none 0 0] 46)) (Keep.of_below ((Below.refl W.heap.size W).alloc (Nat.le_refl _) (.cells #[.int .i64 0, .int .i64 0, .int .i64 0, .int .i64 0, .int .i64 0, .int .i64 0, .int .i64 0, .int .i64 0, .slice none 0 0] 46)))
  exact ⟨g.rd, g.kp, g.a, g.z, g.li, fun b e => by injection e with e; subst e; exact ⟨by have := lt_of_heap h.z; omega, heap_alloc_new W _⟩⟩
theorem PE.made {nb xb : Nat} (h : PE w W r m x y (some nb) (some xb)) (hr : r < w.heap.size) (bal st k key v s : Int) :
    EE w (((((((((W.setCell ⟨xb, 0, none⟩ (.int .i64 x)).setCell ⟨xb, 1, none⟩ (.int .i64 y)).setCell ⟨xb, 2, none⟩ (.int .i64 bal)).setCell ⟨xb, 3, none⟩ (.int .i64 st)).setCell ⟨xb, 4, none⟩ (.int .i64 k)).setCell ⟨xb, 5, none⟩ (.int .i64 key)).setCell ⟨xb, 6, none⟩ (.int .i64 v)).setCell ⟨xb, 7, none⟩ (.int .i64 s)).setCell ⟨xb, 8, none⟩ (.slice (some ⟨nb, 0, none⟩) 0 0)) r m xb nb x y ⟨(x, y), bal, st, k, key, v, s, []⟩ (.slice (some ⟨nb, 0, none⟩) 0 0) := by
  obtain ⟨l0, l1⟩ := h.li nb rfl
  obtain ⟨x0, x1⟩ := h.bx xb rfl
  have hne : nb ≠ xb := fun e => by subst e; rw [l1] at x1; simp at x1
  have B : Below (w.heap.size + 2) W (((((((((W.setCell ⟨xb, 0, none⟩ (.int .i64 x)).setCell ⟨xb, 1, none⟩ (.int .i64 y)).setCell ⟨xb, 2, none⟩ (.int .i64 bal)).setCell ⟨xb, 3, none⟩ (.int .i64 st)).setCell ⟨xb, 4, none⟩ (.int .i64 k)).setCell ⟨xb, 5, none⟩ (.int .i64 key)).setCell ⟨xb, 6, none⟩ (.int .i64 v)).setCell ⟨xb, 7, none⟩ (.int .i64 s)).setCell ⟨xb, 8, none⟩ (.slice (some ⟨nb, 0, none⟩) 0 0)) :=
    ((((((((((Below.refl (w.heap.size + 2) W).setCell (p := ⟨xb, 0, none⟩) (by show w.heap.size + 2 ≤ xb; exact x0) _).setCell (p := ⟨xb, 1, none⟩) (by show w.heap.size + 2 ≤ xb; exact x0) _).setCell (p := ⟨xb, 2, none⟩) (by show w.heap.size + 2 ≤ xb; exact x0) _).setCell (p := ⟨xb, 3, none⟩) (by show w.heap.size + 2 ≤ xb; exact x0) _).setCell (p := ⟨xb, 4, none⟩) (by show w.heap.size + 2 ≤ xb; exact x0) _).setCell (p := ⟨xb, 5, none⟩) (by show w.heap.size + 2 ≤ xb; exact x0) _).setCell (p := ⟨xb, 6, none⟩) (by show w.heap.size + 2 ≤ xb; exact x0) _).setCell (p := ⟨xb, 7, none⟩) (by show w.heap.size + 2 ≤ xb; exact x0) _).setCell (p := ⟨xb, 8, none⟩) (by show w.heap.size + 2 ≤ xb; exact x0) _)
  have oth : ∀ c, c ≠ xb → (((((((((W.setCell ⟨xb, 0, none⟩ (.int .i64 x)).setCell ⟨xb, 1, none⟩ (.int .i64 y)).setCell ⟨xb, 2, none⟩ (.int .i64 bal)).setCell ⟨xb, 3, none⟩ (.int .i64 st)).setCell ⟨xb, 4, none⟩ (.int .i64 k)).setCell ⟨xb, 5, none⟩ (.int .i64 key)).setCell ⟨xb, 6, none⟩ (.int .i64 v)).setCell ⟨xb, 7, none⟩ (.int .i64 s)).setCell ⟨xb, 8, none⟩ (.slice (some ⟨nb, 0, none⟩) 0 0)).heap[c]? = W.heap[c]? := fun c hc => by
    rw [heap_setCell_other _ _ _ _ hc, heap_setCell_other _ _ _ _ hc, heap_setCell_other _ _ _ _ hc, heap_setCell_other _ _ _ _ hc, heap_setCell_other _ _ _ _ hc, heap_setCell_other _ _ _ _ hc, heap_setCell_other _ _ _ _ hc, heap_setCell_other _ _ _ _ hc, heap_setCell_other _ _ _ _ hc]
  refine ⟨h.rd.kept (B.mono (by omega)), h.kp.trans (Keep.of_below (B.mono (by omega))), (oth _ (by omega)).trans h.a, (oth _ (by omega)).trans h.z, ?_, x0, l0, hne, ⟨0, #[], 24, rfl, (oth _ hne).trans l1, Nat.le_refl _, by simp, fun i hi => absurd hi (Nat.not_lt_zero _)⟩, rfl⟩
  have e := heap_setCell_same _ xb 8 _ _ (.slice (some ⟨nb, 0, none⟩) 0 0) (heap_setCell_same _ xb 7 _ _ (.int .i64 s) (heap_setCell_same _ xb 6 _ _ (.int .i64 v) (heap_setCell_same _ xb 5 _ _ (.int .i64 key) (heap_setCell_same _ xb 4 _ _ (.int .i64 k) (heap_setCell_same _ xb 3 _ _ (.int .i64 st) (heap_setCell_same _ xb 2 _ _ (.int .i64 bal) (heap_setCell_same _ xb 1 _ _ (.int .i64 y) (heap_setCell_same _ xb 0 _ _ (.int .i64 x) x1))))))))
  simp only [List.setIfInBounds_toArray, List.set_cons_zero, List.set_cons_succ] at e
  exact e
end
theorem en_resD (tm : Array Value) (w : World) (b : Nat) (x0 x1 x2 x3 x4 x5 x6 x7 x8 : Value) (t : TypeId) (h2 : tm[4]? = some (.pointer (some ⟨b, 0, none⟩))) (h : w.heap[b]? = some (.cells #[x0, x1, x2, x3, x4, x5, x6, x7, x8] t (0, 0))) :
    (results Try.f25 tm).run Try.prog w = .ok (.agg #[x0, x1, x2, x3, x4, x5, x6, x7, x8]) w := by
  obtain ⟨t0, t1, t2, t3, t4, t5, t6, t7, t8⟩ := nine_cells h
  simp [results, Try.results25, go_sem, h2, t0, t1, t2, t3, t4, t5, t6, t7, t8]
/-- What l91Entry leaves. -/
def EntP (r n : Nat) (x y : Int) (w : World) (e : Ending) (w' : World) : Prop :=
  ∃ b X u, w.heap.size ≤ b ∧ e = .returned (env X u) ∧ X.id = (x, y) ∧ OwnP w' b u X.deps ∧ X.deps.length ≤ 3 ∧ Rd w' r (n + 20) ∧ Keep w.heap.size r w w'

set_option maxRecDepth 100000 in
set_option maxHeartbeats 16000000 in
theorem entry_any (r n : Nat) (x y : Int) (w : World) (hrd : Rd w r n) (hn : n ≤ 700000000) :
    Calls Try.prog 25 #[.pointer (some ⟨r, 0, none⟩), .agg #[.int .i64 x, .int .i64 y]] w (EntP r n x y w) := by
  have hrl := hrd.lt
  have hrd := Lib.hid hrd
  have A0 := (Below.heap_alloc (w.alloc (.cells #[.int .i64 x, .int .i64 y] 24)) (.cells #[.int .i64 0, .int .i64 0, .int .i64 0, .int .i64 0, .int .i64 0, .int .i64 0, .int .i64 0, .int .i64 0, .slice none 0 0] 46) w.heap.size (by simp)).trans (heap_alloc_new w (.cells #[.int .i64 x, .int .i64 y] 24))
  obtain ⟨a0, a1, _, _⟩ := blk2 A0
  go_enter Try.func25, Try.ntmps25
  go_upto_region 1 with fail
  go_cut [5] from 9 to 21 (fun s5 wx => ∃ (xb b : Nat) (e : En) (du : Value), s5 = .pointer (some ⟨xb, 0, none⟩) ∧ Hid (EE w wx r (n + 9) xb b x y e du) ∧ e.deps = [])
  case first =>
    have P0 := Lib.hid (PE.start hrd.out hrl x y)
    refine wp_region_held_drew (S := fun w' => w'.cell? ⟨w.heap.size, 0, none⟩ = some (.int .i64 x) ∧ w'.cell? ⟨w.heap.size, 1, none⟩ = some (.int .i64 y)) (by kernel_rfl) ⟨a0, a1⟩ (fun hHeld => ?_)
    generalize (World.alloc (World.alloc w (.cells #[.int .i64 x, .int .i64 y] 24)) (.cells #[.int .i64 0, .int .i64 0, .int .i64 0, .int .i64 0, .int .i64 0, .int .i64 0, .int .i64 0, .int .i64 0, .slice none 0 0] 46)).drew = V0 at P0 hHeld ⊢
    refine wpAnyH_take (i := 0) (oi := ⟨some 9, _, _, _, _, _⟩) (v := ?_) rfl (by kernel_rfl) (by kernel_rfl) (by kernel_rfl) (fun _ _ _ h => h) (Or.inl ⟨by rfl, ?_⟩) (by assumption) ?_
    rotate_left 1
    · intro w hSw; (try dsimp only at hSw); go_simp; try (with_reducible rfl)
    try simp only [Act.put, List.setIfInBounds_toArray, List.set_cons_zero, List.set_cons_succ]
    refine wpAnyH_take (i := 1) (oi := ⟨some 10, _, _, _, _, _⟩) (v := ?_) rfl (by kernel_rfl) (by kernel_rfl) (by kernel_rfl) (fun _ _ _ h => h) (Or.inl ⟨by rfl, ?_⟩) (by assumption) ?_
    rotate_left 1
    · intro w hSw; (try dsimp only at hSw); go_simp; try (with_reducible rfl)
    try simp only [Act.put, List.setIfInBounds_toArray, List.set_cons_zero, List.set_cons_succ]
    refine wpAnyH_take (i := 3) (oi := ⟨some 12, _, _, _, _, _⟩) (v := ?_) rfl (by kernel_rfl) (by kernel_rfl) (by kernel_rfl) (fun _ _ _ h => h) (Or.inl ⟨by rfl, ?_⟩) (by assumption) ?_
    rotate_left 1
    · intro w hSw; (try dsimp only at hSw); go_simp; try (with_reducible rfl)
    try simp only [Act.put, List.setIfInBounds_toArray, List.set_cons_zero, List.set_cons_succ]
    refine wpAnyH_take (i := 6) (oi := ⟨some 15, _, _, _, _, _⟩) (v := ?_) rfl (by kernel_rfl) (by kernel_rfl) (by kernel_rfl) (fun _ _ _ h => h) (Or.inl ⟨by rfl, ?_⟩) (by assumption) ?_
    rotate_left 1
    · intro w hSw; (try dsimp only at hSw); go_simp; try (with_reducible rfl)
    try simp only [Act.put, List.setIfInBounds_toArray, List.set_cons_zero, List.set_cons_succ]
    refine wpAnyH_take (i := 8) (oi := ⟨some 17, _, _, _, _, _⟩) (v := ?_) rfl (by kernel_rfl) (by kernel_rfl) (by kernel_rfl) (fun _ _ _ h => h) (Or.inl ⟨by rfl, ?_⟩) (by assumption) ?_
    rotate_left 1
    · intro w hSw; (try dsimp only at hSw); go_simp; try (with_reducible rfl)
    try simp only [Act.put, List.setIfInBounds_toArray, List.set_cons_zero, List.set_cons_succ]
    refine wpAnyH_ready (rs := [2, 11, 13]) (by kernel_rfl) (by simp) ?_
    refine AllReadyH.cons (o := ⟨some 11, _, _, _, _, _⟩) rfl (fun K hK => ?_) ?_
    · go_simp
      refine (pick_any 8 r _ _ P0.out.rd (by omega)).mono ?_
      rintro e w2 ⟨z1, rfl, z10, z11', hr', hk'⟩
      have z11 := z11' (by omega)
      have P1 := Lib.hid (P0.out.keep hrl hr' hk')
      clear z11' hr' hk'
      go_wp2_with fail
      refine hK.out _ _ ?_ (fun hHeld2 => ?_)
      · exact ⟨(blk2 P1.out.a).1, (blk2 P1.out.a).2.1⟩
      clear hK K hHeld P0
      have hHeld := hHeld2
      clear hHeld2
      try simp only [Act.put, List.setIfInBounds_toArray, List.set_cons_zero, List.set_cons_succ]
      refine wpAnyH_ready (rs := [4, 11, 13]) (by kernel_rfl) (by simp) ?_
      refine AllReadyH.cons (o := ⟨some 13, _, _, _, _, _⟩) rfl (fun K hK => ?_) ?_
      · go_simp
        refine (pick_any 3 r _ _ P1.out.rd (by omega)).mono ?_
        rintro e w3 ⟨z2, rfl, z20, z21', hr', hk'⟩
        have z21 := z21' (by omega)
        have P2 := Lib.hid (P1.out.keep hrl hr' hk')
        clear z21' hr' hk'
        go_wp2_with fail
        refine hK.out _ _ ?_ (fun hHeld2 => ?_)
        · exact ⟨(blk2 P2.out.a).1, (blk2 P2.out.a).2.1⟩
        clear hK K hHeld P1
        have hHeld := hHeld2
        clear hHeld2
        try simp only [Act.put, List.setIfInBounds_toArray, List.set_cons_zero, List.set_cons_succ]
        refine wpAnyH_take (i := 5) (oi := ⟨some 14, _, _, _, _, _⟩) (v := ?_) rfl (by kernel_rfl) (by kernel_rfl) (by kernel_rfl) (fun _ _ _ h => h) (Or.inl ⟨by rfl, ?_⟩) (by assumption) ?_
        rotate_left 1
        · intro w hSw; (try dsimp only at hSw); go_simp; try (with_reducible rfl)
        try simp only [Act.put, List.setIfInBounds_toArray, List.set_cons_zero, List.set_cons_succ]
        refine wpAnyH_ready (rs := [7, 11, 13]) (by kernel_rfl) (by simp) ?_
        refine AllReadyH.cons (o := ⟨some 16, _, _, _, _, _⟩) rfl (fun K hK => ?_) ?_
        · go_simp
          refine (cmd_any r _ _ P2.out.rd (by omega)).mono ?_
          rintro e w4 ⟨ck, ckey, cv, rfl, _, _, _, hr', hk'⟩
          have P3 := Lib.hid (P2.out.keep hrl hr' hk')
          clear hr' hk'
          go_wp2_with fail
          refine hK.out _ _ ?_ (fun hHeld2 => ?_)
          · exact ⟨(blk2 P3.out.a).1, (blk2 P3.out.a).2.1⟩
          clear hK K hHeld P2
          have hHeld := hHeld2
          clear hHeld2
          try simp only [Act.put, List.setIfInBounds_toArray, List.set_cons_zero, List.set_cons_succ]
          refine wpAnyH_ready (rs := [9, 11, 13]) (by kernel_rfl) (by simp) ?_
          refine AllReadyH.cons (o := ⟨some 18, _, _, _, _, _⟩) rfl (fun K hK => ?_) ?_
          · go_simp
            refine (pick_any 6 r _ _ P3.out.rd (by omega)).mono ?_
            rintro e w5 ⟨z4, rfl, z40, z41', hr', hk'⟩
            have z41 := z41' (by omega)
            have P4 := Lib.hid (P3.out.keep hrl hr' hk')
            clear z41' hr' hk'
            go_wp2_with fail
            refine hK.out _ _ ?_ (fun hHeld2 => ?_)
            · exact ⟨(blk2 P4.out.a).1, (blk2 P4.out.a).2.1⟩
            clear hK K hHeld P3
            have hHeld := hHeld2
            clear hHeld2
            try simp only [Act.put, List.setIfInBounds_toArray, List.set_cons_zero, List.set_cons_succ]
            refine wpAnyH_take (i := 10) (oi := ⟨some 19, _, _, _, _, _⟩) (v := ?_) rfl (by kernel_rfl) (by kernel_rfl) (by kernel_rfl) (fun _ _ _ h => h) (Or.inl ⟨by rfl, ?_⟩) (by assumption) ?_
            rotate_left 1
            · intro w hSw; (try dsimp only at hSw); go_simp; try (with_reducible rfl)
            try simp only [Act.put, List.setIfInBounds_toArray, List.set_cons_zero, List.set_cons_succ]
            refine wpAnyH_ready (rs := [11, 13]) (by kernel_rfl) (by simp) ?_
            refine AllReadyH.cons (o := ⟨some 20, _, _, _, _, _⟩) rfl (fun K hK => ?_) ?_
            · have P5 := Lib.hid (P4.out.list hrl)
              go_simp
              generalize (w5.alloc (.cells #[] 24)) = V5 at P5 ⊢
              refine hK.out _ _ ?_ (fun hHeld2 => ?_)
              · exact ⟨(blk2 P5.out.a).1, (blk2 P5.out.a).2.1⟩
              clear hK K hHeld P4
              have hHeld := hHeld2
              clear hHeld2
              try simp only [Act.put, List.setIfInBounds_toArray, List.set_cons_zero, List.set_cons_succ]
              refine wpAnyH_take (i := 12) (oi := ⟨some 21, _, _, _, _, _⟩) (v := ?_) rfl (by kernel_rfl) (by kernel_rfl) (by kernel_rfl) (fun _ _ _ h => h) (Or.inl ⟨by rfl, ?_⟩) (by assumption) ?_
              rotate_left 1
              · intro w hSw; (try dsimp only at hSw); go_simp; try (with_reducible rfl)
              try simp only [Act.put, List.setIfInBounds_toArray, List.set_cons_zero, List.set_cons_succ]
              refine wpAnyH_ready (rs := [13]) (by kernel_rfl) (by simp) ?_
              refine AllReadyH.cons (o := ⟨some 5, _, _, _, _, _⟩) rfl (fun K hK => ?_) AllReadyH.nil
              have P6 := Lib.hid (P5.out.box hrl)
              go_simp
              generalize (V5.alloc (.cells #[.int .i64 0, .int .i64 0, .int .i64 0, .int .i64 0, .int .i64 0, .int .i64 0, .int .i64 0, .int .i64 0, .slice none 0 0] 46)) = V6 at P6 ⊢
              refine hK.out _ _ ?_ (fun hHeld2 => ?_)
              · exact ⟨(blk2 P6.out.a).1, (blk2 P6.out.a).2.1⟩
              clear hK K hHeld P5
              have hHeld := hHeld2
              clear hHeld2
              try simp only [Act.put, List.setIfInBounds_toArray, List.set_cons_zero, List.set_cons_succ]
              have hY := P6.out.made hrl z1 (IntKind.i64.wrap (1 + z2)) ck ckey cv (IntKind.i64.wrap (1 + z4))
              obtain ⟨x0, x1⟩ := P6.out.bx _ rfl
              obtain ⟨n0, n1, n2, n3, n4, n5, n6, n7, n8⟩ := nine_cells x1
              have m0 := nine_free x1 0
              have m1 := nine_free x1 1
              have m2 := nine_free x1 2
              have m3 := nine_free x1 3
              have m4 := nine_free x1 4
              have m5 := nine_free x1 5
              have m6 := nine_free x1 6
              have m7 := nine_free x1 7
              have m8 := nine_free x1 8
              have hxl := lt_of_heap x1
              refine wpAnyH_ready (rs := [14]) (by kernel_rfl) (by simp) ?_
              refine AllReadyH.cons (o := ⟨none, _, _, _, _, _⟩) rfl (fun K hK => ?_) AllReadyH.nil
              go_simp
              refine hK.out _ _ ?_ (fun hHeld2 => ?_)
              · exact ⟨(blk2 hY.a).1, (blk2 hY.a).2.1⟩
              clear hK K hHeld P6 n0 n1 n2 n3 n4 n5 n6 n7 n8 m0 m1 m2 m3 m4 m5 m6 m7 m8 x0 x1 hHeld2
              have hY := Lib.hid hY
              try simp only [Act.put, List.setIfInBounds_toArray, List.set_cons_zero, List.set_cons_succ]
              refine wpAnyH_done (by kernel_rfl) ?_ _
              try simp only [Act.put, List.setIfInBounds_toArray, List.set_cons_zero, List.set_cons_succ]
              go_wp2_with fail
              go_meet
              exact ⟨_, _, _, _, rfl, hY, rfl⟩
            refine AllReadyH.cons (o := ⟨some 5, _, _, _, _, _⟩) rfl (fun K hK => ?_) AllReadyH.nil
            have P5 := Lib.hid (P4.out.box hrl)
            go_simp
            generalize (w5.alloc (.cells #[.int .i64 0, .int .i64 0, .int .i64 0, .int .i64 0, .int .i64 0, .int .i64 0, .int .i64 0, .int .i64 0, .slice none 0 0] 46)) = V5 at P5 ⊢
            refine hK.out _ _ ?_ (fun hHeld2 => ?_)
            · exact ⟨(blk2 P5.out.a).1, (blk2 P5.out.a).2.1⟩
            clear hK K hHeld P4
            have hHeld := hHeld2
            clear hHeld2
            try simp only [Act.put, List.setIfInBounds_toArray, List.set_cons_zero, List.set_cons_succ]
            refine wpAnyH_ready (rs := [11]) (by kernel_rfl) (by simp) ?_
            refine AllReadyH.cons (o := ⟨some 20, _, _, _, _, _⟩) rfl (fun K hK => ?_) AllReadyH.nil
            have P6 := Lib.hid (P5.out.list hrl)
            go_simp
            generalize (V5.alloc (.cells #[] 24)) = V6 at P6 ⊢
            refine hK.out _ _ ?_ (fun hHeld2 => ?_)
            · exact ⟨(blk2 P6.out.a).1, (blk2 P6.out.a).2.1⟩
            clear hK K hHeld P5
            have hHeld := hHeld2
            clear hHeld2
            try simp only [Act.put, List.setIfInBounds_toArray, List.set_cons_zero, List.set_cons_succ]
            refine wpAnyH_take (i := 12) (oi := ⟨some 21, _, _, _, _, _⟩) (v := ?_) rfl (by kernel_rfl) (by kernel_rfl) (by kernel_rfl) (fun _ _ _ h => h) (Or.inl ⟨by rfl, ?_⟩) (by assumption) ?_
            rotate_left 1
            · intro w hSw; (try dsimp only at hSw); go_simp; try (with_reducible rfl)
            try simp only [Act.put, List.setIfInBounds_toArray, List.set_cons_zero, List.set_cons_succ]
            have hY := P6.out.made hrl z1 (IntKind.i64.wrap (1 + z2)) ck ckey cv (IntKind.i64.wrap (1 + z4))
            obtain ⟨x0, x1⟩ := P6.out.bx _ rfl
            obtain ⟨n0, n1, n2, n3, n4, n5, n6, n7, n8⟩ := nine_cells x1
            have m0 := nine_free x1 0
            have m1 := nine_free x1 1
            have m2 := nine_free x1 2
            have m3 := nine_free x1 3
            have m4 := nine_free x1 4
            have m5 := nine_free x1 5
            have m6 := nine_free x1 6
            have m7 := nine_free x1 7
            have m8 := nine_free x1 8
            have hxl := lt_of_heap x1
            refine wpAnyH_ready (rs := [14]) (by kernel_rfl) (by simp) ?_
            refine AllReadyH.cons (o := ⟨none, _, _, _, _, _⟩) rfl (fun K hK => ?_) AllReadyH.nil
            go_simp
            refine hK.out _ _ ?_ (fun hHeld2 => ?_)
            · exact ⟨(blk2 hY.a).1, (blk2 hY.a).2.1⟩
            clear hK K hHeld P6 n0 n1 n2 n3 n4 n5 n6 n7 n8 m0 m1 m2 m3 m4 m5 m6 m7 m8 x0 x1 hHeld2
            have hY := Lib.hid hY
            try simp only [Act.put, List.setIfInBounds_toArray, List.set_cons_zero, List.set_cons_succ]
            refine wpAnyH_done (by kernel_rfl) ?_ _
            try simp only [Act.put, List.setIfInBounds_toArray, List.set_cons_zero, List.set_cons_succ]
            go_wp2_with fail
            go_meet
            exact ⟨_, _, _, _, rfl, hY, rfl⟩
          refine AllReadyH.cons (o := ⟨some 20, _, _, _, _, _⟩) rfl (fun K hK => ?_) ?_
          · have P4 := Lib.hid (P3.out.list hrl)
            go_simp
            generalize (w4.alloc (.cells #[] 24)) = V4 at P4 ⊢
            refine hK.out _ _ ?_ (fun hHeld2 => ?_)
            · exact ⟨(blk2 P4.out.a).1, (blk2 P4.out.a).2.1⟩
            clear hK K hHeld P3
            have hHeld := hHeld2
            clear hHeld2
            try simp only [Act.put, List.setIfInBounds_toArray, List.set_cons_zero, List.set_cons_succ]
            refine wpAnyH_ready (rs := [9, 13]) (by kernel_rfl) (by simp) ?_
            refine AllReadyH.cons (o := ⟨some 18, _, _, _, _, _⟩) rfl (fun K hK => ?_) ?_
            · go_simp
              refine (pick_any 6 r _ _ P4.out.rd (by omega)).mono ?_
              rintro e w6 ⟨z4, rfl, z40, z41', hr', hk'⟩
              have z41 := z41' (by omega)
              have P5 := Lib.hid (P4.out.keep hrl hr' hk')
              clear z41' hr' hk'
              go_wp2_with fail
              refine hK.out _ _ ?_ (fun hHeld2 => ?_)
              · exact ⟨(blk2 P5.out.a).1, (blk2 P5.out.a).2.1⟩
              clear hK K hHeld P4
              have hHeld := hHeld2
              clear hHeld2
              try simp only [Act.put, List.setIfInBounds_toArray, List.set_cons_zero, List.set_cons_succ]
              refine wpAnyH_take (i := 10) (oi := ⟨some 19, _, _, _, _, _⟩) (v := ?_) rfl (by kernel_rfl) (by kernel_rfl) (by kernel_rfl) (fun _ _ _ h => h) (Or.inl ⟨by rfl, ?_⟩) (by assumption) ?_
              rotate_left 1
              · intro w hSw; (try dsimp only at hSw); go_simp; try (with_reducible rfl)
              try simp only [Act.put, List.setIfInBounds_toArray, List.set_cons_zero, List.set_cons_succ]
              refine wpAnyH_take (i := 12) (oi := ⟨some 21, _, _, _, _, _⟩) (v := ?_) rfl (by kernel_rfl) (by kernel_rfl) (by kernel_rfl) (fun _ _ _ h => h) (Or.inl ⟨by rfl, ?_⟩) (by assumption) ?_
              rotate_left 1
              · intro w hSw; (try dsimp only at hSw); go_simp; try (with_reducible rfl)
              try simp only [Act.put, List.setIfInBounds_toArray, List.set_cons_zero, List.set_cons_succ]
              refine wpAnyH_ready (rs := [13]) (by kernel_rfl) (by simp) ?_
              refine AllReadyH.cons (o := ⟨some 5, _, _, _, _, _⟩) rfl (fun K hK => ?_) AllReadyH.nil
              have P6 := Lib.hid (P5.out.box hrl)
              go_simp
              generalize (w6.alloc (.cells #[.int .i64 0, .int .i64 0, .int .i64 0, .int .i64 0, .int .i64 0, .int .i64 0, .int .i64 0, .int .i64 0, .slice none 0 0] 46)) = V6 at P6 ⊢
              refine hK.out _ _ ?_ (fun hHeld2 => ?_)
              · exact ⟨(blk2 P6.out.a).1, (blk2 P6.out.a).2.1⟩
              clear hK K hHeld P5
              have hHeld := hHeld2
              clear hHeld2
              try simp only [Act.put, List.setIfInBounds_toArray, List.set_cons_zero, List.set_cons_succ]
              have hY := P6.out.made hrl z1 (IntKind.i64.wrap (1 + z2)) ck ckey cv (IntKind.i64.wrap (1 + z4))
              obtain ⟨x0, x1⟩ := P6.out.bx _ rfl
              obtain ⟨n0, n1, n2, n3, n4, n5, n6, n7, n8⟩ := nine_cells x1
              have m0 := nine_free x1 0
              have m1 := nine_free x1 1
              have m2 := nine_free x1 2
              have m3 := nine_free x1 3
              have m4 := nine_free x1 4
              have m5 := nine_free x1 5
              have m6 := nine_free x1 6
              have m7 := nine_free x1 7
              have m8 := nine_free x1 8
              have hxl := lt_of_heap x1
              refine wpAnyH_ready (rs := [14]) (by kernel_rfl) (by simp) ?_
              refine AllReadyH.cons (o := ⟨none, _, _, _, _, _⟩) rfl (fun K hK => ?_) AllReadyH.nil
              go_simp
              refine hK.out _ _ ?_ (fun hHeld2 => ?_)
              · exact ⟨(blk2 hY.a).1, (blk2 hY.a).2.1⟩
              clear hK K hHeld P6 n0 n1 n2 n3 n4 n5 n6 n7 n8 m0 m1 m2 m3 m4 m5 m6 m7 m8 x0 x1 hHeld2
              have hY := Lib.hid hY
              try simp only [Act.put, List.setIfInBounds_toArray, List.set_cons_zero, List.set_cons_succ]
              refine wpAnyH_done (by kernel_rfl) ?_ _
              try simp only [Act.put, List.setIfInBounds_toArray, List.set_cons_zero, List.set_cons_succ]
              go_wp2_with fail
              go_meet
              exact ⟨_, _, _, _, rfl, hY, rfl⟩
            refine AllReadyH.cons (o := ⟨some 5, _, _, _, _, _⟩) rfl (fun K hK => ?_) AllReadyH.nil
            have P5 := Lib.hid (P4.out.box hrl)
            go_simp
            generalize (V4.alloc (.cells #[.int .i64 0, .int .i64 0, .int .i64 0, .int .i64 0, .int .i64 0, .int .i64 0, .int .i64 0, .int .i64 0, .slice none 0 0] 46)) = V5 at P5 ⊢
            refine hK.out _ _ ?_ (fun hHeld2 => ?_)
            · exact ⟨(blk2 P5.out.a).1, (blk2 P5.out.a).2.1⟩
            clear hK K hHeld P4
            have hHeld := hHeld2
            clear hHeld2
            try simp only [Act.put, List.setIfInBounds_toArray, List.set_cons_zero, List.set_cons_succ]
            refine wpAnyH_ready (rs := [9]) (by kernel_rfl) (by simp) ?_
            refine AllReadyH.cons (o := ⟨some 18, _, _, _, _, _⟩) rfl (fun K hK => ?_) AllReadyH.nil
            go_simp
            refine (pick_any 6 r _ _ P5.out.rd (by omega)).mono ?_
            rintro e w7 ⟨z4, rfl, z40, z41', hr', hk'⟩
            have z41 := z41' (by omega)
            have P6 := Lib.hid (P5.out.keep hrl hr' hk')
            clear z41' hr' hk'
            go_wp2_with fail
            refine hK.out _ _ ?_ (fun hHeld2 => ?_)
            · exact ⟨(blk2 P6.out.a).1, (blk2 P6.out.a).2.1⟩
            clear hK K hHeld P5
            have hHeld := hHeld2
            clear hHeld2
            try simp only [Act.put, List.setIfInBounds_toArray, List.set_cons_zero, List.set_cons_succ]
            refine wpAnyH_take (i := 10) (oi := ⟨some 19, _, _, _, _, _⟩) (v := ?_) rfl (by kernel_rfl) (by kernel_rfl) (by kernel_rfl) (fun _ _ _ h => h) (Or.inl ⟨by rfl, ?_⟩) (by assumption) ?_
            rotate_left 1
            · intro w hSw; (try dsimp only at hSw); go_simp; try (with_reducible rfl)
            try simp only [Act.put, List.setIfInBounds_toArray, List.set_cons_zero, List.set_cons_succ]
            refine wpAnyH_take (i := 12) (oi := ⟨some 21, _, _, _, _, _⟩) (v := ?_) rfl (by kernel_rfl) (by kernel_rfl) (by kernel_rfl) (fun _ _ _ h => h) (Or.inl ⟨by rfl, ?_⟩) (by assumption) ?_
            rotate_left 1
            · intro w hSw; (try dsimp only at hSw); go_simp; try (with_reducible rfl)
            try simp only [Act.put, List.setIfInBounds_toArray, List.set_cons_zero, List.set_cons_succ]
            have hY := P6.out.made hrl z1 (IntKind.i64.wrap (1 + z2)) ck ckey cv (IntKind.i64.wrap (1 + z4))
            obtain ⟨x0, x1⟩ := P6.out.bx _ rfl
            obtain ⟨n0, n1, n2, n3, n4, n5, n6, n7, n8⟩ := nine_cells x1
            have m0 := nine_free x1 0
            have m1 := nine_free x1 1
            have m2 := nine_free x1 2
            have m3 := nine_free x1 3
            have m4 := nine_free x1 4
            have m5 := nine_free x1 5
            have m6 := nine_free x1 6
            have m7 := nine_free x1 7
            have m8 := nine_free x1 8
            have hxl := lt_of_heap x1
            refine wpAnyH_ready (rs := [14]) (by kernel_rfl) (by simp) ?_
            refine AllReadyH.cons (o := ⟨none, _, _, _, _, _⟩) rfl (fun K hK => ?_) AllReadyH.nil
            go_simp
            refine hK.out _ _ ?_ (fun hHeld2 => ?_)
            · exact ⟨(blk2 hY.a).1, (blk2 hY.a).2.1⟩
            clear hK K hHeld P6 n0 n1 n2 n3 n4 n5 n6 n7 n8 m0 m1 m2 m3 m4 m5 m6 m7 m8 x0 x1 hHeld2
            have hY := Lib.hid hY
            try simp only [Act.put, List.setIfInBounds_toArray, List.set_cons_zero, List.set_cons_succ]
            refine wpAnyH_done (by kernel_rfl) ?_ _
            try simp only [Act.put, List.setIfInBounds_toArray, List.set_cons_zero, List.set_cons_succ]
            go_wp2_with fail
            go_meet
            exact ⟨_, _, _, _, rfl, hY, rfl⟩
          refine AllReadyH.cons (o := ⟨some 5, _, _, _, _, _⟩) rfl (fun K hK => ?_) AllReadyH.nil
          have P4 := Lib.hid (P3.out.box hrl)
          go_simp
          generalize (w4.alloc (.cells #[.int .i64 0, .int .i64 0, .int .i64 0, .int .i64 0, .int .i64 0, .int .i64 0, .int .i64 0, .int .i64 0, .slice none 0 0] 46)) = V4 at P4 ⊢
          refine hK.out _ _ ?_ (fun hHeld2 => ?_)
          · exact ⟨(blk2 P4.out.a).1, (blk2 P4.out.a).2.1⟩
          clear hK K hHeld P3
          have hHeld := hHeld2
          clear hHeld2
          try simp only [Act.put, List.setIfInBounds_toArray, List.set_cons_zero, List.set_cons_succ]
          refine wpAnyH_ready (rs := [9, 11]) (by kernel_rfl) (by simp) ?_
          refine AllReadyH.cons (o := ⟨some 18, _, _, _, _, _⟩) rfl (fun K hK => ?_) ?_
          · go_simp
            refine (pick_any 6 r _ _ P4.out.rd (by omega)).mono ?_
            rintro e w6 ⟨z4, rfl, z40, z41', hr', hk'⟩
            have z41 := z41' (by omega)
            have P5 := Lib.hid (P4.out.keep hrl hr' hk')
            clear z41' hr' hk'
            go_wp2_with fail
            refine hK.out _ _ ?_ (fun hHeld2 => ?_)
            · exact ⟨(blk2 P5.out.a).1, (blk2 P5.out.a).2.1⟩
            clear hK K hHeld P4
            have hHeld := hHeld2
            clear hHeld2
            try simp only [Act.put, List.setIfInBounds_toArray, List.set_cons_zero, List.set_cons_succ]
            refine wpAnyH_take (i := 10) (oi := ⟨some 19, _, _, _, _, _⟩) (v := ?_) rfl (by kernel_rfl) (by kernel_rfl) (by kernel_rfl) (fun _ _ _ h => h) (Or.inl ⟨by rfl, ?_⟩) (by assumption) ?_
            rotate_left 1
            · intro w hSw; (try dsimp only at hSw); go_simp; try (with_reducible rfl)
            try simp only [Act.put, List.setIfInBounds_toArray, List.set_cons_zero, List.set_cons_succ]
            refine wpAnyH_ready (rs := [11]) (by kernel_rfl) (by simp) ?_
            refine AllReadyH.cons (o := ⟨some 20, _, _, _, _, _⟩) rfl (fun K hK => ?_) AllReadyH.nil
            have P6 := Lib.hid (P5.out.list hrl)
            go_simp
            generalize (w6.alloc (.cells #[] 24)) = V6 at P6 ⊢
            refine hK.out _ _ ?_ (fun hHeld2 => ?_)
            · exact ⟨(blk2 P6.out.a).1, (blk2 P6.out.a).2.1⟩
            clear hK K hHeld P5
            have hHeld := hHeld2
            clear hHeld2
            try simp only [Act.put, List.setIfInBounds_toArray, List.set_cons_zero, List.set_cons_succ]
            refine wpAnyH_take (i := 12) (oi := ⟨some 21, _, _, _, _, _⟩) (v := ?_) rfl (by kernel_rfl) (by kernel_rfl) (by kernel_rfl) (fun _ _ _ h => h) (Or.inl ⟨by rfl, ?_⟩) (by assumption) ?_
            rotate_left 1
            · intro w hSw; (try dsimp only at hSw); go_simp; try (with_reducible rfl)
            try simp only [Act.put, List.setIfInBounds_toArray, List.set_cons_zero, List.set_cons_succ]
            have hY := P6.out.made hrl z1 (IntKind.i64.wrap (1 + z2)) ck ckey cv (IntKind.i64.wrap (1 + z4))
            obtain ⟨x0, x1⟩ := P6.out.bx _ rfl
            obtain ⟨n0, n1, n2, n3, n4, n5, n6, n7, n8⟩ := nine_cells x1
            have m0 := nine_free x1 0
            have m1 := nine_free x1 1
            have m2 := nine_free x1 2
            have m3 := nine_free x1 3
            have m4 := nine_free x1 4
            have m5 := nine_free x1 5
            have m6 := nine_free x1 6
            have m7 := nine_free x1 7
            have m8 := nine_free x1 8
            have hxl := lt_of_heap x1
            refine wpAnyH_ready (rs := [14]) (by kernel_rfl) (by simp) ?_
            refine AllReadyH.cons (o := ⟨none, _, _, _, _, _⟩) rfl (fun K hK => ?_) AllReadyH.nil
            go_simp
            refine hK.out _ _ ?_ (fun hHeld2 => ?_)
            · exact ⟨(blk2 hY.a).1, (blk2 hY.a).2.1⟩
            clear hK K hHeld P6 n0 n1 n2 n3 n4 n5 n6 n7 n8 m0 m1 m2 m3 m4 m5 m6 m7 m8 x0 x1 hHeld2
            have hY := Lib.hid hY
            try simp only [Act.put, List.setIfInBounds_toArray, List.set_cons_zero, List.set_cons_succ]
            refine wpAnyH_done (by kernel_rfl) ?_ _
            try simp only [Act.put, List.setIfInBounds_toArray, List.set_cons_zero, List.set_cons_succ]
            go_wp2_with fail
            go_meet
            exact ⟨_, _, _, _, rfl, hY, rfl⟩
          refine AllReadyH.cons (o := ⟨some 20, _, _, _, _, _⟩) rfl (fun K hK => ?_) AllReadyH.nil
          have P5 := Lib.hid (P4.out.list hrl)
          go_simp
          generalize (V4.alloc (.cells #[] 24)) = V5 at P5 ⊢
          refine hK.out _ _ ?_ (fun hHeld2 => ?_)
          · exact ⟨(blk2 P5.out.a).1, (blk2 P5.out.a).2.1⟩
          clear hK K hHeld P4
          have hHeld := hHeld2
          clear hHeld2
          try simp only [Act.put, List.setIfInBounds_toArray, List.set_cons_zero, List.set_cons_succ]
          refine wpAnyH_ready (rs := [9]) (by kernel_rfl) (by simp) ?_
          refine AllReadyH.cons (o := ⟨some 18, _, _, _, _, _⟩) rfl (fun K hK => ?_) AllReadyH.nil
          go_simp
          refine (pick_any 6 r _ _ P5.out.rd (by omega)).mono ?_
          rintro e w7 ⟨z4, rfl, z40, z41', hr', hk'⟩
          have z41 := z41' (by omega)
          have P6 := Lib.hid (P5.out.keep hrl hr' hk')
          clear z41' hr' hk'
          go_wp2_with fail
          refine hK.out _ _ ?_ (fun hHeld2 => ?_)
          · exact ⟨(blk2 P6.out.a).1, (blk2 P6.out.a).2.1⟩
          clear hK K hHeld P5
          have hHeld := hHeld2
          clear hHeld2
          try simp only [Act.put, List.setIfInBounds_toArray, List.set_cons_zero, List.set_cons_succ]
          refine wpAnyH_take (i := 10) (oi := ⟨some 19, _, _, _, _, _⟩) (v := ?_) rfl (by kernel_rfl) (by kernel_rfl) (by kernel_rfl) (fun _ _ _ h => h) (Or.inl ⟨by rfl, ?_⟩) (by assumption) ?_
          rotate_left 1
          · intro w hSw; (try dsimp only at hSw); go_simp; try (with_reducible rfl)
          try simp only [Act.put, List.setIfInBounds_toArray, List.set_cons_zero, List.set_cons_succ]
          refine wpAnyH_take (i := 12) (oi := ⟨some 21, _, _, _, _, _⟩) (v := ?_) rfl (by kernel_rfl) (by kernel_rfl) (by kernel_rfl) (fun _ _ _ h => h) (Or.inl ⟨by rfl, ?_⟩) (by assumption) ?_
          rotate_left 1
          · intro w hSw; (try dsimp only at hSw); go_simp; try (with_reducible rfl)
          try simp only [Act.put, List.setIfInBounds_toArray, List.set_cons_zero, List.set_cons_succ]
          have hY := P6.out.made hrl z1 (IntKind.i64.wrap (1 + z2)) ck ckey cv (IntKind.i64.wrap (1 + z4))
          obtain ⟨x0, x1⟩ := P6.out.bx _ rfl
          obtain ⟨n0, n1, n2, n3, n4, n5, n6, n7, n8⟩ := nine_cells x1
          have m0 := nine_free x1 0
          have m1 := nine_free x1 1
          have m2 := nine_free x1 2
          have m3 := nine_free x1 3
          have m4 := nine_free x1 4
          have m5 := nine_free x1 5
          have m6 := nine_free x1 6
          have m7 := nine_free x1 7
          have m8 := nine_free x1 8
          have hxl := lt_of_heap x1
          refine wpAnyH_ready (rs := [14]) (by kernel_rfl) (by simp) ?_
          refine AllReadyH.cons (o := ⟨none, _, _, _, _, _⟩) rfl (fun K hK => ?_) AllReadyH.nil
          go_simp
          refine hK.out _ _ ?_ (fun hHeld2 => ?_)
          · exact ⟨(blk2 hY.a).1, (blk2 hY.a).2.1⟩
          clear hK K hHeld P6 n0 n1 n2 n3 n4 n5 n6 n7 n8 m0 m1 m2 m3 m4 m5 m6 m7 m8 x0 x1 hHeld2
          have hY := Lib.hid hY
          try simp only [Act.put, List.setIfInBounds_toArray, List.set_cons_zero, List.set_cons_succ]
          refine wpAnyH_done (by kernel_rfl) ?_ _
          try simp only [Act.put, List.setIfInBounds_toArray, List.set_cons_zero, List.set_cons_succ]
          go_wp2_with fail
          go_meet
          exact ⟨_, _, _, _, rfl, hY, rfl⟩
        refine AllReadyH.cons (o := ⟨some 20, _, _, _, _, _⟩) rfl (fun K hK => ?_) ?_
        · have P3 := Lib.hid (P2.out.list hrl)
          go_simp
          generalize (w3.alloc (.cells #[] 24)) = V3 at P3 ⊢
          refine hK.out _ _ ?_ (fun hHeld2 => ?_)
          · exact ⟨(blk2 P3.out.a).1, (blk2 P3.out.a).2.1⟩
          clear hK K hHeld P2
          have hHeld := hHeld2
          clear hHeld2
          try simp only [Act.put, List.setIfInBounds_toArray, List.set_cons_zero, List.set_cons_succ]
          refine wpAnyH_ready (rs := [7, 13]) (by kernel_rfl) (by simp) ?_
          refine AllReadyH.cons (o := ⟨some 16, _, _, _, _, _⟩) rfl (fun K hK => ?_) ?_
          · go_simp
            refine (cmd_any r _ _ P3.out.rd (by omega)).mono ?_
            rintro e w5 ⟨ck, ckey, cv, rfl, _, _, _, hr', hk'⟩
            have P4 := Lib.hid (P3.out.keep hrl hr' hk')
            clear hr' hk'
            go_wp2_with fail
            refine hK.out _ _ ?_ (fun hHeld2 => ?_)
            · exact ⟨(blk2 P4.out.a).1, (blk2 P4.out.a).2.1⟩
            clear hK K hHeld P3
            have hHeld := hHeld2
            clear hHeld2
            try simp only [Act.put, List.setIfInBounds_toArray, List.set_cons_zero, List.set_cons_succ]
            refine wpAnyH_ready (rs := [9, 13]) (by kernel_rfl) (by simp) ?_
            refine AllReadyH.cons (o := ⟨some 18, _, _, _, _, _⟩) rfl (fun K hK => ?_) ?_
            · go_simp
              refine (pick_any 6 r _ _ P4.out.rd (by omega)).mono ?_
              rintro e w6 ⟨z4, rfl, z40, z41', hr', hk'⟩
              have z41 := z41' (by omega)
              have P5 := Lib.hid (P4.out.keep hrl hr' hk')
              clear z41' hr' hk'
              go_wp2_with fail
              refine hK.out _ _ ?_ (fun hHeld2 => ?_)
              · exact ⟨(blk2 P5.out.a).1, (blk2 P5.out.a).2.1⟩
              clear hK K hHeld P4
              have hHeld := hHeld2
              clear hHeld2
              try simp only [Act.put, List.setIfInBounds_toArray, List.set_cons_zero, List.set_cons_succ]
              refine wpAnyH_take (i := 10) (oi := ⟨some 19, _, _, _, _, _⟩) (v := ?_) rfl (by kernel_rfl) (by kernel_rfl) (by kernel_rfl) (fun _ _ _ h => h) (Or.inl ⟨by rfl, ?_⟩) (by assumption) ?_
              rotate_left 1
              · intro w hSw; (try dsimp only at hSw); go_simp; try (with_reducible rfl)
              try simp only [Act.put, List.setIfInBounds_toArray, List.set_cons_zero, List.set_cons_succ]
              refine wpAnyH_take (i := 12) (oi := ⟨some 21, _, _, _, _, _⟩) (v := ?_) rfl (by kernel_rfl) (by kernel_rfl) (by kernel_rfl) (fun _ _ _ h => h) (Or.inl ⟨by rfl, ?_⟩) (by assumption) ?_
              rotate_left 1
              · intro w hSw; (try dsimp only at hSw); go_simp; try (with_reducible rfl)
              try simp only [Act.put, List.setIfInBounds_toArray, List.set_cons_zero, List.set_cons_succ]
              refine wpAnyH_ready (rs := [13]) (by kernel_rfl) (by simp) ?_
              refine AllReadyH.cons (o := ⟨some 5, _, _, _, _, _⟩) rfl (fun K hK => ?_) AllReadyH.nil
              have P6 := Lib.hid (P5.out.box hrl)
              go_simp
              generalize (w6.alloc (.cells #[.int .i64 0, .int .i64 0, .int .i64 0, .int .i64 0, .int .i64 0, .int .i64 0, .int .i64 0, .int .i64 0, .slice none 0 0] 46)) = V6 at P6 ⊢
              refine hK.out _ _ ?_ (fun hHeld2 => ?_)
              · exact ⟨(blk2 P6.out.a).1, (blk2 P6.out.a).2.1⟩
              clear hK K hHeld P5
              have hHeld := hHeld2
              clear hHeld2
              try simp only [Act.put, List.setIfInBounds_toArray, List.set_cons_zero, List.set_cons_succ]
              have hY := P6.out.made hrl z1 (IntKind.i64.wrap (1 + z2)) ck ckey cv (IntKind.i64.wrap (1 + z4))
              obtain ⟨x0, x1⟩ := P6.out.bx _ rfl
              obtain ⟨n0, n1, n2, n3, n4, n5, n6, n7, n8⟩ := nine_cells x1
              have m0 := nine_free x1 0
              have m1 := nine_free x1 1
              have m2 := nine_free x1 2
              have m3 := nine_free x1 3
              have m4 := nine_free x1 4
              have m5 := nine_free x1 5
              have m6 := nine_free x1 6
              have m7 := nine_free x1 7
              have m8 := nine_free x1 8
              have hxl := lt_of_heap x1
              refine wpAnyH_ready (rs := [14]) (by kernel_rfl) (by simp) ?_
              refine AllReadyH.cons (o := ⟨none, _, _, _, _, _⟩) rfl (fun K hK => ?_) AllReadyH.nil
              go_simp
              refine hK.out _ _ ?_ (fun hHeld2 => ?_)
              · exact ⟨(blk2 hY.a).1, (blk2 hY.a).2.1⟩
              clear hK K hHeld P6 n0 n1 n2 n3 n4 n5 n6 n7 n8 m0 m1 m2 m3 m4 m5 m6 m7 m8 x0 x1 hHeld2
              have hY := Lib.hid hY
              try simp only [Act.put, List.setIfInBounds_toArray, List.set_cons_zero, List.set_cons_succ]
              refine wpAnyH_done (by kernel_rfl) ?_ _
              try simp only [Act.put, List.setIfInBounds_toArray, List.set_cons_zero, List.set_cons_succ]
              go_wp2_with fail
              go_meet
              exact ⟨_, _, _, _, rfl, hY, rfl⟩
            refine AllReadyH.cons (o := ⟨some 5, _, _, _, _, _⟩) rfl (fun K hK => ?_) AllReadyH.nil
            have P5 := Lib.hid (P4.out.box hrl)
            go_simp
            generalize (w5.alloc (.cells #[.int .i64 0, .int .i64 0, .int .i64 0, .int .i64 0, .int .i64 0, .int .i64 0, .int .i64 0, .int .i64 0, .slice none 0 0] 46)) = V5 at P5 ⊢
            refine hK.out _ _ ?_ (fun hHeld2 => ?_)
            · exact ⟨(blk2 P5.out.a).1, (blk2 P5.out.a).2.1⟩
            clear hK K hHeld P4
            have hHeld := hHeld2
            clear hHeld2
            try simp only [Act.put, List.setIfInBounds_toArray, List.set_cons_zero, List.set_cons_succ]
            refine wpAnyH_ready (rs := [9]) (by kernel_rfl) (by simp) ?_
            refine AllReadyH.cons (o := ⟨some 18, _, _, _, _, _⟩) rfl (fun K hK => ?_) AllReadyH.nil
            go_simp
            refine (pick_any 6 r _ _ P5.out.rd (by omega)).mono ?_
            rintro e w7 ⟨z4, rfl, z40, z41', hr', hk'⟩
            have z41 := z41' (by omega)
            have P6 := Lib.hid (P5.out.keep hrl hr' hk')
            clear z41' hr' hk'
            go_wp2_with fail
            refine hK.out _ _ ?_ (fun hHeld2 => ?_)
            · exact ⟨(blk2 P6.out.a).1, (blk2 P6.out.a).2.1⟩
            clear hK K hHeld P5
            have hHeld := hHeld2
            clear hHeld2
            try simp only [Act.put, List.setIfInBounds_toArray, List.set_cons_zero, List.set_cons_succ]
            refine wpAnyH_take (i := 10) (oi := ⟨some 19, _, _, _, _, _⟩) (v := ?_) rfl (by kernel_rfl) (by kernel_rfl) (by kernel_rfl) (fun _ _ _ h => h) (Or.inl ⟨by rfl, ?_⟩) (by assumption) ?_
            rotate_left 1
            · intro w hSw; (try dsimp only at hSw); go_simp; try (with_reducible rfl)
            try simp only [Act.put, List.setIfInBounds_toArray, List.set_cons_zero, List.set_cons_succ]
            refine wpAnyH_take (i := 12) (oi := ⟨some 21, _, _, _, _, _⟩) (v := ?_) rfl (by kernel_rfl) (by kernel_rfl) (by kernel_rfl) (fun _ _ _ h => h) (Or.inl ⟨by rfl, ?_⟩) (by assumption) ?_
            rotate_left 1
            · intro w hSw; (try dsimp only at hSw); go_simp; try (with_reducible rfl)
            try simp only [Act.put, List.setIfInBounds_toArray, List.set_cons_zero, List.set_cons_succ]
            have hY := P6.out.made hrl z1 (IntKind.i64.wrap (1 + z2)) ck ckey cv (IntKind.i64.wrap (1 + z4))
            obtain ⟨x0, x1⟩ := P6.out.bx _ rfl
            obtain ⟨n0, n1, n2, n3, n4, n5, n6, n7, n8⟩ := nine_cells x1
            have m0 := nine_free x1 0
            have m1 := nine_free x1 1
            have m2 := nine_free x1 2
            have m3 := nine_free x1 3
            have m4 := nine_free x1 4
            have m5 := nine_free x1 5
            have m6 := nine_free x1 6
            have m7 := nine_free x1 7
            have m8 := nine_free x1 8
            have hxl := lt_of_heap x1
            refine wpAnyH_ready (rs := [14]) (by kernel_rfl) (by simp) ?_
            refine AllReadyH.cons (o := ⟨none, _, _, _, _, _⟩) rfl (fun K hK => ?_) AllReadyH.nil
            go_simp
            refine hK.out _ _ ?_ (fun hHeld2 => ?_)
            · exact ⟨(blk2 hY.a).1, (blk2 hY.a).2.1⟩
            clear hK K hHeld P6 n0 n1 n2 n3 n4 n5 n6 n7 n8 m0 m1 m2 m3 m4 m5 m6 m7 m8 x0 x1 hHeld2
            have hY := Lib.hid hY
            try simp only [Act.put, List.setIfInBounds_toArray, List.set_cons_zero, List.set_cons_succ]
            refine wpAnyH_done (by kernel_rfl) ?_ _
            try simp only [Act.put, List.setIfInBounds_toArray, List.set_cons_zero, List.set_cons_succ]
            go_wp2_with fail
            go_meet
            exact ⟨_, _, _, _, rfl, hY, rfl⟩
          refine AllReadyH.cons (o := ⟨some 5, _, _, _, _, _⟩) rfl (fun K hK => ?_) AllReadyH.nil
          have P4 := Lib.hid (P3.out.box hrl)
          go_simp
          generalize (V3.alloc (.cells #[.int .i64 0, .int .i64 0, .int .i64 0, .int .i64 0, .int .i64 0, .int .i64 0, .int .i64 0, .int .i64 0, .slice none 0 0] 46)) = V4 at P4 ⊢
          refine hK.out _ _ ?_ (fun hHeld2 => ?_)
          · exact ⟨(blk2 P4.out.a).1, (blk2 P4.out.a).2.1⟩
          clear hK K hHeld P3
          have hHeld := hHeld2
          clear hHeld2
          try simp only [Act.put, List.setIfInBounds_toArray, List.set_cons_zero, List.set_cons_succ]
          refine wpAnyH_ready (rs := [7]) (by kernel_rfl) (by simp) ?_
          refine AllReadyH.cons (o := ⟨some 16, _, _, _, _, _⟩) rfl (fun K hK => ?_) AllReadyH.nil
          go_simp
          refine (cmd_any r _ _ P4.out.rd (by omega)).mono ?_
          rintro e w6 ⟨ck, ckey, cv, rfl, _, _, _, hr', hk'⟩
          have P5 := Lib.hid (P4.out.keep hrl hr' hk')
          clear hr' hk'
          go_wp2_with fail
          refine hK.out _ _ ?_ (fun hHeld2 => ?_)
          · exact ⟨(blk2 P5.out.a).1, (blk2 P5.out.a).2.1⟩
          clear hK K hHeld P4
          have hHeld := hHeld2
          clear hHeld2
          try simp only [Act.put, List.setIfInBounds_toArray, List.set_cons_zero, List.set_cons_succ]
          refine wpAnyH_ready (rs := [9]) (by kernel_rfl) (by simp) ?_
          refine AllReadyH.cons (o := ⟨some 18, _, _, _, _, _⟩) rfl (fun K hK => ?_) AllReadyH.nil
          go_simp
          refine (pick_any 6 r _ _ P5.out.rd (by omega)).mono ?_
          rintro e w7 ⟨z4, rfl, z40, z41', hr', hk'⟩
          have z41 := z41' (by omega)
          have P6 := Lib.hid (P5.out.keep hrl hr' hk')
          clear z41' hr' hk'
          go_wp2_with fail
          refine hK.out _ _ ?_ (fun hHeld2 => ?_)
          · exact ⟨(blk2 P6.out.a).1, (blk2 P6.out.a).2.1⟩
          clear hK K hHeld P5
          have hHeld := hHeld2
          clear hHeld2
          try simp only [Act.put, List.setIfInBounds_toArray, List.set_cons_zero, List.set_cons_succ]
          refine wpAnyH_take (i := 10) (oi := ⟨some 19, _, _, _, _, _⟩) (v := ?_) rfl (by kernel_rfl) (by kernel_rfl) (by kernel_rfl) (fun _ _ _ h => h) (Or.inl ⟨by rfl, ?_⟩) (by assumption) ?_
          rotate_left 1
          · intro w hSw; (try dsimp only at hSw); go_simp; try (with_reducible rfl)
          try simp only [Act.put, List.setIfInBounds_toArray, List.set_cons_zero, List.set_cons_succ]
          refine wpAnyH_take (i := 12) (oi := ⟨some 21, _, _, _, _, _⟩) (v := ?_) rfl (by kernel_rfl) (by kernel_rfl) (by kernel_rfl) (fun _ _ _ h => h) (Or.inl ⟨by rfl, ?_⟩) (by assumption) ?_
          rotate_left 1
          · intro w hSw; (try dsimp only at hSw); go_simp; try (with_reducible rfl)
          try simp only [Act.put, List.setIfInBounds_toArray, List.set_cons_zero, List.set_cons_succ]
          have hY := P6.out.made hrl z1 (IntKind.i64.wrap (1 + z2)) ck ckey cv (IntKind.i64.wrap (1 + z4))
          obtain ⟨x0, x1⟩ := P6.out.bx _ rfl
          obtain ⟨n0, n1, n2, n3, n4, n5, n6, n7, n8⟩ := nine_cells x1
          have m0 := nine_free x1 0
          have m1 := nine_free x1 1
          have m2 := nine_free x1 2
          have m3 := nine_free x1 3
          have m4 := nine_free x1 4
          have m5 := nine_free x1 5
          have m6 := nine_free x1 6
          have m7 := nine_free x1 7
          have m8 := nine_free x1 8
          have hxl := lt_of_heap x1
          refine wpAnyH_ready (rs := [14]) (by kernel_rfl) (by simp) ?_
          refine AllReadyH.cons (o := ⟨none, _, _, _, _, _⟩) rfl (fun K hK => ?_) AllReadyH.nil
          go_simp
          refine hK.out _ _ ?_ (fun hHeld2 => ?_)
          · exact ⟨(blk2 hY.a).1, (blk2 hY.a).2.1⟩
          clear hK K hHeld P6 n0 n1 n2 n3 n4 n5 n6 n7 n8 m0 m1 m2 m3 m4 m5 m6 m7 m8 x0 x1 hHeld2
          have hY := Lib.hid hY
          try simp only [Act.put, List.setIfInBounds_toArray, List.set_cons_zero, List.set_cons_succ]
          refine wpAnyH_done (by kernel_rfl) ?_ _
          try simp only [Act.put, List.setIfInBounds_toArray, List.set_cons_zero, List.set_cons_succ]
          go_wp2_with fail
          go_meet
          exact ⟨_, _, _, _, rfl, hY, rfl⟩
        refine AllReadyH.cons (o := ⟨some 5, _, _, _, _, _⟩) rfl (fun K hK => ?_) AllReadyH.nil
        have P3 := Lib.hid (P2.out.box hrl)
        go_simp
        generalize (w3.alloc (.cells #[.int .i64 0, .int .i64 0, .int .i64 0, .int .i64 0, .int .i64 0, .int .i64 0, .int .i64 0, .int .i64 0, .slice none 0 0] 46)) = V3 at P3 ⊢
        refine hK.out _ _ ?_ (fun hHeld2 => ?_)
        · exact ⟨(blk2 P3.out.a).1, (blk2 P3.out.a).2.1⟩
        clear hK K hHeld P2
        have hHeld := hHeld2
        clear hHeld2
        try simp only [Act.put, List.setIfInBounds_toArray, List.set_cons_zero, List.set_cons_succ]
        refine wpAnyH_ready (rs := [7, 11]) (by kernel_rfl) (by simp) ?_
        refine AllReadyH.cons (o := ⟨some 16, _, _, _, _, _⟩) rfl (fun K hK => ?_) ?_
        · go_simp
          refine (cmd_any r _ _ P3.out.rd (by omega)).mono ?_
          rintro e w5 ⟨ck, ckey, cv, rfl, _, _, _, hr', hk'⟩
          have P4 := Lib.hid (P3.out.keep hrl hr' hk')
          clear hr' hk'
          go_wp2_with fail
          refine hK.out _ _ ?_ (fun hHeld2 => ?_)
          · exact ⟨(blk2 P4.out.a).1, (blk2 P4.out.a).2.1⟩
          clear hK K hHeld P3
          have hHeld := hHeld2
          clear hHeld2
          try simp only [Act.put, List.setIfInBounds_toArray, List.set_cons_zero, List.set_cons_succ]
          refine wpAnyH_ready (rs := [9, 11]) (by kernel_rfl) (by simp) ?_
          refine AllReadyH.cons (o := ⟨some 18, _, _, _, _, _⟩) rfl (fun K hK => ?_) ?_
          · go_simp
            refine (pick_any 6 r _ _ P4.out.rd (by omega)).mono ?_
            rintro e w6 ⟨z4, rfl, z40, z41', hr', hk'⟩
            have z41 := z41' (by omega)
            have P5 := Lib.hid (P4.out.keep hrl hr' hk')
            clear z41' hr' hk'
            go_wp2_with fail
            refine hK.out _ _ ?_ (fun hHeld2 => ?_)
            · exact ⟨(blk2 P5.out.a).1, (blk2 P5.out.a).2.1⟩
            clear hK K hHeld P4
            have hHeld := hHeld2
            clear hHeld2
            try simp only [Act.put, List.setIfInBounds_toArray, List.set_cons_zero, List.set_cons_succ]
            refine wpAnyH_take (i := 10) (oi := ⟨some 19, _, _, _, _, _⟩) (v := ?_) rfl (by kernel_rfl) (by kernel_rfl) (by kernel_rfl) (fun _ _ _ h => h) (Or.inl ⟨by rfl, ?_⟩) (by assumption) ?_
            rotate_left 1
            · intro w hSw; (try dsimp only at hSw); go_simp; try (with_reducible rfl)
            try simp only [Act.put, List.setIfInBounds_toArray, List.set_cons_zero, List.set_cons_succ]
            refine wpAnyH_ready (rs := [11]) (by kernel_rfl) (by simp) ?_
            refine AllReadyH.cons (o := ⟨some 20, _, _, _, _, _⟩) rfl (fun K hK => ?_) AllReadyH.nil
            have P6 := Lib.hid (P5.out.list hrl)
            go_simp
            generalize (w6.alloc (.cells #[] 24)) = V6 at P6 ⊢
            refine hK.out _ _ ?_ (fun hHeld2 => ?_)
            · exact ⟨(blk2 P6.out.a).1, (blk2 P6.out.a).2.1⟩
            clear hK K hHeld P5
            have hHeld := hHeld2
            clear hHeld2
            try simp only [Act.put, List.setIfInBounds_toArray, List.set_cons_zero, List.set_cons_succ]
            refine wpAnyH_take (i := 12) (oi := ⟨some 21, _, _, _, _, _⟩) (v := ?_) rfl (by kernel_rfl) (by kernel_rfl) (by kernel_rfl) (fun _ _ _ h => h) (Or.inl ⟨by rfl, ?_⟩) (by assumption) ?_
            rotate_left 1
            · intro w hSw; (try dsimp only at hSw); go_simp; try (with_reducible rfl)
            try simp only [Act.put, List.setIfInBounds_toArray, List.set_cons_zero, List.set_cons_succ]
            have hY := P6.out.made hrl z1 (IntKind.i64.wrap (1 + z2)) ck ckey cv (IntKind.i64.wrap (1 + z4))
            obtain ⟨x0, x1⟩ := P6.out.bx _ rfl
            obtain ⟨n0, n1, n2, n3, n4, n5, n6, n7, n8⟩ := nine_cells x1
            have m0 := nine_free x1 0
            have m1 := nine_free x1 1
            have m2 := nine_free x1 2
            have m3 := nine_free x1 3
            have m4 := nine_free x1 4
            have m5 := nine_free x1 5
            have m6 := nine_free x1 6
            have m7 := nine_free x1 7
            have m8 := nine_free x1 8
            have hxl := lt_of_heap x1
            refine wpAnyH_ready (rs := [14]) (by kernel_rfl) (by simp) ?_
            refine AllReadyH.cons (o := ⟨none, _, _, _, _, _⟩) rfl (fun K hK => ?_) AllReadyH.nil
            go_simp
            refine hK.out _ _ ?_ (fun hHeld2 => ?_)
            · exact ⟨(blk2 hY.a).1, (blk2 hY.a).2.1⟩
            clear hK K hHeld P6 n0 n1 n2 n3 n4 n5 n6 n7 n8 m0 m1 m2 m3 m4 m5 m6 m7 m8 x0 x1 hHeld2
            have hY := Lib.hid hY
            try simp only [Act.put, List.setIfInBounds_toArray, List.set_cons_zero, List.set_cons_succ]
            refine wpAnyH_done (by kernel_rfl) ?_ _
            try simp only [Act.put, List.setIfInBounds_toArray, List.set_cons_zero, List.set_cons_succ]
            go_wp2_with fail
            go_meet
            exact ⟨_, _, _, _, rfl, hY, rfl⟩
          refine AllReadyH.cons (o := ⟨some 20, _, _, _, _, _⟩) rfl (fun K hK => ?_) AllReadyH.nil
          have P5 := Lib.hid (P4.out.list hrl)
          go_simp
          generalize (w5.alloc (.cells #[] 24)) = V5 at P5 ⊢
          refine hK.out _ _ ?_ (fun hHeld2 => ?_)
          · exact ⟨(blk2 P5.out.a).1, (blk2 P5.out.a).2.1⟩
          clear hK K hHeld P4
          have hHeld := hHeld2
          clear hHeld2
          try simp only [Act.put, List.setIfInBounds_toArray, List.set_cons_zero, List.set_cons_succ]
          refine wpAnyH_ready (rs := [9]) (by kernel_rfl) (by simp) ?_
          refine AllReadyH.cons (o := ⟨some 18, _, _, _, _, _⟩) rfl (fun K hK => ?_) AllReadyH.nil
          go_simp
          refine (pick_any 6 r _ _ P5.out.rd (by omega)).mono ?_
          rintro e w7 ⟨z4, rfl, z40, z41', hr', hk'⟩
          have z41 := z41' (by omega)
          have P6 := Lib.hid (P5.out.keep hrl hr' hk')
          clear z41' hr' hk'
          go_wp2_with fail
          refine hK.out _ _ ?_ (fun hHeld2 => ?_)
          · exact ⟨(blk2 P6.out.a).1, (blk2 P6.out.a).2.1⟩
          clear hK K hHeld P5
          have hHeld := hHeld2
          clear hHeld2
          try simp only [Act.put, List.setIfInBounds_toArray, List.set_cons_zero, List.set_cons_succ]
          refine wpAnyH_take (i := 10) (oi := ⟨some 19, _, _, _, _, _⟩) (v := ?_) rfl (by kernel_rfl) (by kernel_rfl) (by kernel_rfl) (fun _ _ _ h => h) (Or.inl ⟨by rfl, ?_⟩) (by assumption) ?_
          rotate_left 1
          · intro w hSw; (try dsimp only at hSw); go_simp; try (with_reducible rfl)
          try simp only [Act.put, List.setIfInBounds_toArray, List.set_cons_zero, List.set_cons_succ]
          refine wpAnyH_take (i := 12) (oi := ⟨some 21, _, _, _, _, _⟩) (v := ?_) rfl (by kernel_rfl) (by kernel_rfl) (by kernel_rfl) (fun _ _ _ h => h) (Or.inl ⟨by rfl, ?_⟩) (by assumption) ?_
          rotate_left 1
          · intro w hSw; (try dsimp only at hSw); go_simp; try (with_reducible rfl)
          try simp only [Act.put, List.setIfInBounds_toArray, List.set_cons_zero, List.set_cons_succ]
          have hY := P6.out.made hrl z1 (IntKind.i64.wrap (1 + z2)) ck ckey cv (IntKind.i64.wrap (1 + z4))
          obtain ⟨x0, x1⟩ := P6.out.bx _ rfl
          obtain ⟨n0, n1, n2, n3, n4, n5, n6, n7, n8⟩ := nine_cells x1
          have m0 := nine_free x1 0
          have m1 := nine_free x1 1
          have m2 := nine_free x1 2
          have m3 := nine_free x1 3
          have m4 := nine_free x1 4
          have m5 := nine_free x1 5
          have m6 := nine_free x1 6
          have m7 := nine_free x1 7
          have m8 := nine_free x1 8
          have hxl := lt_of_heap x1
          refine wpAnyH_ready (rs := [14]) (by kernel_rfl) (by simp) ?_
          refine AllReadyH.cons (o := ⟨none, _, _, _, _, _⟩) rfl (fun K hK => ?_) AllReadyH.nil
          go_simp
          refine hK.out _ _ ?_ (fun hHeld2 => ?_)
          · exact ⟨(blk2 hY.a).1, (blk2 hY.a).2.1⟩
          clear hK K hHeld P6 n0 n1 n2 n3 n4 n5 n6 n7 n8 m0 m1 m2 m3 m4 m5 m6 m7 m8 x0 x1 hHeld2
          have hY := Lib.hid hY
          try simp only [Act.put, List.setIfInBounds_toArray, List.set_cons_zero, List.set_cons_succ]
          refine wpAnyH_done (by kernel_rfl) ?_ _
          try simp only [Act.put, List.setIfInBounds_toArray, List.set_cons_zero, List.set_cons_succ]
          go_wp2_with fail
          go_meet
          exact ⟨_, _, _, _, rfl, hY, rfl⟩
        refine AllReadyH.cons (o := ⟨some 20, _, _, _, _, _⟩) rfl (fun K hK => ?_) AllReadyH.nil
        have P4 := Lib.hid (P3.out.list hrl)
        go_simp
        generalize (V3.alloc (.cells #[] 24)) = V4 at P4 ⊢
        refine hK.out _ _ ?_ (fun hHeld2 => ?_)
        · exact ⟨(blk2 P4.out.a).1, (blk2 P4.out.a).2.1⟩
        clear hK K hHeld P3
        have hHeld := hHeld2
        clear hHeld2
        try simp only [Act.put, List.setIfInBounds_toArray, List.set_cons_zero, List.set_cons_succ]
        refine wpAnyH_ready (rs := [7]) (by kernel_rfl) (by simp) ?_
        refine AllReadyH.cons (o := ⟨some 16, _, _, _, _, _⟩) rfl (fun K hK => ?_) AllReadyH.nil
        go_simp
        refine (cmd_any r _ _ P4.out.rd (by omega)).mono ?_
        rintro e w6 ⟨ck, ckey, cv, rfl, _, _, _, hr', hk'⟩
        have P5 := Lib.hid (P4.out.keep hrl hr' hk')
        clear hr' hk'
        go_wp2_with fail
        refine hK.out _ _ ?_ (fun hHeld2 => ?_)
        · exact ⟨(blk2 P5.out.a).1, (blk2 P5.out.a).2.1⟩
        clear hK K hHeld P4
        have hHeld := hHeld2
        clear hHeld2
        try simp only [Act.put, List.setIfInBounds_toArray, List.set_cons_zero, List.set_cons_succ]
        refine wpAnyH_ready (rs := [9]) (by kernel_rfl) (by simp) ?_
        refine AllReadyH.cons (o := ⟨some 18, _, _, _, _, _⟩) rfl (fun K hK => ?_) AllReadyH.nil
        go_simp
        refine (pick_any 6 r _ _ P5.out.rd (by omega)).mono ?_
        rintro e w7 ⟨z4, rfl, z40, z41', hr', hk'⟩
        have z41 := z41' (by omega)
        have P6 := Lib.hid (P5.out.keep hrl hr' hk')
        clear z41' hr' hk'
        go_wp2_with fail
        refine hK.out _ _ ?_ (fun hHeld2 => ?_)
        · exact ⟨(blk2 P6.out.a).1, (blk2 P6.out.a).2.1⟩
        clear hK K hHeld P5
        have hHeld := hHeld2
        clear hHeld2
        try simp only [Act.put, List.setIfInBounds_toArray, List.set_cons_zero, List.set_cons_succ]
        refine wpAnyH_take (i := 10) (oi := ⟨some 19, _, _, _, _, _⟩) (v := ?_) rfl (by kernel_rfl) (by kernel_rfl) (by kernel_rfl) (fun _ _ _ h => h) (Or.inl ⟨by rfl, ?_⟩) (by assumption) ?_
        rotate_left 1
        · intro w hSw; (try dsimp only at hSw); go_simp; try (with_reducible rfl)
        try simp only [Act.put, List.setIfInBounds_toArray, List.set_cons_zero, List.set_cons_succ]
        refine wpAnyH_take (i := 12) (oi := ⟨some 21, _, _, _, _, _⟩) (v := ?_) rfl (by kernel_rfl) (by kernel_rfl) (by kernel_rfl) (fun _ _ _ h => h) (Or.inl ⟨by rfl, ?_⟩) (by assumption) ?_
        rotate_left 1
        · intro w hSw; (try dsimp only at hSw); go_simp; try (with_reducible rfl)
        try simp only [Act.put, List.setIfInBounds_toArray, List.set_cons_zero, List.set_cons_succ]
        have hY := P6.out.made hrl z1 (IntKind.i64.wrap (1 + z2)) ck ckey cv (IntKind.i64.wrap (1 + z4))
        obtain ⟨x0, x1⟩ := P6.out.bx _ rfl
        obtain ⟨n0, n1, n2, n3, n4, n5, n6, n7, n8⟩ := nine_cells x1
        have m0 := nine_free x1 0
        have m1 := nine_free x1 1
        have m2 := nine_free x1 2
        have m3 := nine_free x1 3
        have m4 := nine_free x1 4
        have m5 := nine_free x1 5
        have m6 := nine_free x1 6
        have m7 := nine_free x1 7
        have m8 := nine_free x1 8
        have hxl := lt_of_heap x1
        refine wpAnyH_ready (rs := [14]) (by kernel_rfl) (by simp) ?_
        refine AllReadyH.cons (o := ⟨none, _, _, _, _, _⟩) rfl (fun K hK => ?_) AllReadyH.nil
        go_simp
        refine hK.out _ _ ?_ (fun hHeld2 => ?_)
        · exact ⟨(blk2 hY.a).1, (blk2 hY.a).2.1⟩
        clear hK K hHeld P6 n0 n1 n2 n3 n4 n5 n6 n7 n8 m0 m1 m2 m3 m4 m5 m6 m7 m8 x0 x1 hHeld2
        have hY := Lib.hid hY
        try simp only [Act.put, List.setIfInBounds_toArray, List.set_cons_zero, List.set_cons_succ]
        refine wpAnyH_done (by kernel_rfl) ?_ _
        try simp only [Act.put, List.setIfInBounds_toArray, List.set_cons_zero, List.set_cons_succ]
        go_wp2_with fail
        go_meet
        exact ⟨_, _, _, _, rfl, hY, rfl⟩
      refine AllReadyH.cons (o := ⟨some 20, _, _, _, _, _⟩) rfl (fun K hK => ?_) ?_
      · have P2 := Lib.hid (P1.out.list hrl)
        go_simp
        generalize (w2.alloc (.cells #[] 24)) = V2 at P2 ⊢
        refine hK.out _ _ ?_ (fun hHeld2 => ?_)
        · exact ⟨(blk2 P2.out.a).1, (blk2 P2.out.a).2.1⟩
        clear hK K hHeld P1
        have hHeld := hHeld2
        clear hHeld2
        try simp only [Act.put, List.setIfInBounds_toArray, List.set_cons_zero, List.set_cons_succ]
        refine wpAnyH_ready (rs := [4, 13]) (by kernel_rfl) (by simp) ?_
        refine AllReadyH.cons (o := ⟨some 13, _, _, _, _, _⟩) rfl (fun K hK => ?_) ?_
        · go_simp
          refine (pick_any 3 r _ _ P2.out.rd (by omega)).mono ?_
          rintro e w4 ⟨z2, rfl, z20, z21', hr', hk'⟩
          have z21 := z21' (by omega)
          have P3 := Lib.hid (P2.out.keep hrl hr' hk')
          clear z21' hr' hk'
          go_wp2_with fail
          refine hK.out _ _ ?_ (fun hHeld2 => ?_)
          · exact ⟨(blk2 P3.out.a).1, (blk2 P3.out.a).2.1⟩
          clear hK K hHeld P2
          have hHeld := hHeld2
          clear hHeld2
          try simp only [Act.put, List.setIfInBounds_toArray, List.set_cons_zero, List.set_cons_succ]
          refine wpAnyH_take (i := 5) (oi := ⟨some 14, _, _, _, _, _⟩) (v := ?_) rfl (by kernel_rfl) (by kernel_rfl) (by kernel_rfl) (fun _ _ _ h => h) (Or.inl ⟨by rfl, ?_⟩) (by assumption) ?_
          rotate_left 1
          · intro w hSw; (try dsimp only at hSw); go_simp; try (with_reducible rfl)
          try simp only [Act.put, List.setIfInBounds_toArray, List.set_cons_zero, List.set_cons_succ]
          refine wpAnyH_ready (rs := [7, 13]) (by kernel_rfl) (by simp) ?_
          refine AllReadyH.cons (o := ⟨some 16, _, _, _, _, _⟩) rfl (fun K hK => ?_) ?_
          · go_simp
            refine (cmd_any r _ _ P3.out.rd (by omega)).mono ?_
            rintro e w5 ⟨ck, ckey, cv, rfl, _, _, _, hr', hk'⟩
            have P4 := Lib.hid (P3.out.keep hrl hr' hk')
            clear hr' hk'
            go_wp2_with fail
            refine hK.out _ _ ?_ (fun hHeld2 => ?_)
            · exact ⟨(blk2 P4.out.a).1, (blk2 P4.out.a).2.1⟩
            clear hK K hHeld P3
            have hHeld := hHeld2
            clear hHeld2
            try simp only [Act.put, List.setIfInBounds_toArray, List.set_cons_zero, List.set_cons_succ]
            refine wpAnyH_ready (rs := [9, 13]) (by kernel_rfl) (by simp) ?_
            refine AllReadyH.cons (o := ⟨some 18, _, _, _, _, _⟩) rfl (fun K hK => ?_) ?_
            · go_simp
              refine (pick_any 6 r _ _ P4.out.rd (by omega)).mono ?_
              rintro e w6 ⟨z4, rfl, z40, z41', hr', hk'⟩
              have z41 := z41' (by omega)
              have P5 := Lib.hid (P4.out.keep hrl hr' hk')
              clear z41' hr' hk'
              go_wp2_with fail
              refine hK.out _ _ ?_ (fun hHeld2 => ?_)
              · exact ⟨(blk2 P5.out.a).1, (blk2 P5.out.a).2.1⟩
              clear hK K hHeld P4
              have hHeld := hHeld2
              clear hHeld2
              try simp only [Act.put, List.setIfInBounds_toArray, List.set_cons_zero, List.set_cons_succ]
              refine wpAnyH_take (i := 10) (oi := ⟨some 19, _, _, _, _, _⟩) (v := ?_) rfl (by kernel_rfl) (by kernel_rfl) (by kernel_rfl) (fun _ _ _ h => h) (Or.inl ⟨by rfl, ?_⟩) (by assumption) ?_
              rotate_left 1
              · intro w hSw; (try dsimp only at hSw); go_simp; try (with_reducible rfl)
              try simp only [Act.put, List.setIfInBounds_toArray, List.set_cons_zero, List.set_cons_succ]
              refine wpAnyH_take (i := 12) (oi := ⟨some 21, _, _, _, _, _⟩) (v := ?_) rfl (by kernel_rfl) (by kernel_rfl) (by kernel_rfl) (fun _ _ _ h => h) (Or.inl ⟨by rfl, ?_⟩) (by assumption) ?_
              rotate_left 1
              · intro w hSw; (try dsimp only at hSw); go_simp; try (with_reducible rfl)
              try simp only [Act.put, List.setIfInBounds_toArray, List.set_cons_zero, List.set_cons_succ]
              refine wpAnyH_ready (rs := [13]) (by kernel_rfl) (by simp) ?_
              refine AllReadyH.cons (o := ⟨some 5, _, _, _, _, _⟩) rfl (fun K hK => ?_) AllReadyH.nil
              have P6 := Lib.hid (P5.out.box hrl)
              go_simp
              generalize (w6.alloc (.cells #[.int .i64 0, .int .i64 0, .int .i64 0, .int .i64 0, .int .i64 0, .int .i64 0, .int .i64 0, .int .i64 0, .slice none 0 0] 46)) = V6 at P6 ⊢
              refine hK.out _ _ ?_ (fun hHeld2 => ?_)
              · exact ⟨(blk2 P6.out.a).1, (blk2 P6.out.a).2.1⟩
              clear hK K hHeld P5
              have hHeld := hHeld2
              clear hHeld2
              try simp only [Act.put, List.setIfInBounds_toArray, List.set_cons_zero, List.set_cons_succ]
              have hY := P6.out.made hrl z1 (IntKind.i64.wrap (1 + z2)) ck ckey cv (IntKind.i64.wrap (1 + z4))
              obtain ⟨x0, x1⟩ := P6.out.bx _ rfl
              obtain ⟨n0, n1, n2, n3, n4, n5, n6, n7, n8⟩ := nine_cells x1
              have m0 := nine_free x1 0
              have m1 := nine_free x1 1
              have m2 := nine_free x1 2
              have m3 := nine_free x1 3
              have m4 := nine_free x1 4
              have m5 := nine_free x1 5
              have m6 := nine_free x1 6
              have m7 := nine_free x1 7
              have m8 := nine_free x1 8
              have hxl := lt_of_heap x1
              refine wpAnyH_ready (rs := [14]) (by kernel_rfl) (by simp) ?_
              refine AllReadyH.cons (o := ⟨none, _, _, _, _, _⟩) rfl (fun K hK => ?_) AllReadyH.nil
              go_simp
              refine hK.out _ _ ?_ (fun hHeld2 => ?_)
              · exact ⟨(blk2 hY.a).1, (blk2 hY.a).2.1⟩
              clear hK K hHeld P6 n0 n1 n2 n3 n4 n5 n6 n7 n8 m0 m1 m2 m3 m4 m5 m6 m7 m8 x0 x1 hHeld2
              have hY := Lib.hid hY
              try simp only [Act.put, List.setIfInBounds_toArray, List.set_cons_zero, List.set_cons_succ]
              refine wpAnyH_done (by kernel_rfl) ?_ _
              try simp only [Act.put, List.setIfInBounds_toArray, List.set_cons_zero, List.set_cons_succ]
              go_wp2_with fail
              go_meet
              exact ⟨_, _, _, _, rfl, hY, rfl⟩
            refine AllReadyH.cons (o := ⟨some 5, _, _, _, _, _⟩) rfl (fun K hK => ?_) AllReadyH.nil
            have P5 := Lib.hid (P4.out.box hrl)
            go_simp
            generalize (w5.alloc (.cells #[.int .i64 0, .int .i64 0, .int .i64 0, .int .i64 0, .int .i64 0, .int .i64 0, .int .i64 0, .int .i64 0, .slice none 0 0] 46)) = V5 at P5 ⊢
            refine hK.out _ _ ?_ (fun hHeld2 => ?_)
            · exact ⟨(blk2 P5.out.a).1, (blk2 P5.out.a).2.1⟩
            clear hK K hHeld P4
            have hHeld := hHeld2
            clear hHeld2
            try simp only [Act.put, List.setIfInBounds_toArray, List.set_cons_zero, List.set_cons_succ]
            refine wpAnyH_ready (rs := [9]) (by kernel_rfl) (by simp) ?_
            refine AllReadyH.cons (o := ⟨some 18, _, _, _, _, _⟩) rfl (fun K hK => ?_) AllReadyH.nil
            go_simp
            refine (pick_any 6 r _ _ P5.out.rd (by omega)).mono ?_
            rintro e w7 ⟨z4, rfl, z40, z41', hr', hk'⟩
            have z41 := z41' (by omega)
            have P6 := Lib.hid (P5.out.keep hrl hr' hk')
            clear z41' hr' hk'
            go_wp2_with fail
            refine hK.out _ _ ?_ (fun hHeld2 => ?_)
            · exact ⟨(blk2 P6.out.a).1, (blk2 P6.out.a).2.1⟩
            clear hK K hHeld P5
            have hHeld := hHeld2
            clear hHeld2
            try simp only [Act.put, List.setIfInBounds_toArray, List.set_cons_zero, List.set_cons_succ]
            refine wpAnyH_take (i := 10) (oi := ⟨some 19, _, _, _, _, _⟩) (v := ?_) rfl (by kernel_rfl) (by kernel_rfl) (by kernel_rfl) (fun _ _ _ h => h) (Or.inl ⟨by rfl, ?_⟩) (by assumption) ?_
            rotate_left 1
            · intro w hSw; (try dsimp only at hSw); go_simp; try (with_reducible rfl)
            try simp only [Act.put, List.setIfInBounds_toArray, List.set_cons_zero, List.set_cons_succ]
            refine wpAnyH_take (i := 12) (oi := ⟨some 21, _, _, _, _, _⟩) (v := ?_) rfl (by kernel_rfl) (by kernel_rfl) (by kernel_rfl) (fun _ _ _ h => h) (Or.inl ⟨by rfl, ?_⟩) (by assumption) ?_
            rotate_left 1
            · intro w hSw; (try dsimp only at hSw); go_simp; try (with_reducible rfl)
            try simp only [Act.put, List.setIfInBounds_toArray, List.set_cons_zero, List.set_cons_succ]
            have hY := P6.out.made hrl z1 (IntKind.i64.wrap (1 + z2)) ck ckey cv (IntKind.i64.wrap (1 + z4))
            obtain ⟨x0, x1⟩ := P6.out.bx _ rfl
            obtain ⟨n0, n1, n2, n3, n4, n5, n6, n7, n8⟩ := nine_cells x1
            have m0 := nine_free x1 0
            have m1 := nine_free x1 1
            have m2 := nine_free x1 2
            have m3 := nine_free x1 3
            have m4 := nine_free x1 4
            have m5 := nine_free x1 5
            have m6 := nine_free x1 6
            have m7 := nine_free x1 7
            have m8 := nine_free x1 8
            have hxl := lt_of_heap x1
            refine wpAnyH_ready (rs := [14]) (by kernel_rfl) (by simp) ?_
            refine AllReadyH.cons (o := ⟨none, _, _, _, _, _⟩) rfl (fun K hK => ?_) AllReadyH.nil
            go_simp
            refine hK.out _ _ ?_ (fun hHeld2 => ?_)
            · exact ⟨(blk2 hY.a).1, (blk2 hY.a).2.1⟩
            clear hK K hHeld P6 n0 n1 n2 n3 n4 n5 n6 n7 n8 m0 m1 m2 m3 m4 m5 m6 m7 m8 x0 x1 hHeld2
            have hY := Lib.hid hY
            try simp only [Act.put, List.setIfInBounds_toArray, List.set_cons_zero, List.set_cons_succ]
            refine wpAnyH_done (by kernel_rfl) ?_ _
            try simp only [Act.put, List.setIfInBounds_toArray, List.set_cons_zero, List.set_cons_succ]
            go_wp2_with fail
            go_meet
            exact ⟨_, _, _, _, rfl, hY, rfl⟩
          refine AllReadyH.cons (o := ⟨some 5, _, _, _, _, _⟩) rfl (fun K hK => ?_) AllReadyH.nil
          have P4 := Lib.hid (P3.out.box hrl)
          go_simp
          generalize (w4.alloc (.cells #[.int .i64 0, .int .i64 0, .int .i64 0, .int .i64 0, .int .i64 0, .int .i64 0, .int .i64 0, .int .i64 0, .slice none 0 0] 46)) = V4 at P4 ⊢
          refine hK.out _ _ ?_ (fun hHeld2 => ?_)
          · exact ⟨(blk2 P4.out.a).1, (blk2 P4.out.a).2.1⟩
          clear hK K hHeld P3
          have hHeld := hHeld2
          clear hHeld2
          try simp only [Act.put, List.setIfInBounds_toArray, List.set_cons_zero, List.set_cons_succ]
          refine wpAnyH_ready (rs := [7]) (by kernel_rfl) (by simp) ?_
          refine AllReadyH.cons (o := ⟨some 16, _, _, _, _, _⟩) rfl (fun K hK => ?_) AllReadyH.nil
          go_simp
          refine (cmd_any r _ _ P4.out.rd (by omega)).mono ?_
          rintro e w6 ⟨ck, ckey, cv, rfl, _, _, _, hr', hk'⟩
          have P5 := Lib.hid (P4.out.keep hrl hr' hk')
          clear hr' hk'
          go_wp2_with fail
          refine hK.out _ _ ?_ (fun hHeld2 => ?_)
          · exact ⟨(blk2 P5.out.a).1, (blk2 P5.out.a).2.1⟩
          clear hK K hHeld P4
          have hHeld := hHeld2
          clear hHeld2
          try simp only [Act.put, List.setIfInBounds_toArray, List.set_cons_zero, List.set_cons_succ]
          refine wpAnyH_ready (rs := [9]) (by kernel_rfl) (by simp) ?_
          refine AllReadyH.cons (o := ⟨some 18, _, _, _, _, _⟩) rfl (fun K hK => ?_) AllReadyH.nil
          go_simp
          refine (pick_any 6 r _ _ P5.out.rd (by omega)).mono ?_
          rintro e w7 ⟨z4, rfl, z40, z41', hr', hk'⟩
          have z41 := z41' (by omega)
          have P6 := Lib.hid (P5.out.keep hrl hr' hk')
          clear z41' hr' hk'
          go_wp2_with fail
          refine hK.out _ _ ?_ (fun hHeld2 => ?_)
          · exact ⟨(blk2 P6.out.a).1, (blk2 P6.out.a).2.1⟩
          clear hK K hHeld P5
          have hHeld := hHeld2
          clear hHeld2
          try simp only [Act.put, List.setIfInBounds_toArray, List.set_cons_zero, List.set_cons_succ]
          refine wpAnyH_take (i := 10) (oi := ⟨some 19, _, _, _, _, _⟩) (v := ?_) rfl (by kernel_rfl) (by kernel_rfl) (by kernel_rfl) (fun _ _ _ h => h) (Or.inl ⟨by rfl, ?_⟩) (by assumption) ?_
          rotate_left 1
          · intro w hSw; (try dsimp only at hSw); go_simp; try (with_reducible rfl)
          try simp only [Act.put, List.setIfInBounds_toArray, List.set_cons_zero, List.set_cons_succ]
          refine wpAnyH_take (i := 12) (oi := ⟨some 21, _, _, _, _, _⟩) (v := ?_) rfl (by kernel_rfl) (by kernel_rfl) (by kernel_rfl) (fun _ _ _ h => h) (Or.inl ⟨by rfl, ?_⟩) (by assumption) ?_
          rotate_left 1
          · intro w hSw; (try dsimp only at hSw); go_simp; try (with_reducible rfl)
          try simp only [Act.put, List.setIfInBounds_toArray, List.set_cons_zero, List.set_cons_succ]
          have hY := P6.out.made hrl z1 (IntKind.i64.wrap (1 + z2)) ck ckey cv (IntKind.i64.wrap (1 + z4))
          obtain ⟨x0, x1⟩ := P6.out.bx _ rfl
          obtain ⟨n0, n1, n2, n3, n4, n5, n6, n7, n8⟩ := nine_cells x1
          have m0 := nine_free x1 0
          have m1 := nine_free x1 1
          have m2 := nine_free x1 2
          have m3 := nine_free x1 3
          have m4 := nine_free x1 4
          have m5 := nine_free x1 5
          have m6 := nine_free x1 6
          have m7 := nine_free x1 7
          have m8 := nine_free x1 8
          have hxl := lt_of_heap x1
          refine wpAnyH_ready (rs := [14]) (by kernel_rfl) (by simp) ?_
          refine AllReadyH.cons (o := ⟨none, _, _, _, _, _⟩) rfl (fun K hK => ?_) AllReadyH.nil
          go_simp
          refine hK.out _ _ ?_ (fun hHeld2 => ?_)
          · exact ⟨(blk2 hY.a).1, (blk2 hY.a).2.1⟩
          clear hK K hHeld P6 n0 n1 n2 n3 n4 n5 n6 n7 n8 m0 m1 m2 m3 m4 m5 m6 m7 m8 x0 x1 hHeld2
          have hY := Lib.hid hY
          try simp only [Act.put, List.setIfInBounds_toArray, List.set_cons_zero, List.set_cons_succ]
          refine wpAnyH_done (by kernel_rfl) ?_ _
          try simp only [Act.put, List.setIfInBounds_toArray, List.set_cons_zero, List.set_cons_succ]
          go_wp2_with fail
          go_meet
          exact ⟨_, _, _, _, rfl, hY, rfl⟩
        refine AllReadyH.cons (o := ⟨some 5, _, _, _, _, _⟩) rfl (fun K hK => ?_) AllReadyH.nil
        have P3 := Lib.hid (P2.out.box hrl)
        go_simp
        generalize (V2.alloc (.cells #[.int .i64 0, .int .i64 0, .int .i64 0, .int .i64 0, .int .i64 0, .int .i64 0, .int .i64 0, .int .i64 0, .slice none 0 0] 46)) = V3 at P3 ⊢
        refine hK.out _ _ ?_ (fun hHeld2 => ?_)
        · exact ⟨(blk2 P3.out.a).1, (blk2 P3.out.a).2.1⟩
        clear hK K hHeld P2
        have hHeld := hHeld2
        clear hHeld2
        try simp only [Act.put, List.setIfInBounds_toArray, List.set_cons_zero, List.set_cons_succ]
        refine wpAnyH_ready (rs := [4]) (by kernel_rfl) (by simp) ?_
        refine AllReadyH.cons (o := ⟨some 13, _, _, _, _, _⟩) rfl (fun K hK => ?_) AllReadyH.nil
        go_simp
        refine (pick_any 3 r _ _ P3.out.rd (by omega)).mono ?_
        rintro e w5 ⟨z2, rfl, z20, z21', hr', hk'⟩
        have z21 := z21' (by omega)
        have P4 := Lib.hid (P3.out.keep hrl hr' hk')
        clear z21' hr' hk'
        go_wp2_with fail
        refine hK.out _ _ ?_ (fun hHeld2 => ?_)
        · exact ⟨(blk2 P4.out.a).1, (blk2 P4.out.a).2.1⟩
        clear hK K hHeld P3
        have hHeld := hHeld2
        clear hHeld2
        try simp only [Act.put, List.setIfInBounds_toArray, List.set_cons_zero, List.set_cons_succ]
        refine wpAnyH_take (i := 5) (oi := ⟨some 14, _, _, _, _, _⟩) (v := ?_) rfl (by kernel_rfl) (by kernel_rfl) (by kernel_rfl) (fun _ _ _ h => h) (Or.inl ⟨by rfl, ?_⟩) (by assumption) ?_
        rotate_left 1
        · intro w hSw; (try dsimp only at hSw); go_simp; try (with_reducible rfl)
        try simp only [Act.put, List.setIfInBounds_toArray, List.set_cons_zero, List.set_cons_succ]
        refine wpAnyH_ready (rs := [7]) (by kernel_rfl) (by simp) ?_
        refine AllReadyH.cons (o := ⟨some 16, _, _, _, _, _⟩) rfl (fun K hK => ?_) AllReadyH.nil
        go_simp
        refine (cmd_any r _ _ P4.out.rd (by omega)).mono ?_
        rintro e w6 ⟨ck, ckey, cv, rfl, _, _, _, hr', hk'⟩
        have P5 := Lib.hid (P4.out.keep hrl hr' hk')
        clear hr' hk'
        go_wp2_with fail
        refine hK.out _ _ ?_ (fun hHeld2 => ?_)
        · exact ⟨(blk2 P5.out.a).1, (blk2 P5.out.a).2.1⟩
        clear hK K hHeld P4
        have hHeld := hHeld2
        clear hHeld2
        try simp only [Act.put, List.setIfInBounds_toArray, List.set_cons_zero, List.set_cons_succ]
        refine wpAnyH_ready (rs := [9]) (by kernel_rfl) (by simp) ?_
        refine AllReadyH.cons (o := ⟨some 18, _, _, _, _, _⟩) rfl (fun K hK => ?_) AllReadyH.nil
        go_simp
        refine (pick_any 6 r _ _ P5.out.rd (by omega)).mono ?_
        rintro e w7 ⟨z4, rfl, z40, z41', hr', hk'⟩
        have z41 := z41' (by omega)
        have P6 := Lib.hid (P5.out.keep hrl hr' hk')
        clear z41' hr' hk'
        go_wp2_with fail
        refine hK.out _ _ ?_ (fun hHeld2 => ?_)
        · exact ⟨(blk2 P6.out.a).1, (blk2 P6.out.a).2.1⟩
        clear hK K hHeld P5
        have hHeld := hHeld2
        clear hHeld2
        try simp only [Act.put, List.setIfInBounds_toArray, List.set_cons_zero, List.set_cons_succ]
        refine wpAnyH_take (i := 10) (oi := ⟨some 19, _, _, _, _, _⟩) (v := ?_) rfl (by kernel_rfl) (by kernel_rfl) (by kernel_rfl) (fun _ _ _ h => h) (Or.inl ⟨by rfl, ?_⟩) (by assumption) ?_
        rotate_left 1
        · intro w hSw; (try dsimp only at hSw); go_simp; try (with_reducible rfl)
        try simp only [Act.put, List.setIfInBounds_toArray, List.set_cons_zero, List.set_cons_succ]
        refine wpAnyH_take (i := 12) (oi := ⟨some 21, _, _, _, _, _⟩) (v := ?_) rfl (by kernel_rfl) (by kernel_rfl) (by kernel_rfl) (fun _ _ _ h => h) (Or.inl ⟨by rfl, ?_⟩) (by assumption) ?_
        rotate_left 1
        · intro w hSw; (try dsimp only at hSw); go_simp; try (with_reducible rfl)
        try simp only [Act.put, List.setIfInBounds_toArray, List.set_cons_zero, List.set_cons_succ]
        have hY := P6.out.made hrl z1 (IntKind.i64.wrap (1 + z2)) ck ckey cv (IntKind.i64.wrap (1 + z4))
        obtain ⟨x0, x1⟩ := P6.out.bx _ rfl
        obtain ⟨n0, n1, n2, n3, n4, n5, n6, n7, n8⟩ := nine_cells x1
        have m0 := nine_free x1 0
        have m1 := nine_free x1 1
        have m2 := nine_free x1 2
        have m3 := nine_free x1 3
        have m4 := nine_free x1 4
        have m5 := nine_free x1 5
        have m6 := nine_free x1 6
        have m7 := nine_free x1 7
        have m8 := nine_free x1 8
        have hxl := lt_of_heap x1
        refine wpAnyH_ready (rs := [14]) (by kernel_rfl) (by simp) ?_
        refine AllReadyH.cons (o := ⟨none, _, _, _, _, _⟩) rfl (fun K hK => ?_) AllReadyH.nil
        go_simp
        refine hK.out _ _ ?_ (fun hHeld2 => ?_)
        · exact ⟨(blk2 hY.a).1, (blk2 hY.a).2.1⟩
        clear hK K hHeld P6 n0 n1 n2 n3 n4 n5 n6 n7 n8 m0 m1 m2 m3 m4 m5 m6 m7 m8 x0 x1 hHeld2
        have hY := Lib.hid hY
        try simp only [Act.put, List.setIfInBounds_toArray, List.set_cons_zero, List.set_cons_succ]
        refine wpAnyH_done (by kernel_rfl) ?_ _
        try simp only [Act.put, List.setIfInBounds_toArray, List.set_cons_zero, List.set_cons_succ]
        go_wp2_with fail
        go_meet
        exact ⟨_, _, _, _, rfl, hY, rfl⟩
      refine AllReadyH.cons (o := ⟨some 5, _, _, _, _, _⟩) rfl (fun K hK => ?_) AllReadyH.nil
      have P2 := Lib.hid (P1.out.box hrl)
      go_simp
      generalize (w2.alloc (.cells #[.int .i64 0, .int .i64 0, .int .i64 0, .int .i64 0, .int .i64 0, .int .i64 0, .int .i64 0, .int .i64 0, .slice none 0 0] 46)) = V2 at P2 ⊢
      refine hK.out _ _ ?_ (fun hHeld2 => ?_)
      · exact ⟨(blk2 P2.out.a).1, (blk2 P2.out.a).2.1⟩
      clear hK K hHeld P1
      have hHeld := hHeld2
      clear hHeld2
      try simp only [Act.put, List.setIfInBounds_toArray, List.set_cons_zero, List.set_cons_succ]
      refine wpAnyH_ready (rs := [4, 11]) (by kernel_rfl) (by simp) ?_
      refine AllReadyH.cons (o := ⟨some 13, _, _, _, _, _⟩) rfl (fun K hK => ?_) ?_
      · go_simp
        refine (pick_any 3 r _ _ P2.out.rd (by omega)).mono ?_
        rintro e w4 ⟨z2, rfl, z20, z21', hr', hk'⟩
        have z21 := z21' (by omega)
        have P3 := Lib.hid (P2.out.keep hrl hr' hk')
        clear z21' hr' hk'
        go_wp2_with fail
        refine hK.out _ _ ?_ (fun hHeld2 => ?_)
        · exact ⟨(blk2 P3.out.a).1, (blk2 P3.out.a).2.1⟩
        clear hK K hHeld P2
        have hHeld := hHeld2
        clear hHeld2
        try simp only [Act.put, List.setIfInBounds_toArray, List.set_cons_zero, List.set_cons_succ]
        refine wpAnyH_take (i := 5) (oi := ⟨some 14, _, _, _, _, _⟩) (v := ?_) rfl (by kernel_rfl) (by kernel_rfl) (by kernel_rfl) (fun _ _ _ h => h) (Or.inl ⟨by rfl, ?_⟩) (by assumption) ?_
        rotate_left 1
        · intro w hSw; (try dsimp only at hSw); go_simp; try (with_reducible rfl)
        try simp only [Act.put, List.setIfInBounds_toArray, List.set_cons_zero, List.set_cons_succ]
        refine wpAnyH_ready (rs := [7, 11]) (by kernel_rfl) (by simp) ?_
        refine AllReadyH.cons (o := ⟨some 16, _, _, _, _, _⟩) rfl (fun K hK => ?_) ?_
        · go_simp
          refine (cmd_any r _ _ P3.out.rd (by omega)).mono ?_
          rintro e w5 ⟨ck, ckey, cv, rfl, _, _, _, hr', hk'⟩
          have P4 := Lib.hid (P3.out.keep hrl hr' hk')
          clear hr' hk'
          go_wp2_with fail
          refine hK.out _ _ ?_ (fun hHeld2 => ?_)
          · exact ⟨(blk2 P4.out.a).1, (blk2 P4.out.a).2.1⟩
          clear hK K hHeld P3
          have hHeld := hHeld2
          clear hHeld2
          try simp only [Act.put, List.setIfInBounds_toArray, List.set_cons_zero, List.set_cons_succ]
          refine wpAnyH_ready (rs := [9, 11]) (by kernel_rfl) (by simp) ?_
          refine AllReadyH.cons (o := ⟨some 18, _, _, _, _, _⟩) rfl (fun K hK => ?_) ?_
          · go_simp
            refine (pick_any 6 r _ _ P4.out.rd (by omega)).mono ?_
            rintro e w6 ⟨z4, rfl, z40, z41', hr', hk'⟩
            have z41 := z41' (by omega)
            have P5 := Lib.hid (P4.out.keep hrl hr' hk')
            clear z41' hr' hk'
            go_wp2_with fail
            refine hK.out _ _ ?_ (fun hHeld2 => ?_)
            · exact ⟨(blk2 P5.out.a).1, (blk2 P5.out.a).2.1⟩
            clear hK K hHeld P4
            have hHeld := hHeld2
            clear hHeld2
            try simp only [Act.put, List.setIfInBounds_toArray, List.set_cons_zero, List.set_cons_succ]
            refine wpAnyH_take (i := 10) (oi := ⟨some 19, _, _, _, _, _⟩) (v := ?_) rfl (by kernel_rfl) (by kernel_rfl) (by kernel_rfl) (fun _ _ _ h => h) (Or.inl ⟨by rfl, ?_⟩) (by assumption) ?_
            rotate_left 1
            · intro w hSw; (try dsimp only at hSw); go_simp; try (with_reducible rfl)
            try simp only [Act.put, List.setIfInBounds_toArray, List.set_cons_zero, List.set_cons_succ]
            refine wpAnyH_ready (rs := [11]) (by kernel_rfl) (by simp) ?_
            refine AllReadyH.cons (o := ⟨some 20, _, _, _, _, _⟩) rfl (fun K hK => ?_) AllReadyH.nil
            have P6 := Lib.hid (P5.out.list hrl)
            go_simp
            generalize (w6.alloc (.cells #[] 24)) = V6 at P6 ⊢
            refine hK.out _ _ ?_ (fun hHeld2 => ?_)
            · exact ⟨(blk2 P6.out.a).1, (blk2 P6.out.a).2.1⟩
            clear hK K hHeld P5
            have hHeld := hHeld2
            clear hHeld2
            try simp only [Act.put, List.setIfInBounds_toArray, List.set_cons_zero, List.set_cons_succ]
            refine wpAnyH_take (i := 12) (oi := ⟨some 21, _, _, _, _, _⟩) (v := ?_) rfl (by kernel_rfl) (by kernel_rfl) (by kernel_rfl) (fun _ _ _ h => h) (Or.inl ⟨by rfl, ?_⟩) (by assumption) ?_
            rotate_left 1
            · intro w hSw; (try dsimp only at hSw); go_simp; try (with_reducible rfl)
            try simp only [Act.put, List.setIfInBounds_toArray, List.set_cons_zero, List.set_cons_succ]
            have hY := P6.out.made hrl z1 (IntKind.i64.wrap (1 + z2)) ck ckey cv (IntKind.i64.wrap (1 + z4))
            obtain ⟨x0, x1⟩ := P6.out.bx _ rfl
            obtain ⟨n0, n1, n2, n3, n4, n5, n6, n7, n8⟩ := nine_cells x1
            have m0 := nine_free x1 0
            have m1 := nine_free x1 1
            have m2 := nine_free x1 2
            have m3 := nine_free x1 3
            have m4 := nine_free x1 4
            have m5 := nine_free x1 5
            have m6 := nine_free x1 6
            have m7 := nine_free x1 7
            have m8 := nine_free x1 8
            have hxl := lt_of_heap x1
            refine wpAnyH_ready (rs := [14]) (by kernel_rfl) (by simp) ?_
            refine AllReadyH.cons (o := ⟨none, _, _, _, _, _⟩) rfl (fun K hK => ?_) AllReadyH.nil
            go_simp
            refine hK.out _ _ ?_ (fun hHeld2 => ?_)
            · exact ⟨(blk2 hY.a).1, (blk2 hY.a).2.1⟩
            clear hK K hHeld P6 n0 n1 n2 n3 n4 n5 n6 n7 n8 m0 m1 m2 m3 m4 m5 m6 m7 m8 x0 x1 hHeld2
            have hY := Lib.hid hY
            try simp only [Act.put, List.setIfInBounds_toArray, List.set_cons_zero, List.set_cons_succ]
            refine wpAnyH_done (by kernel_rfl) ?_ _
            try simp only [Act.put, List.setIfInBounds_toArray, List.set_cons_zero, List.set_cons_succ]
            go_wp2_with fail
            go_meet
            exact ⟨_, _, _, _, rfl, hY, rfl⟩
          refine AllReadyH.cons (o := ⟨some 20, _, _, _, _, _⟩) rfl (fun K hK => ?_) AllReadyH.nil
          have P5 := Lib.hid (P4.out.list hrl)
          go_simp
          generalize (w5.alloc (.cells #[] 24)) = V5 at P5 ⊢
          refine hK.out _ _ ?_ (fun hHeld2 => ?_)
          · exact ⟨(blk2 P5.out.a).1, (blk2 P5.out.a).2.1⟩
          clear hK K hHeld P4
          have hHeld := hHeld2
          clear hHeld2
          try simp only [Act.put, List.setIfInBounds_toArray, List.set_cons_zero, List.set_cons_succ]
          refine wpAnyH_ready (rs := [9]) (by kernel_rfl) (by simp) ?_
          refine AllReadyH.cons (o := ⟨some 18, _, _, _, _, _⟩) rfl (fun K hK => ?_) AllReadyH.nil
          go_simp
          refine (pick_any 6 r _ _ P5.out.rd (by omega)).mono ?_
          rintro e w7 ⟨z4, rfl, z40, z41', hr', hk'⟩
          have z41 := z41' (by omega)
          have P6 := Lib.hid (P5.out.keep hrl hr' hk')
          clear z41' hr' hk'
          go_wp2_with fail
          refine hK.out _ _ ?_ (fun hHeld2 => ?_)
          · exact ⟨(blk2 P6.out.a).1, (blk2 P6.out.a).2.1⟩
          clear hK K hHeld P5
          have hHeld := hHeld2
          clear hHeld2
          try simp only [Act.put, List.setIfInBounds_toArray, List.set_cons_zero, List.set_cons_succ]
          refine wpAnyH_take (i := 10) (oi := ⟨some 19, _, _, _, _, _⟩) (v := ?_) rfl (by kernel_rfl) (by kernel_rfl) (by kernel_rfl) (fun _ _ _ h => h) (Or.inl ⟨by rfl, ?_⟩) (by assumption) ?_
          rotate_left 1
          · intro w hSw; (try dsimp only at hSw); go_simp; try (with_reducible rfl)
          try simp only [Act.put, List.setIfInBounds_toArray, List.set_cons_zero, List.set_cons_succ]
          refine wpAnyH_take (i := 12) (oi := ⟨some 21, _, _, _, _, _⟩) (v := ?_) rfl (by kernel_rfl) (by kernel_rfl) (by kernel_rfl) (fun _ _ _ h => h) (Or.inl ⟨by rfl, ?_⟩) (by assumption) ?_
          rotate_left 1
          · intro w hSw; (try dsimp only at hSw); go_simp; try (with_reducible rfl)
          try simp only [Act.put, List.setIfInBounds_toArray, List.set_cons_zero, List.set_cons_succ]
          have hY := P6.out.made hrl z1 (IntKind.i64.wrap (1 + z2)) ck ckey cv (IntKind.i64.wrap (1 + z4))
          obtain ⟨x0, x1⟩ := P6.out.bx _ rfl
          obtain ⟨n0, n1, n2, n3, n4, n5, n6, n7, n8⟩ := nine_cells x1
          have m0 := nine_free x1 0
          have m1 := nine_free x1 1
          have m2 := nine_free x1 2
          have m3 := nine_free x1 3
          have m4 := nine_free x1 4
          have m5 := nine_free x1 5
          have m6 := nine_free x1 6
          have m7 := nine_free x1 7
          have m8 := nine_free x1 8
          have hxl := lt_of_heap x1
          refine wpAnyH_ready (rs := [14]) (by kernel_rfl) (by simp) ?_
          refine AllReadyH.cons (o := ⟨none, _, _, _, _, _⟩) rfl (fun K hK => ?_) AllReadyH.nil
          go_simp
          refine hK.out _ _ ?_ (fun hHeld2 => ?_)
          · exact ⟨(blk2 hY.a).1, (blk2 hY.a).2.1⟩
          clear hK K hHeld P6 n0 n1 n2 n3 n4 n5 n6 n7 n8 m0 m1 m2 m3 m4 m5 m6 m7 m8 x0 x1 hHeld2
          have hY := Lib.hid hY
          try simp only [Act.put, List.setIfInBounds_toArray, List.set_cons_zero, List.set_cons_succ]
          refine wpAnyH_done (by kernel_rfl) ?_ _
          try simp only [Act.put, List.setIfInBounds_toArray, List.set_cons_zero, List.set_cons_succ]
          go_wp2_with fail
          go_meet
          exact ⟨_, _, _, _, rfl, hY, rfl⟩
        refine AllReadyH.cons (o := ⟨some 20, _, _, _, _, _⟩) rfl (fun K hK => ?_) AllReadyH.nil
        have P4 := Lib.hid (P3.out.list hrl)
        go_simp
        generalize (w4.alloc (.cells #[] 24)) = V4 at P4 ⊢
        refine hK.out _ _ ?_ (fun hHeld2 => ?_)
        · exact ⟨(blk2 P4.out.a).1, (blk2 P4.out.a).2.1⟩
        clear hK K hHeld P3
        have hHeld := hHeld2
        clear hHeld2
        try simp only [Act.put, List.setIfInBounds_toArray, List.set_cons_zero, List.set_cons_succ]
        refine wpAnyH_ready (rs := [7]) (by kernel_rfl) (by simp) ?_
        refine AllReadyH.cons (o := ⟨some 16, _, _, _, _, _⟩) rfl (fun K hK => ?_) AllReadyH.nil
        go_simp
        refine (cmd_any r _ _ P4.out.rd (by omega)).mono ?_
        rintro e w6 ⟨ck, ckey, cv, rfl, _, _, _, hr', hk'⟩
        have P5 := Lib.hid (P4.out.keep hrl hr' hk')
        clear hr' hk'
        go_wp2_with fail
        refine hK.out _ _ ?_ (fun hHeld2 => ?_)
        · exact ⟨(blk2 P5.out.a).1, (blk2 P5.out.a).2.1⟩
        clear hK K hHeld P4
        have hHeld := hHeld2
        clear hHeld2
        try simp only [Act.put, List.setIfInBounds_toArray, List.set_cons_zero, List.set_cons_succ]
        refine wpAnyH_ready (rs := [9]) (by kernel_rfl) (by simp) ?_
        refine AllReadyH.cons (o := ⟨some 18, _, _, _, _, _⟩) rfl (fun K hK => ?_) AllReadyH.nil
        go_simp
        refine (pick_any 6 r _ _ P5.out.rd (by omega)).mono ?_
        rintro e w7 ⟨z4, rfl, z40, z41', hr', hk'⟩
        have z41 := z41' (by omega)
        have P6 := Lib.hid (P5.out.keep hrl hr' hk')
        clear z41' hr' hk'
        go_wp2_with fail
        refine hK.out _ _ ?_ (fun hHeld2 => ?_)
        · exact ⟨(blk2 P6.out.a).1, (blk2 P6.out.a).2.1⟩
        clear hK K hHeld P5
        have hHeld := hHeld2
        clear hHeld2
        try simp only [Act.put, List.setIfInBounds_toArray, List.set_cons_zero, List.set_cons_succ]
        refine wpAnyH_take (i := 10) (oi := ⟨some 19, _, _, _, _, _⟩) (v := ?_) rfl (by kernel_rfl) (by kernel_rfl) (by kernel_rfl) (fun _ _ _ h => h) (Or.inl ⟨by rfl, ?_⟩) (by assumption) ?_
        rotate_left 1
        · intro w hSw; (try dsimp only at hSw); go_simp; try (with_reducible rfl)
        try simp only [Act.put, List.setIfInBounds_toArray, List.set_cons_zero, List.set_cons_succ]
        refine wpAnyH_take (i := 12) (oi := ⟨some 21, _, _, _, _, _⟩) (v := ?_) rfl (by kernel_rfl) (by kernel_rfl) (by kernel_rfl) (fun _ _ _ h => h) (Or.inl ⟨by rfl, ?_⟩) (by assumption) ?_
        rotate_left 1
        · intro w hSw; (try dsimp only at hSw); go_simp; try (with_reducible rfl)
        try simp only [Act.put, List.setIfInBounds_toArray, List.set_cons_zero, List.set_cons_succ]
        have hY := P6.out.made hrl z1 (IntKind.i64.wrap (1 + z2)) ck ckey cv (IntKind.i64.wrap (1 + z4))
        obtain ⟨x0, x1⟩ := P6.out.bx _ rfl
        obtain ⟨n0, n1, n2, n3, n4, n5, n6, n7, n8⟩ := nine_cells x1
        have m0 := nine_free x1 0
        have m1 := nine_free x1 1
        have m2 := nine_free x1 2
        have m3 := nine_free x1 3
        have m4 := nine_free x1 4
        have m5 := nine_free x1 5
        have m6 := nine_free x1 6
        have m7 := nine_free x1 7
        have m8 := nine_free x1 8
        have hxl := lt_of_heap x1
        refine wpAnyH_ready (rs := [14]) (by kernel_rfl) (by simp) ?_
        refine AllReadyH.cons (o := ⟨none, _, _, _, _, _⟩) rfl (fun K hK => ?_) AllReadyH.nil
        go_simp
        refine hK.out _ _ ?_ (fun hHeld2 => ?_)
        · exact ⟨(blk2 hY.a).1, (blk2 hY.a).2.1⟩
        clear hK K hHeld P6 n0 n1 n2 n3 n4 n5 n6 n7 n8 m0 m1 m2 m3 m4 m5 m6 m7 m8 x0 x1 hHeld2
        have hY := Lib.hid hY
        try simp only [Act.put, List.setIfInBounds_toArray, List.set_cons_zero, List.set_cons_succ]
        refine wpAnyH_done (by kernel_rfl) ?_ _
        try simp only [Act.put, List.setIfInBounds_toArray, List.set_cons_zero, List.set_cons_succ]
        go_wp2_with fail
        go_meet
        exact ⟨_, _, _, _, rfl, hY, rfl⟩
      refine AllReadyH.cons (o := ⟨some 20, _, _, _, _, _⟩) rfl (fun K hK => ?_) AllReadyH.nil
      have P3 := Lib.hid (P2.out.list hrl)
      go_simp
      generalize (V2.alloc (.cells #[] 24)) = V3 at P3 ⊢
      refine hK.out _ _ ?_ (fun hHeld2 => ?_)
      · exact ⟨(blk2 P3.out.a).1, (blk2 P3.out.a).2.1⟩
      clear hK K hHeld P2
      have hHeld := hHeld2
      clear hHeld2
      try simp only [Act.put, List.setIfInBounds_toArray, List.set_cons_zero, List.set_cons_succ]
      refine wpAnyH_ready (rs := [4]) (by kernel_rfl) (by simp) ?_
      refine AllReadyH.cons (o := ⟨some 13, _, _, _, _, _⟩) rfl (fun K hK => ?_) AllReadyH.nil
      go_simp
      refine (pick_any 3 r _ _ P3.out.rd (by omega)).mono ?_
      rintro e w5 ⟨z2, rfl, z20, z21', hr', hk'⟩
      have z21 := z21' (by omega)
      have P4 := Lib.hid (P3.out.keep hrl hr' hk')
      clear z21' hr' hk'
      go_wp2_with fail
      refine hK.out _ _ ?_ (fun hHeld2 => ?_)
      · exact ⟨(blk2 P4.out.a).1, (blk2 P4.out.a).2.1⟩
      clear hK K hHeld P3
      have hHeld := hHeld2
      clear hHeld2
      try simp only [Act.put, List.setIfInBounds_toArray, List.set_cons_zero, List.set_cons_succ]
      refine wpAnyH_take (i := 5) (oi := ⟨some 14, _, _, _, _, _⟩) (v := ?_) rfl (by kernel_rfl) (by kernel_rfl) (by kernel_rfl) (fun _ _ _ h => h) (Or.inl ⟨by rfl, ?_⟩) (by assumption) ?_
      rotate_left 1
      · intro w hSw; (try dsimp only at hSw); go_simp; try (with_reducible rfl)
      try simp only [Act.put, List.setIfInBounds_toArray, List.set_cons_zero, List.set_cons_succ]
      refine wpAnyH_ready (rs := [7]) (by kernel_rfl) (by simp) ?_
      refine AllReadyH.cons (o := ⟨some 16, _, _, _, _, _⟩) rfl (fun K hK => ?_) AllReadyH.nil
      go_simp
      refine (cmd_any r _ _ P4.out.rd (by omega)).mono ?_
      rintro e w6 ⟨ck, ckey, cv, rfl, _, _, _, hr', hk'⟩
      have P5 := Lib.hid (P4.out.keep hrl hr' hk')
      clear hr' hk'
      go_wp2_with fail
      refine hK.out _ _ ?_ (fun hHeld2 => ?_)
      · exact ⟨(blk2 P5.out.a).1, (blk2 P5.out.a).2.1⟩
      clear hK K hHeld P4
      have hHeld := hHeld2
      clear hHeld2
      try simp only [Act.put, List.setIfInBounds_toArray, List.set_cons_zero, List.set_cons_succ]
      refine wpAnyH_ready (rs := [9]) (by kernel_rfl) (by simp) ?_
      refine AllReadyH.cons (o := ⟨some 18, _, _, _, _, _⟩) rfl (fun K hK => ?_) AllReadyH.nil
      go_simp
      refine (pick_any 6 r _ _ P5.out.rd (by omega)).mono ?_
      rintro e w7 ⟨z4, rfl, z40, z41', hr', hk'⟩
      have z41 := z41' (by omega)
      have P6 := Lib.hid (P5.out.keep hrl hr' hk')
      clear z41' hr' hk'
      go_wp2_with fail
      refine hK.out _ _ ?_ (fun hHeld2 => ?_)
      · exact ⟨(blk2 P6.out.a).1, (blk2 P6.out.a).2.1⟩
      clear hK K hHeld P5
      have hHeld := hHeld2
      clear hHeld2
      try simp only [Act.put, List.setIfInBounds_toArray, List.set_cons_zero, List.set_cons_succ]
      refine wpAnyH_take (i := 10) (oi := ⟨some 19, _, _, _, _, _⟩) (v := ?_) rfl (by kernel_rfl) (by kernel_rfl) (by kernel_rfl) (fun _ _ _ h => h) (Or.inl ⟨by rfl, ?_⟩) (by assumption) ?_
      rotate_left 1
      · intro w hSw; (try dsimp only at hSw); go_simp; try (with_reducible rfl)
      try simp only [Act.put, List.setIfInBounds_toArray, List.set_cons_zero, List.set_cons_succ]
      refine wpAnyH_take (i := 12) (oi := ⟨some 21, _, _, _, _, _⟩) (v := ?_) rfl (by kernel_rfl) (by kernel_rfl) (by kernel_rfl) (fun _ _ _ h => h) (Or.inl ⟨by rfl, ?_⟩) (by assumption) ?_
      rotate_left 1
      · intro w hSw; (try dsimp only at hSw); go_simp; try (with_reducible rfl)
      try simp only [Act.put, List.setIfInBounds_toArray, List.set_cons_zero, List.set_cons_succ]
      have hY := P6.out.made hrl z1 (IntKind.i64.wrap (1 + z2)) ck ckey cv (IntKind.i64.wrap (1 + z4))
      obtain ⟨x0, x1⟩ := P6.out.bx _ rfl
      obtain ⟨n0, n1, n2, n3, n4, n5, n6, n7, n8⟩ := nine_cells x1
      have m0 := nine_free x1 0
      have m1 := nine_free x1 1
      have m2 := nine_free x1 2
      have m3 := nine_free x1 3
      have m4 := nine_free x1 4
      have m5 := nine_free x1 5
      have m6 := nine_free x1 6
      have m7 := nine_free x1 7
      have m8 := nine_free x1 8
      have hxl := lt_of_heap x1
      refine wpAnyH_ready (rs := [14]) (by kernel_rfl) (by simp) ?_
      refine AllReadyH.cons (o := ⟨none, _, _, _, _, _⟩) rfl (fun K hK => ?_) AllReadyH.nil
      go_simp
      refine hK.out _ _ ?_ (fun hHeld2 => ?_)
      · exact ⟨(blk2 hY.a).1, (blk2 hY.a).2.1⟩
      clear hK K hHeld P6 n0 n1 n2 n3 n4 n5 n6 n7 n8 m0 m1 m2 m3 m4 m5 m6 m7 m8 x0 x1 hHeld2
      have hY := Lib.hid hY
      try simp only [Act.put, List.setIfInBounds_toArray, List.set_cons_zero, List.set_cons_succ]
      refine wpAnyH_done (by kernel_rfl) ?_ _
      try simp only [Act.put, List.setIfInBounds_toArray, List.set_cons_zero, List.set_cons_succ]
      go_wp2_with fail
      go_meet
      exact ⟨_, _, _, _, rfl, hY, rfl⟩
    refine AllReadyH.cons (o := ⟨some 20, _, _, _, _, _⟩) rfl (fun K hK => ?_) ?_
    · have P1 := Lib.hid (P0.out.list hrl)
      go_simp
      generalize (V0.alloc (.cells #[] 24)) = V1 at P1 ⊢
      refine hK.out _ _ ?_ (fun hHeld2 => ?_)
      · exact ⟨(blk2 P1.out.a).1, (blk2 P1.out.a).2.1⟩
      clear hK K hHeld P0
      have hHeld := hHeld2
      clear hHeld2
      try simp only [Act.put, List.setIfInBounds_toArray, List.set_cons_zero, List.set_cons_succ]
      refine wpAnyH_ready (rs := [2, 13]) (by kernel_rfl) (by simp) ?_
      refine AllReadyH.cons (o := ⟨some 11, _, _, _, _, _⟩) rfl (fun K hK => ?_) ?_
      · go_simp
        refine (pick_any 8 r _ _ P1.out.rd (by omega)).mono ?_
        rintro e w3 ⟨z1, rfl, z10, z11', hr', hk'⟩
        have z11 := z11' (by omega)
        have P2 := Lib.hid (P1.out.keep hrl hr' hk')
        clear z11' hr' hk'
        go_wp2_with fail
        refine hK.out _ _ ?_ (fun hHeld2 => ?_)
        · exact ⟨(blk2 P2.out.a).1, (blk2 P2.out.a).2.1⟩
        clear hK K hHeld P1
        have hHeld := hHeld2
        clear hHeld2
        try simp only [Act.put, List.setIfInBounds_toArray, List.set_cons_zero, List.set_cons_succ]
        refine wpAnyH_ready (rs := [4, 13]) (by kernel_rfl) (by simp) ?_
        refine AllReadyH.cons (o := ⟨some 13, _, _, _, _, _⟩) rfl (fun K hK => ?_) ?_
        · go_simp
          refine (pick_any 3 r _ _ P2.out.rd (by omega)).mono ?_
          rintro e w4 ⟨z2, rfl, z20, z21', hr', hk'⟩
          have z21 := z21' (by omega)
          have P3 := Lib.hid (P2.out.keep hrl hr' hk')
          clear z21' hr' hk'
          go_wp2_with fail
          refine hK.out _ _ ?_ (fun hHeld2 => ?_)
          · exact ⟨(blk2 P3.out.a).1, (blk2 P3.out.a).2.1⟩
          clear hK K hHeld P2
          have hHeld := hHeld2
          clear hHeld2
          try simp only [Act.put, List.setIfInBounds_toArray, List.set_cons_zero, List.set_cons_succ]
          refine wpAnyH_take (i := 5) (oi := ⟨some 14, _, _, _, _, _⟩) (v := ?_) rfl (by kernel_rfl) (by kernel_rfl) (by kernel_rfl) (fun _ _ _ h => h) (Or.inl ⟨by rfl, ?_⟩) (by assumption) ?_
          rotate_left 1
          · intro w hSw; (try dsimp only at hSw); go_simp; try (with_reducible rfl)
          try simp only [Act.put, List.setIfInBounds_toArray, List.set_cons_zero, List.set_cons_succ]
          refine wpAnyH_ready (rs := [7, 13]) (by kernel_rfl) (by simp) ?_
          refine AllReadyH.cons (o := ⟨some 16, _, _, _, _, _⟩) rfl (fun K hK => ?_) ?_
          · go_simp
            refine (cmd_any r _ _ P3.out.rd (by omega)).mono ?_
            rintro e w5 ⟨ck, ckey, cv, rfl, _, _, _, hr', hk'⟩
            have P4 := Lib.hid (P3.out.keep hrl hr' hk')
            clear hr' hk'
            go_wp2_with fail
            refine hK.out _ _ ?_ (fun hHeld2 => ?_)
            · exact ⟨(blk2 P4.out.a).1, (blk2 P4.out.a).2.1⟩
            clear hK K hHeld P3
            have hHeld := hHeld2
            clear hHeld2
            try simp only [Act.put, List.setIfInBounds_toArray, List.set_cons_zero, List.set_cons_succ]
            refine wpAnyH_ready (rs := [9, 13]) (by kernel_rfl) (by simp) ?_
            refine AllReadyH.cons (o := ⟨some 18, _, _, _, _, _⟩) rfl (fun K hK => ?_) ?_
            · go_simp
              refine (pick_any 6 r _ _ P4.out.rd (by omega)).mono ?_
              rintro e w6 ⟨z4, rfl, z40, z41', hr', hk'⟩
              have z41 := z41' (by omega)
              have P5 := Lib.hid (P4.out.keep hrl hr' hk')
              clear z41' hr' hk'
              go_wp2_with fail
              refine hK.out _ _ ?_ (fun hHeld2 => ?_)
              · exact ⟨(blk2 P5.out.a).1, (blk2 P5.out.a).2.1⟩
              clear hK K hHeld P4
              have hHeld := hHeld2
              clear hHeld2
              try simp only [Act.put, List.setIfInBounds_toArray, List.set_cons_zero, List.set_cons_succ]
              refine wpAnyH_take (i := 10) (oi := ⟨some 19, _, _, _, _, _⟩) (v := ?_) rfl (by kernel_rfl) (by kernel_rfl) (by kernel_rfl) (fun _ _ _ h => h) (Or.inl ⟨by rfl, ?_⟩) (by assumption) ?_
              rotate_left 1
              · intro w hSw; (try dsimp only at hSw); go_simp; try (with_reducible rfl)
              try simp only [Act.put, List.setIfInBounds_toArray, List.set_cons_zero, List.set_cons_succ]
              refine wpAnyH_take (i := 12) (oi := ⟨some 21, _, _, _, _, _⟩) (v := ?_) rfl (by kernel_rfl) (by kernel_rfl) (by kernel_rfl) (fun _ _ _ h => h) (Or.inl ⟨by rfl, ?_⟩) (by assumption) ?_
              rotate_left 1
              · intro w hSw; (try dsimp only at hSw); go_simp; try (with_reducible rfl)
              try simp only [Act.put, List.setIfInBounds_toArray, List.set_cons_zero, List.set_cons_succ]
              refine wpAnyH_ready (rs := [13]) (by kernel_rfl) (by simp) ?_
              refine AllReadyH.cons (o := ⟨some 5, _, _, _, _, _⟩) rfl (fun K hK => ?_) AllReadyH.nil
              have P6 := Lib.hid (P5.out.box hrl)
              go_simp
              generalize (w6.alloc (.cells #[.int .i64 0, .int .i64 0, .int .i64 0, .int .i64 0, .int .i64 0, .int .i64 0, .int .i64 0, .int .i64 0, .slice none 0 0] 46)) = V6 at P6 ⊢
              refine hK.out _ _ ?_ (fun hHeld2 => ?_)
              · exact ⟨(blk2 P6.out.a).1, (blk2 P6.out.a).2.1⟩
              clear hK K hHeld P5
              have hHeld := hHeld2
              clear hHeld2
              try simp only [Act.put, List.setIfInBounds_toArray, List.set_cons_zero, List.set_cons_succ]
              have hY := P6.out.made hrl z1 (IntKind.i64.wrap (1 + z2)) ck ckey cv (IntKind.i64.wrap (1 + z4))
              obtain ⟨x0, x1⟩ := P6.out.bx _ rfl
              obtain ⟨n0, n1, n2, n3, n4, n5, n6, n7, n8⟩ := nine_cells x1
              have m0 := nine_free x1 0
              have m1 := nine_free x1 1
              have m2 := nine_free x1 2
              have m3 := nine_free x1 3
              have m4 := nine_free x1 4
              have m5 := nine_free x1 5
              have m6 := nine_free x1 6
              have m7 := nine_free x1 7
              have m8 := nine_free x1 8
              have hxl := lt_of_heap x1
              refine wpAnyH_ready (rs := [14]) (by kernel_rfl) (by simp) ?_
              refine AllReadyH.cons (o := ⟨none, _, _, _, _, _⟩) rfl (fun K hK => ?_) AllReadyH.nil
              go_simp
              refine hK.out _ _ ?_ (fun hHeld2 => ?_)
              · exact ⟨(blk2 hY.a).1, (blk2 hY.a).2.1⟩
              clear hK K hHeld P6 n0 n1 n2 n3 n4 n5 n6 n7 n8 m0 m1 m2 m3 m4 m5 m6 m7 m8 x0 x1 hHeld2
              have hY := Lib.hid hY
              try simp only [Act.put, List.setIfInBounds_toArray, List.set_cons_zero, List.set_cons_succ]
              refine wpAnyH_done (by kernel_rfl) ?_ _
              try simp only [Act.put, List.setIfInBounds_toArray, List.set_cons_zero, List.set_cons_succ]
              go_wp2_with fail
              go_meet
              exact ⟨_, _, _, _, rfl, hY, rfl⟩
            refine AllReadyH.cons (o := ⟨some 5, _, _, _, _, _⟩) rfl (fun K hK => ?_) AllReadyH.nil
            have P5 := Lib.hid (P4.out.box hrl)
            go_simp
            generalize (w5.alloc (.cells #[.int .i64 0, .int .i64 0, .int .i64 0, .int .i64 0, .int .i64 0, .int .i64 0, .int .i64 0, .int .i64 0, .slice none 0 0] 46)) = V5 at P5 ⊢
            refine hK.out _ _ ?_ (fun hHeld2 => ?_)
            · exact ⟨(blk2 P5.out.a).1, (blk2 P5.out.a).2.1⟩
            clear hK K hHeld P4
            have hHeld := hHeld2
            clear hHeld2
            try simp only [Act.put, List.setIfInBounds_toArray, List.set_cons_zero, List.set_cons_succ]
            refine wpAnyH_ready (rs := [9]) (by kernel_rfl) (by simp) ?_
            refine AllReadyH.cons (o := ⟨some 18, _, _, _, _, _⟩) rfl (fun K hK => ?_) AllReadyH.nil
            go_simp
            refine (pick_any 6 r _ _ P5.out.rd (by omega)).mono ?_
            rintro e w7 ⟨z4, rfl, z40, z41', hr', hk'⟩
            have z41 := z41' (by omega)
            have P6 := Lib.hid (P5.out.keep hrl hr' hk')
            clear z41' hr' hk'
            go_wp2_with fail
            refine hK.out _ _ ?_ (fun hHeld2 => ?_)
            · exact ⟨(blk2 P6.out.a).1, (blk2 P6.out.a).2.1⟩
            clear hK K hHeld P5
            have hHeld := hHeld2
            clear hHeld2
            try simp only [Act.put, List.setIfInBounds_toArray, List.set_cons_zero, List.set_cons_succ]
            refine wpAnyH_take (i := 10) (oi := ⟨some 19, _, _, _, _, _⟩) (v := ?_) rfl (by kernel_rfl) (by kernel_rfl) (by kernel_rfl) (fun _ _ _ h => h) (Or.inl ⟨by rfl, ?_⟩) (by assumption) ?_
            rotate_left 1
            · intro w hSw; (try dsimp only at hSw); go_simp; try (with_reducible rfl)
            try simp only [Act.put, List.setIfInBounds_toArray, List.set_cons_zero, List.set_cons_succ]
            refine wpAnyH_take (i := 12) (oi := ⟨some 21, _, _, _, _, _⟩) (v := ?_) rfl (by kernel_rfl) (by kernel_rfl) (by kernel_rfl) (fun _ _ _ h => h) (Or.inl ⟨by rfl, ?_⟩) (by assumption) ?_
            rotate_left 1
            · intro w hSw; (try dsimp only at hSw); go_simp; try (with_reducible rfl)
            try simp only [Act.put, List.setIfInBounds_toArray, List.set_cons_zero, List.set_cons_succ]
            have hY := P6.out.made hrl z1 (IntKind.i64.wrap (1 + z2)) ck ckey cv (IntKind.i64.wrap (1 + z4))
            obtain ⟨x0, x1⟩ := P6.out.bx _ rfl
            obtain ⟨n0, n1, n2, n3, n4, n5, n6, n7, n8⟩ := nine_cells x1
            have m0 := nine_free x1 0
            have m1 := nine_free x1 1
            have m2 := nine_free x1 2
            have m3 := nine_free x1 3
            have m4 := nine_free x1 4
            have m5 := nine_free x1 5
            have m6 := nine_free x1 6
            have m7 := nine_free x1 7
            have m8 := nine_free x1 8
            have hxl := lt_of_heap x1
            refine wpAnyH_ready (rs := [14]) (by kernel_rfl) (by simp) ?_
            refine AllReadyH.cons (o := ⟨none, _, _, _, _, _⟩) rfl (fun K hK => ?_) AllReadyH.nil
            go_simp
            refine hK.out _ _ ?_ (fun hHeld2 => ?_)
            · exact ⟨(blk2 hY.a).1, (blk2 hY.a).2.1⟩
            clear hK K hHeld P6 n0 n1 n2 n3 n4 n5 n6 n7 n8 m0 m1 m2 m3 m4 m5 m6 m7 m8 x0 x1 hHeld2
            have hY := Lib.hid hY
            try simp only [Act.put, List.setIfInBounds_toArray, List.set_cons_zero, List.set_cons_succ]
            refine wpAnyH_done (by kernel_rfl) ?_ _
            try simp only [Act.put, List.setIfInBounds_toArray, List.set_cons_zero, List.set_cons_succ]
            go_wp2_with fail
            go_meet
            exact ⟨_, _, _, _, rfl, hY, rfl⟩
          refine AllReadyH.cons (o := ⟨some 5, _, _, _, _, _⟩) rfl (fun K hK => ?_) AllReadyH.nil
          have P4 := Lib.hid (P3.out.box hrl)
          go_simp
          generalize (w4.alloc (.cells #[.int .i64 0, .int .i64 0, .int .i64 0, .int .i64 0, .int .i64 0, .int .i64 0, .int .i64 0, .int .i64 0, .slice none 0 0] 46)) = V4 at P4 ⊢
          refine hK.out _ _ ?_ (fun hHeld2 => ?_)
          · exact ⟨(blk2 P4.out.a).1, (blk2 P4.out.a).2.1⟩
          clear hK K hHeld P3
          have hHeld := hHeld2
          clear hHeld2
          try simp only [Act.put, List.setIfInBounds_toArray, List.set_cons_zero, List.set_cons_succ]
          refine wpAnyH_ready (rs := [7]) (by kernel_rfl) (by simp) ?_
          refine AllReadyH.cons (o := ⟨some 16, _, _, _, _, _⟩) rfl (fun K hK => ?_) AllReadyH.nil
          go_simp
          refine (cmd_any r _ _ P4.out.rd (by omega)).mono ?_
          rintro e w6 ⟨ck, ckey, cv, rfl, _, _, _, hr', hk'⟩
          have P5 := Lib.hid (P4.out.keep hrl hr' hk')
          clear hr' hk'
          go_wp2_with fail
          refine hK.out _ _ ?_ (fun hHeld2 => ?_)
          · exact ⟨(blk2 P5.out.a).1, (blk2 P5.out.a).2.1⟩
          clear hK K hHeld P4
          have hHeld := hHeld2
          clear hHeld2
          try simp only [Act.put, List.setIfInBounds_toArray, List.set_cons_zero, List.set_cons_succ]
          refine wpAnyH_ready (rs := [9]) (by kernel_rfl) (by simp) ?_
          refine AllReadyH.cons (o := ⟨some 18, _, _, _, _, _⟩) rfl (fun K hK => ?_) AllReadyH.nil
          go_simp
          refine (pick_any 6 r _ _ P5.out.rd (by omega)).mono ?_
          rintro e w7 ⟨z4, rfl, z40, z41', hr', hk'⟩
          have z41 := z41' (by omega)
          have P6 := Lib.hid (P5.out.keep hrl hr' hk')
          clear z41' hr' hk'
          go_wp2_with fail
          refine hK.out _ _ ?_ (fun hHeld2 => ?_)
          · exact ⟨(blk2 P6.out.a).1, (blk2 P6.out.a).2.1⟩
          clear hK K hHeld P5
          have hHeld := hHeld2
          clear hHeld2
          try simp only [Act.put, List.setIfInBounds_toArray, List.set_cons_zero, List.set_cons_succ]
          refine wpAnyH_take (i := 10) (oi := ⟨some 19, _, _, _, _, _⟩) (v := ?_) rfl (by kernel_rfl) (by kernel_rfl) (by kernel_rfl) (fun _ _ _ h => h) (Or.inl ⟨by rfl, ?_⟩) (by assumption) ?_
          rotate_left 1
          · intro w hSw; (try dsimp only at hSw); go_simp; try (with_reducible rfl)
          try simp only [Act.put, List.setIfInBounds_toArray, List.set_cons_zero, List.set_cons_succ]
          refine wpAnyH_take (i := 12) (oi := ⟨some 21, _, _, _, _, _⟩) (v := ?_) rfl (by kernel_rfl) (by kernel_rfl) (by kernel_rfl) (fun _ _ _ h => h) (Or.inl ⟨by rfl, ?_⟩) (by assumption) ?_
          rotate_left 1
          · intro w hSw; (try dsimp only at hSw); go_simp; try (with_reducible rfl)
          try simp only [Act.put, List.setIfInBounds_toArray, List.set_cons_zero, List.set_cons_succ]
          have hY := P6.out.made hrl z1 (IntKind.i64.wrap (1 + z2)) ck ckey cv (IntKind.i64.wrap (1 + z4))
          obtain ⟨x0, x1⟩ := P6.out.bx _ rfl
          obtain ⟨n0, n1, n2, n3, n4, n5, n6, n7, n8⟩ := nine_cells x1
          have m0 := nine_free x1 0
          have m1 := nine_free x1 1
          have m2 := nine_free x1 2
          have m3 := nine_free x1 3
          have m4 := nine_free x1 4
          have m5 := nine_free x1 5
          have m6 := nine_free x1 6
          have m7 := nine_free x1 7
          have m8 := nine_free x1 8
          have hxl := lt_of_heap x1
          refine wpAnyH_ready (rs := [14]) (by kernel_rfl) (by simp) ?_
          refine AllReadyH.cons (o := ⟨none, _, _, _, _, _⟩) rfl (fun K hK => ?_) AllReadyH.nil
          go_simp
          refine hK.out _ _ ?_ (fun hHeld2 => ?_)
          · exact ⟨(blk2 hY.a).1, (blk2 hY.a).2.1⟩
          clear hK K hHeld P6 n0 n1 n2 n3 n4 n5 n6 n7 n8 m0 m1 m2 m3 m4 m5 m6 m7 m8 x0 x1 hHeld2
          have hY := Lib.hid hY
          try simp only [Act.put, List.setIfInBounds_toArray, List.set_cons_zero, List.set_cons_succ]
          refine wpAnyH_done (by kernel_rfl) ?_ _
          try simp only [Act.put, List.setIfInBounds_toArray, List.set_cons_zero, List.set_cons_succ]
          go_wp2_with fail
          go_meet
          exact ⟨_, _, _, _, rfl, hY, rfl⟩
        refine AllReadyH.cons (o := ⟨some 5, _, _, _, _, _⟩) rfl (fun K hK => ?_) AllReadyH.nil
        have P3 := Lib.hid (P2.out.box hrl)
        go_simp
        generalize (w3.alloc (.cells #[.int .i64 0, .int .i64 0, .int .i64 0, .int .i64 0, .int .i64 0, .int .i64 0, .int .i64 0, .int .i64 0, .slice none 0 0] 46)) = V3 at P3 ⊢
        refine hK.out _ _ ?_ (fun hHeld2 => ?_)
        · exact ⟨(blk2 P3.out.a).1, (blk2 P3.out.a).2.1⟩
        clear hK K hHeld P2
        have hHeld := hHeld2
        clear hHeld2
        try simp only [Act.put, List.setIfInBounds_toArray, List.set_cons_zero, List.set_cons_succ]
        refine wpAnyH_ready (rs := [4]) (by kernel_rfl) (by simp) ?_
        refine AllReadyH.cons (o := ⟨some 13, _, _, _, _, _⟩) rfl (fun K hK => ?_) AllReadyH.nil
        go_simp
        refine (pick_any 3 r _ _ P3.out.rd (by omega)).mono ?_
        rintro e w5 ⟨z2, rfl, z20, z21', hr', hk'⟩
        have z21 := z21' (by omega)
        have P4 := Lib.hid (P3.out.keep hrl hr' hk')
        clear z21' hr' hk'
        go_wp2_with fail
        refine hK.out _ _ ?_ (fun hHeld2 => ?_)
        · exact ⟨(blk2 P4.out.a).1, (blk2 P4.out.a).2.1⟩
        clear hK K hHeld P3
        have hHeld := hHeld2
        clear hHeld2
        try simp only [Act.put, List.setIfInBounds_toArray, List.set_cons_zero, List.set_cons_succ]
        refine wpAnyH_take (i := 5) (oi := ⟨some 14, _, _, _, _, _⟩) (v := ?_) rfl (by kernel_rfl) (by kernel_rfl) (by kernel_rfl) (fun _ _ _ h => h) (Or.inl ⟨by rfl, ?_⟩) (by assumption) ?_
        rotate_left 1
        · intro w hSw; (try dsimp only at hSw); go_simp; try (with_reducible rfl)
        try simp only [Act.put, List.setIfInBounds_toArray, List.set_cons_zero, List.set_cons_succ]
        refine wpAnyH_ready (rs := [7]) (by kernel_rfl) (by simp) ?_
        refine AllReadyH.cons (o := ⟨some 16, _, _, _, _, _⟩) rfl (fun K hK => ?_) AllReadyH.nil
        go_simp
        refine (cmd_any r _ _ P4.out.rd (by omega)).mono ?_
        rintro e w6 ⟨ck, ckey, cv, rfl, _, _, _, hr', hk'⟩
        have P5 := Lib.hid (P4.out.keep hrl hr' hk')
        clear hr' hk'
        go_wp2_with fail
        refine hK.out _ _ ?_ (fun hHeld2 => ?_)
        · exact ⟨(blk2 P5.out.a).1, (blk2 P5.out.a).2.1⟩
        clear hK K hHeld P4
        have hHeld := hHeld2
        clear hHeld2
        try simp only [Act.put, List.setIfInBounds_toArray, List.set_cons_zero, List.set_cons_succ]
        refine wpAnyH_ready (rs := [9]) (by kernel_rfl) (by simp) ?_
        refine AllReadyH.cons (o := ⟨some 18, _, _, _, _, _⟩) rfl (fun K hK => ?_) AllReadyH.nil
        go_simp
        refine (pick_any 6 r _ _ P5.out.rd (by omega)).mono ?_
        rintro e w7 ⟨z4, rfl, z40, z41', hr', hk'⟩
        have z41 := z41' (by omega)
        have P6 := Lib.hid (P5.out.keep hrl hr' hk')
        clear z41' hr' hk'
        go_wp2_with fail
        refine hK.out _ _ ?_ (fun hHeld2 => ?_)
        · exact ⟨(blk2 P6.out.a).1, (blk2 P6.out.a).2.1⟩
        clear hK K hHeld P5
        have hHeld := hHeld2
        clear hHeld2
        try simp only [Act.put, List.setIfInBounds_toArray, List.set_cons_zero, List.set_cons_succ]
        refine wpAnyH_take (i := 10) (oi := ⟨some 19, _, _, _, _, _⟩) (v := ?_) rfl (by kernel_rfl) (by kernel_rfl) (by kernel_rfl) (fun _ _ _ h => h) (Or.inl ⟨by rfl, ?_⟩) (by assumption) ?_
        rotate_left 1
        · intro w hSw; (try dsimp only at hSw); go_simp; try (with_reducible rfl)
        try simp only [Act.put, List.setIfInBounds_toArray, List.set_cons_zero, List.set_cons_succ]
        refine wpAnyH_take (i := 12) (oi := ⟨some 21, _, _, _, _, _⟩) (v := ?_) rfl (by kernel_rfl) (by kernel_rfl) (by kernel_rfl) (fun _ _ _ h => h) (Or.inl ⟨by rfl, ?_⟩) (by assumption) ?_
        rotate_left 1
        · intro w hSw; (try dsimp only at hSw); go_simp; try (with_reducible rfl)
        try simp only [Act.put, List.setIfInBounds_toArray, List.set_cons_zero, List.set_cons_succ]
        have hY := P6.out.made hrl z1 (IntKind.i64.wrap (1 + z2)) ck ckey cv (IntKind.i64.wrap (1 + z4))
        obtain ⟨x0, x1⟩ := P6.out.bx _ rfl
        obtain ⟨n0, n1, n2, n3, n4, n5, n6, n7, n8⟩ := nine_cells x1
        have m0 := nine_free x1 0
        have m1 := nine_free x1 1
        have m2 := nine_free x1 2
        have m3 := nine_free x1 3
        have m4 := nine_free x1 4
        have m5 := nine_free x1 5
        have m6 := nine_free x1 6
        have m7 := nine_free x1 7
        have m8 := nine_free x1 8
        have hxl := lt_of_heap x1
        refine wpAnyH_ready (rs := [14]) (by kernel_rfl) (by simp) ?_
        refine AllReadyH.cons (o := ⟨none, _, _, _, _, _⟩) rfl (fun K hK => ?_) AllReadyH.nil
        go_simp
        refine hK.out _ _ ?_ (fun hHeld2 => ?_)
        · exact ⟨(blk2 hY.a).1, (blk2 hY.a).2.1⟩
        clear hK K hHeld P6 n0 n1 n2 n3 n4 n5 n6 n7 n8 m0 m1 m2 m3 m4 m5 m6 m7 m8 x0 x1 hHeld2
        have hY := Lib.hid hY
        try simp only [Act.put, List.setIfInBounds_toArray, List.set_cons_zero, List.set_cons_succ]
        refine wpAnyH_done (by kernel_rfl) ?_ _
        try simp only [Act.put, List.setIfInBounds_toArray, List.set_cons_zero, List.set_cons_succ]
        go_wp2_with fail
        go_meet
        exact ⟨_, _, _, _, rfl, hY, rfl⟩
      refine AllReadyH.cons (o := ⟨some 5, _, _, _, _, _⟩) rfl (fun K hK => ?_) AllReadyH.nil
      have P2 := Lib.hid (P1.out.box hrl)
      go_simp
      generalize (V1.alloc (.cells #[.int .i64 0, .int .i64 0, .int .i64 0, .int .i64 0, .int .i64 0, .int .i64 0, .int .i64 0, .int .i64 0, .slice none 0 0] 46)) = V2 at P2 ⊢
      refine hK.out _ _ ?_ (fun hHeld2 => ?_)
      · exact ⟨(blk2 P2.out.a).1, (blk2 P2.out.a).2.1⟩
      clear hK K hHeld P1
      have hHeld := hHeld2
      clear hHeld2
      try simp only [Act.put, List.setIfInBounds_toArray, List.set_cons_zero, List.set_cons_succ]
      refine wpAnyH_ready (rs := [2]) (by kernel_rfl) (by simp) ?_
      refine AllReadyH.cons (o := ⟨some 11, _, _, _, _, _⟩) rfl (fun K hK => ?_) AllReadyH.nil
      go_simp
      refine (pick_any 8 r _ _ P2.out.rd (by omega)).mono ?_
      rintro e w4 ⟨z1, rfl, z10, z11', hr', hk'⟩
      have z11 := z11' (by omega)
      have P3 := Lib.hid (P2.out.keep hrl hr' hk')
      clear z11' hr' hk'
      go_wp2_with fail
      refine hK.out _ _ ?_ (fun hHeld2 => ?_)
      · exact ⟨(blk2 P3.out.a).1, (blk2 P3.out.a).2.1⟩
      clear hK K hHeld P2
      have hHeld := hHeld2
      clear hHeld2
      try simp only [Act.put, List.setIfInBounds_toArray, List.set_cons_zero, List.set_cons_succ]
      refine wpAnyH_ready (rs := [4]) (by kernel_rfl) (by simp) ?_
      refine AllReadyH.cons (o := ⟨some 13, _, _, _, _, _⟩) rfl (fun K hK => ?_) AllReadyH.nil
      go_simp
      refine (pick_any 3 r _ _ P3.out.rd (by omega)).mono ?_
      rintro e w5 ⟨z2, rfl, z20, z21', hr', hk'⟩
      have z21 := z21' (by omega)
      have P4 := Lib.hid (P3.out.keep hrl hr' hk')
      clear z21' hr' hk'
      go_wp2_with fail
      refine hK.out _ _ ?_ (fun hHeld2 => ?_)
      · exact ⟨(blk2 P4.out.a).1, (blk2 P4.out.a).2.1⟩
      clear hK K hHeld P3
      have hHeld := hHeld2
      clear hHeld2
      try simp only [Act.put, List.setIfInBounds_toArray, List.set_cons_zero, List.set_cons_succ]
      refine wpAnyH_take (i := 5) (oi := ⟨some 14, _, _, _, _, _⟩) (v := ?_) rfl (by kernel_rfl) (by kernel_rfl) (by kernel_rfl) (fun _ _ _ h => h) (Or.inl ⟨by rfl, ?_⟩) (by assumption) ?_
      rotate_left 1
      · intro w hSw; (try dsimp only at hSw); go_simp; try (with_reducible rfl)
      try simp only [Act.put, List.setIfInBounds_toArray, List.set_cons_zero, List.set_cons_succ]
      refine wpAnyH_ready (rs := [7]) (by kernel_rfl) (by simp) ?_
      refine AllReadyH.cons (o := ⟨some 16, _, _, _, _, _⟩) rfl (fun K hK => ?_) AllReadyH.nil
      go_simp
      refine (cmd_any r _ _ P4.out.rd (by omega)).mono ?_
      rintro e w6 ⟨ck, ckey, cv, rfl, _, _, _, hr', hk'⟩
      have P5 := Lib.hid (P4.out.keep hrl hr' hk')
      clear hr' hk'
      go_wp2_with fail
      refine hK.out _ _ ?_ (fun hHeld2 => ?_)
      · exact ⟨(blk2 P5.out.a).1, (blk2 P5.out.a).2.1⟩
      clear hK K hHeld P4
      have hHeld := hHeld2
      clear hHeld2
      try simp only [Act.put, List.setIfInBounds_toArray, List.set_cons_zero, List.set_cons_succ]
      refine wpAnyH_ready (rs := [9]) (by kernel_rfl) (by simp) ?_
      refine AllReadyH.cons (o := ⟨some 18, _, _, _, _, _⟩) rfl (fun K hK => ?_) AllReadyH.nil
      go_simp
      refine (pick_any 6 r _ _ P5.out.rd (by omega)).mono ?_
      rintro e w7 ⟨z4, rfl, z40, z41', hr', hk'⟩
      have z41 := z41' (by omega)
      have P6 := Lib.hid (P5.out.keep hrl hr' hk')
      clear z41' hr' hk'
      go_wp2_with fail
      refine hK.out _ _ ?_ (fun hHeld2 => ?_)
      · exact ⟨(blk2 P6.out.a).1, (blk2 P6.out.a).2.1⟩
      clear hK K hHeld P5
      have hHeld := hHeld2
      clear hHeld2
      try simp only [Act.put, List.setIfInBounds_toArray, List.set_cons_zero, List.set_cons_succ]
      refine wpAnyH_take (i := 10) (oi := ⟨some 19, _, _, _, _, _⟩) (v := ?_) rfl (by kernel_rfl) (by kernel_rfl) (by kernel_rfl) (fun _ _ _ h => h) (Or.inl ⟨by rfl, ?_⟩) (by assumption) ?_
      rotate_left 1
      · intro w hSw; (try dsimp only at hSw); go_simp; try (with_reducible rfl)
      try simp only [Act.put, List.setIfInBounds_toArray, List.set_cons_zero, List.set_cons_succ]
      refine wpAnyH_take (i := 12) (oi := ⟨some 21, _, _, _, _, _⟩) (v := ?_) rfl (by kernel_rfl) (by kernel_rfl) (by kernel_rfl) (fun _ _ _ h => h) (Or.inl ⟨by rfl, ?_⟩) (by assumption) ?_
      rotate_left 1
      · intro w hSw; (try dsimp only at hSw); go_simp; try (with_reducible rfl)
      try simp only [Act.put, List.setIfInBounds_toArray, List.set_cons_zero, List.set_cons_succ]
      have hY := P6.out.made hrl z1 (IntKind.i64.wrap (1 + z2)) ck ckey cv (IntKind.i64.wrap (1 + z4))
      obtain ⟨x0, x1⟩ := P6.out.bx _ rfl
      obtain ⟨n0, n1, n2, n3, n4, n5, n6, n7, n8⟩ := nine_cells x1
      have m0 := nine_free x1 0
      have m1 := nine_free x1 1
      have m2 := nine_free x1 2
      have m3 := nine_free x1 3
      have m4 := nine_free x1 4
      have m5 := nine_free x1 5
      have m6 := nine_free x1 6
      have m7 := nine_free x1 7
      have m8 := nine_free x1 8
      have hxl := lt_of_heap x1
      refine wpAnyH_ready (rs := [14]) (by kernel_rfl) (by simp) ?_
      refine AllReadyH.cons (o := ⟨none, _, _, _, _, _⟩) rfl (fun K hK => ?_) AllReadyH.nil
      go_simp
      refine hK.out _ _ ?_ (fun hHeld2 => ?_)
      · exact ⟨(blk2 hY.a).1, (blk2 hY.a).2.1⟩
      clear hK K hHeld P6 n0 n1 n2 n3 n4 n5 n6 n7 n8 m0 m1 m2 m3 m4 m5 m6 m7 m8 x0 x1 hHeld2
      have hY := Lib.hid hY
      try simp only [Act.put, List.setIfInBounds_toArray, List.set_cons_zero, List.set_cons_succ]
      refine wpAnyH_done (by kernel_rfl) ?_ _
      try simp only [Act.put, List.setIfInBounds_toArray, List.set_cons_zero, List.set_cons_succ]
      go_wp2_with fail
      go_meet
      exact ⟨_, _, _, _, rfl, hY, rfl⟩
    refine AllReadyH.cons (o := ⟨some 5, _, _, _, _, _⟩) rfl (fun K hK => ?_) AllReadyH.nil
    have P1 := Lib.hid (P0.out.box hrl)
    go_simp
    generalize (V0.alloc (.cells #[.int .i64 0, .int .i64 0, .int .i64 0, .int .i64 0, .int .i64 0, .int .i64 0, .int .i64 0, .int .i64 0, .slice none 0 0] 46)) = V1 at P1 ⊢
    refine hK.out _ _ ?_ (fun hHeld2 => ?_)
    · exact ⟨(blk2 P1.out.a).1, (blk2 P1.out.a).2.1⟩
    clear hK K hHeld P0
    have hHeld := hHeld2
    clear hHeld2
    try simp only [Act.put, List.setIfInBounds_toArray, List.set_cons_zero, List.set_cons_succ]
    refine wpAnyH_ready (rs := [2, 11]) (by kernel_rfl) (by simp) ?_
    refine AllReadyH.cons (o := ⟨some 11, _, _, _, _, _⟩) rfl (fun K hK => ?_) ?_
    · go_simp
      refine (pick_any 8 r _ _ P1.out.rd (by omega)).mono ?_
      rintro e w3 ⟨z1, rfl, z10, z11', hr', hk'⟩
      have z11 := z11' (by omega)
      have P2 := Lib.hid (P1.out.keep hrl hr' hk')
      clear z11' hr' hk'
      go_wp2_with fail
      refine hK.out _ _ ?_ (fun hHeld2 => ?_)
      · exact ⟨(blk2 P2.out.a).1, (blk2 P2.out.a).2.1⟩
      clear hK K hHeld P1
      have hHeld := hHeld2
      clear hHeld2
      try simp only [Act.put, List.setIfInBounds_toArray, List.set_cons_zero, List.set_cons_succ]
      refine wpAnyH_ready (rs := [4, 11]) (by kernel_rfl) (by simp) ?_
      refine AllReadyH.cons (o := ⟨some 13, _, _, _, _, _⟩) rfl (fun K hK => ?_) ?_
      · go_simp
        refine (pick_any 3 r _ _ P2.out.rd (by omega)).mono ?_
        rintro e w4 ⟨z2, rfl, z20, z21', hr', hk'⟩
        have z21 := z21' (by omega)
        have P3 := Lib.hid (P2.out.keep hrl hr' hk')
        clear z21' hr' hk'
        go_wp2_with fail
        refine hK.out _ _ ?_ (fun hHeld2 => ?_)
        · exact ⟨(blk2 P3.out.a).1, (blk2 P3.out.a).2.1⟩
        clear hK K hHeld P2
        have hHeld := hHeld2
        clear hHeld2
        try simp only [Act.put, List.setIfInBounds_toArray, List.set_cons_zero, List.set_cons_succ]
        refine wpAnyH_take (i := 5) (oi := ⟨some 14, _, _, _, _, _⟩) (v := ?_) rfl (by kernel_rfl) (by kernel_rfl) (by kernel_rfl) (fun _ _ _ h => h) (Or.inl ⟨by rfl, ?_⟩) (by assumption) ?_
        rotate_left 1
        · intro w hSw; (try dsimp only at hSw); go_simp; try (with_reducible rfl)
        try simp only [Act.put, List.setIfInBounds_toArray, List.set_cons_zero, List.set_cons_succ]
        refine wpAnyH_ready (rs := [7, 11]) (by kernel_rfl) (by simp) ?_
        refine AllReadyH.cons (o := ⟨some 16, _, _, _, _, _⟩) rfl (fun K hK => ?_) ?_
        · go_simp
          refine (cmd_any r _ _ P3.out.rd (by omega)).mono ?_
          rintro e w5 ⟨ck, ckey, cv, rfl, _, _, _, hr', hk'⟩
          have P4 := Lib.hid (P3.out.keep hrl hr' hk')
          clear hr' hk'
          go_wp2_with fail
          refine hK.out _ _ ?_ (fun hHeld2 => ?_)
          · exact ⟨(blk2 P4.out.a).1, (blk2 P4.out.a).2.1⟩
          clear hK K hHeld P3
          have hHeld := hHeld2
          clear hHeld2
          try simp only [Act.put, List.setIfInBounds_toArray, List.set_cons_zero, List.set_cons_succ]
          refine wpAnyH_ready (rs := [9, 11]) (by kernel_rfl) (by simp) ?_
          refine AllReadyH.cons (o := ⟨some 18, _, _, _, _, _⟩) rfl (fun K hK => ?_) ?_
          · go_simp
            refine (pick_any 6 r _ _ P4.out.rd (by omega)).mono ?_
            rintro e w6 ⟨z4, rfl, z40, z41', hr', hk'⟩
            have z41 := z41' (by omega)
            have P5 := Lib.hid (P4.out.keep hrl hr' hk')
            clear z41' hr' hk'
            go_wp2_with fail
            refine hK.out _ _ ?_ (fun hHeld2 => ?_)
            · exact ⟨(blk2 P5.out.a).1, (blk2 P5.out.a).2.1⟩
            clear hK K hHeld P4
            have hHeld := hHeld2
            clear hHeld2
            try simp only [Act.put, List.setIfInBounds_toArray, List.set_cons_zero, List.set_cons_succ]
            refine wpAnyH_take (i := 10) (oi := ⟨some 19, _, _, _, _, _⟩) (v := ?_) rfl (by kernel_rfl) (by kernel_rfl) (by kernel_rfl) (fun _ _ _ h => h) (Or.inl ⟨by rfl, ?_⟩) (by assumption) ?_
            rotate_left 1
            · intro w hSw; (try dsimp only at hSw); go_simp; try (with_reducible rfl)
            try simp only [Act.put, List.setIfInBounds_toArray, List.set_cons_zero, List.set_cons_succ]
            refine wpAnyH_ready (rs := [11]) (by kernel_rfl) (by simp) ?_
            refine AllReadyH.cons (o := ⟨some 20, _, _, _, _, _⟩) rfl (fun K hK => ?_) AllReadyH.nil
            have P6 := Lib.hid (P5.out.list hrl)
            go_simp
            generalize (w6.alloc (.cells #[] 24)) = V6 at P6 ⊢
            refine hK.out _ _ ?_ (fun hHeld2 => ?_)
            · exact ⟨(blk2 P6.out.a).1, (blk2 P6.out.a).2.1⟩
            clear hK K hHeld P5
            have hHeld := hHeld2
            clear hHeld2
            try simp only [Act.put, List.setIfInBounds_toArray, List.set_cons_zero, List.set_cons_succ]
            refine wpAnyH_take (i := 12) (oi := ⟨some 21, _, _, _, _, _⟩) (v := ?_) rfl (by kernel_rfl) (by kernel_rfl) (by kernel_rfl) (fun _ _ _ h => h) (Or.inl ⟨by rfl, ?_⟩) (by assumption) ?_
            rotate_left 1
            · intro w hSw; (try dsimp only at hSw); go_simp; try (with_reducible rfl)
            try simp only [Act.put, List.setIfInBounds_toArray, List.set_cons_zero, List.set_cons_succ]
            have hY := P6.out.made hrl z1 (IntKind.i64.wrap (1 + z2)) ck ckey cv (IntKind.i64.wrap (1 + z4))
            obtain ⟨x0, x1⟩ := P6.out.bx _ rfl
            obtain ⟨n0, n1, n2, n3, n4, n5, n6, n7, n8⟩ := nine_cells x1
            have m0 := nine_free x1 0
            have m1 := nine_free x1 1
            have m2 := nine_free x1 2
            have m3 := nine_free x1 3
            have m4 := nine_free x1 4
            have m5 := nine_free x1 5
            have m6 := nine_free x1 6
            have m7 := nine_free x1 7
            have m8 := nine_free x1 8
            have hxl := lt_of_heap x1
            refine wpAnyH_ready (rs := [14]) (by kernel_rfl) (by simp) ?_
            refine AllReadyH.cons (o := ⟨none, _, _, _, _, _⟩) rfl (fun K hK => ?_) AllReadyH.nil
            go_simp
            refine hK.out _ _ ?_ (fun hHeld2 => ?_)
            · exact ⟨(blk2 hY.a).1, (blk2 hY.a).2.1⟩
            clear hK K hHeld P6 n0 n1 n2 n3 n4 n5 n6 n7 n8 m0 m1 m2 m3 m4 m5 m6 m7 m8 x0 x1 hHeld2
            have hY := Lib.hid hY
            try simp only [Act.put, List.setIfInBounds_toArray, List.set_cons_zero, List.set_cons_succ]
            refine wpAnyH_done (by kernel_rfl) ?_ _
            try simp only [Act.put, List.setIfInBounds_toArray, List.set_cons_zero, List.set_cons_succ]
            go_wp2_with fail
            go_meet
            exact ⟨_, _, _, _, rfl, hY, rfl⟩
          refine AllReadyH.cons (o := ⟨some 20, _, _, _, _, _⟩) rfl (fun K hK => ?_) AllReadyH.nil
          have P5 := Lib.hid (P4.out.list hrl)
          go_simp
          generalize (w5.alloc (.cells #[] 24)) = V5 at P5 ⊢
          refine hK.out _ _ ?_ (fun hHeld2 => ?_)
          · exact ⟨(blk2 P5.out.a).1, (blk2 P5.out.a).2.1⟩
          clear hK K hHeld P4
          have hHeld := hHeld2
          clear hHeld2
          try simp only [Act.put, List.setIfInBounds_toArray, List.set_cons_zero, List.set_cons_succ]
          refine wpAnyH_ready (rs := [9]) (by kernel_rfl) (by simp) ?_
          refine AllReadyH.cons (o := ⟨some 18, _, _, _, _, _⟩) rfl (fun K hK => ?_) AllReadyH.nil
          go_simp
          refine (pick_any 6 r _ _ P5.out.rd (by omega)).mono ?_
          rintro e w7 ⟨z4, rfl, z40, z41', hr', hk'⟩
          have z41 := z41' (by omega)
          have P6 := Lib.hid (P5.out.keep hrl hr' hk')
          clear z41' hr' hk'
          go_wp2_with fail
          refine hK.out _ _ ?_ (fun hHeld2 => ?_)
          · exact ⟨(blk2 P6.out.a).1, (blk2 P6.out.a).2.1⟩
          clear hK K hHeld P5
          have hHeld := hHeld2
          clear hHeld2
          try simp only [Act.put, List.setIfInBounds_toArray, List.set_cons_zero, List.set_cons_succ]
          refine wpAnyH_take (i := 10) (oi := ⟨some 19, _, _, _, _, _⟩) (v := ?_) rfl (by kernel_rfl) (by kernel_rfl) (by kernel_rfl) (fun _ _ _ h => h) (Or.inl ⟨by rfl, ?_⟩) (by assumption) ?_
          rotate_left 1
          · intro w hSw; (try dsimp only at hSw); go_simp; try (with_reducible rfl)
          try simp only [Act.put, List.setIfInBounds_toArray, List.set_cons_zero, List.set_cons_succ]
          refine wpAnyH_take (i := 12) (oi := ⟨some 21, _, _, _, _, _⟩) (v := ?_) rfl (by kernel_rfl) (by kernel_rfl) (by kernel_rfl) (fun _ _ _ h => h) (Or.inl ⟨by rfl, ?_⟩) (by assumption) ?_
          rotate_left 1
          · intro w hSw; (try dsimp only at hSw); go_simp; try (with_reducible rfl)
          try simp only [Act.put, List.setIfInBounds_toArray, List.set_cons_zero, List.set_cons_succ]
          have hY := P6.out.made hrl z1 (IntKind.i64.wrap (1 + z2)) ck ckey cv (IntKind.i64.wrap (1 + z4))
          obtain ⟨x0, x1⟩ := P6.out.bx _ rfl
          obtain ⟨n0, n1, n2, n3, n4, n5, n6, n7, n8⟩ := nine_cells x1
          have m0 := nine_free x1 0
          have m1 := nine_free x1 1
          have m2 := nine_free x1 2
          have m3 := nine_free x1 3
          have m4 := nine_free x1 4
          have m5 := nine_free x1 5
          have m6 := nine_free x1 6
          have m7 := nine_free x1 7
          have m8 := nine_free x1 8
          have hxl := lt_of_heap x1
          refine wpAnyH_ready (rs := [14]) (by kernel_rfl) (by simp) ?_
          refine AllReadyH.cons (o := ⟨none, _, _, _, _, _⟩) rfl (fun K hK => ?_) AllReadyH.nil
          go_simp
          refine hK.out _ _ ?_ (fun hHeld2 => ?_)
          · exact ⟨(blk2 hY.a).1, (blk2 hY.a).2.1⟩
          clear hK K hHeld P6 n0 n1 n2 n3 n4 n5 n6 n7 n8 m0 m1 m2 m3 m4 m5 m6 m7 m8 x0 x1 hHeld2
          have hY := Lib.hid hY
          try simp only [Act.put, List.setIfInBounds_toArray, List.set_cons_zero, List.set_cons_succ]
          refine wpAnyH_done (by kernel_rfl) ?_ _
          try simp only [Act.put, List.setIfInBounds_toArray, List.set_cons_zero, List.set_cons_succ]
          go_wp2_with fail
          go_meet
          exact ⟨_, _, _, _, rfl, hY, rfl⟩
        refine AllReadyH.cons (o := ⟨some 20, _, _, _, _, _⟩) rfl (fun K hK => ?_) AllReadyH.nil
        have P4 := Lib.hid (P3.out.list hrl)
        go_simp
        generalize (w4.alloc (.cells #[] 24)) = V4 at P4 ⊢
        refine hK.out _ _ ?_ (fun hHeld2 => ?_)
        · exact ⟨(blk2 P4.out.a).1, (blk2 P4.out.a).2.1⟩
        clear hK K hHeld P3
        have hHeld := hHeld2
        clear hHeld2
        try simp only [Act.put, List.setIfInBounds_toArray, List.set_cons_zero, List.set_cons_succ]
        refine wpAnyH_ready (rs := [7]) (by kernel_rfl) (by simp) ?_
        refine AllReadyH.cons (o := ⟨some 16, _, _, _, _, _⟩) rfl (fun K hK => ?_) AllReadyH.nil
        go_simp
        refine (cmd_any r _ _ P4.out.rd (by omega)).mono ?_
        rintro e w6 ⟨ck, ckey, cv, rfl, _, _, _, hr', hk'⟩
        have P5 := Lib.hid (P4.out.keep hrl hr' hk')
        clear hr' hk'
        go_wp2_with fail
        refine hK.out _ _ ?_ (fun hHeld2 => ?_)
        · exact ⟨(blk2 P5.out.a).1, (blk2 P5.out.a).2.1⟩
        clear hK K hHeld P4
        have hHeld := hHeld2
        clear hHeld2
        try simp only [Act.put, List.setIfInBounds_toArray, List.set_cons_zero, List.set_cons_succ]
        refine wpAnyH_ready (rs := [9]) (by kernel_rfl) (by simp) ?_
        refine AllReadyH.cons (o := ⟨some 18, _, _, _, _, _⟩) rfl (fun K hK => ?_) AllReadyH.nil
        go_simp
        refine (pick_any 6 r _ _ P5.out.rd (by omega)).mono ?_
        rintro e w7 ⟨z4, rfl, z40, z41', hr', hk'⟩
        have z41 := z41' (by omega)
        have P6 := Lib.hid (P5.out.keep hrl hr' hk')
        clear z41' hr' hk'
        go_wp2_with fail
        refine hK.out _ _ ?_ (fun hHeld2 => ?_)
        · exact ⟨(blk2 P6.out.a).1, (blk2 P6.out.a).2.1⟩
        clear hK K hHeld P5
        have hHeld := hHeld2
        clear hHeld2
        try simp only [Act.put, List.setIfInBounds_toArray, List.set_cons_zero, List.set_cons_succ]
        refine wpAnyH_take (i := 10) (oi := ⟨some 19, _, _, _, _, _⟩) (v := ?_) rfl (by kernel_rfl) (by kernel_rfl) (by kernel_rfl) (fun _ _ _ h => h) (Or.inl ⟨by rfl, ?_⟩) (by assumption) ?_
        rotate_left 1
        · intro w hSw; (try dsimp only at hSw); go_simp; try (with_reducible rfl)
        try simp only [Act.put, List.setIfInBounds_toArray, List.set_cons_zero, List.set_cons_succ]
        refine wpAnyH_take (i := 12) (oi := ⟨some 21, _, _, _, _, _⟩) (v := ?_) rfl (by kernel_rfl) (by kernel_rfl) (by kernel_rfl) (fun _ _ _ h => h) (Or.inl ⟨by rfl, ?_⟩) (by assumption) ?_
        rotate_left 1
        · intro w hSw; (try dsimp only at hSw); go_simp; try (with_reducible rfl)
        try simp only [Act.put, List.setIfInBounds_toArray, List.set_cons_zero, List.set_cons_succ]
        have hY := P6.out.made hrl z1 (IntKind.i64.wrap (1 + z2)) ck ckey cv (IntKind.i64.wrap (1 + z4))
        obtain ⟨x0, x1⟩ := P6.out.bx _ rfl
        obtain ⟨n0, n1, n2, n3, n4, n5, n6, n7, n8⟩ := nine_cells x1
        have m0 := nine_free x1 0
        have m1 := nine_free x1 1
        have m2 := nine_free x1 2
        have m3 := nine_free x1 3
        have m4 := nine_free x1 4
        have m5 := nine_free x1 5
        have m6 := nine_free x1 6
        have m7 := nine_free x1 7
        have m8 := nine_free x1 8
        have hxl := lt_of_heap x1
        refine wpAnyH_ready (rs := [14]) (by kernel_rfl) (by simp) ?_
        refine AllReadyH.cons (o := ⟨none, _, _, _, _, _⟩) rfl (fun K hK => ?_) AllReadyH.nil
        go_simp
        refine hK.out _ _ ?_ (fun hHeld2 => ?_)
        · exact ⟨(blk2 hY.a).1, (blk2 hY.a).2.1⟩
        clear hK K hHeld P6 n0 n1 n2 n3 n4 n5 n6 n7 n8 m0 m1 m2 m3 m4 m5 m6 m7 m8 x0 x1 hHeld2
        have hY := Lib.hid hY
        try simp only [Act.put, List.setIfInBounds_toArray, List.set_cons_zero, List.set_cons_succ]
        refine wpAnyH_done (by kernel_rfl) ?_ _
        try simp only [Act.put, List.setIfInBounds_toArray, List.set_cons_zero, List.set_cons_succ]
        go_wp2_with fail
        go_meet
        exact ⟨_, _, _, _, rfl, hY, rfl⟩
      refine AllReadyH.cons (o := ⟨some 20, _, _, _, _, _⟩) rfl (fun K hK => ?_) AllReadyH.nil
      have P3 := Lib.hid (P2.out.list hrl)
      go_simp
      generalize (w3.alloc (.cells #[] 24)) = V3 at P3 ⊢
      refine hK.out _ _ ?_ (fun hHeld2 => ?_)
      · exact ⟨(blk2 P3.out.a).1, (blk2 P3.out.a).2.1⟩
      clear hK K hHeld P2
      have hHeld := hHeld2
      clear hHeld2
      try simp only [Act.put, List.setIfInBounds_toArray, List.set_cons_zero, List.set_cons_succ]
      refine wpAnyH_ready (rs := [4]) (by kernel_rfl) (by simp) ?_
      refine AllReadyH.cons (o := ⟨some 13, _, _, _, _, _⟩) rfl (fun K hK => ?_) AllReadyH.nil
      go_simp
      refine (pick_any 3 r _ _ P3.out.rd (by omega)).mono ?_
      rintro e w5 ⟨z2, rfl, z20, z21', hr', hk'⟩
      have z21 := z21' (by omega)
      have P4 := Lib.hid (P3.out.keep hrl hr' hk')
      clear z21' hr' hk'
      go_wp2_with fail
      refine hK.out _ _ ?_ (fun hHeld2 => ?_)
      · exact ⟨(blk2 P4.out.a).1, (blk2 P4.out.a).2.1⟩
      clear hK K hHeld P3
      have hHeld := hHeld2
      clear hHeld2
      try simp only [Act.put, List.setIfInBounds_toArray, List.set_cons_zero, List.set_cons_succ]
      refine wpAnyH_take (i := 5) (oi := ⟨some 14, _, _, _, _, _⟩) (v := ?_) rfl (by kernel_rfl) (by kernel_rfl) (by kernel_rfl) (fun _ _ _ h => h) (Or.inl ⟨by rfl, ?_⟩) (by assumption) ?_
      rotate_left 1
      · intro w hSw; (try dsimp only at hSw); go_simp; try (with_reducible rfl)
      try simp only [Act.put, List.setIfInBounds_toArray, List.set_cons_zero, List.set_cons_succ]
      refine wpAnyH_ready (rs := [7]) (by kernel_rfl) (by simp) ?_
      refine AllReadyH.cons (o := ⟨some 16, _, _, _, _, _⟩) rfl (fun K hK => ?_) AllReadyH.nil
      go_simp
      refine (cmd_any r _ _ P4.out.rd (by omega)).mono ?_
      rintro e w6 ⟨ck, ckey, cv, rfl, _, _, _, hr', hk'⟩
      have P5 := Lib.hid (P4.out.keep hrl hr' hk')
      clear hr' hk'
      go_wp2_with fail
      refine hK.out _ _ ?_ (fun hHeld2 => ?_)
      · exact ⟨(blk2 P5.out.a).1, (blk2 P5.out.a).2.1⟩
      clear hK K hHeld P4
      have hHeld := hHeld2
      clear hHeld2
      try simp only [Act.put, List.setIfInBounds_toArray, List.set_cons_zero, List.set_cons_succ]
      refine wpAnyH_ready (rs := [9]) (by kernel_rfl) (by simp) ?_
      refine AllReadyH.cons (o := ⟨some 18, _, _, _, _, _⟩) rfl (fun K hK => ?_) AllReadyH.nil
      go_simp
      refine (pick_any 6 r _ _ P5.out.rd (by omega)).mono ?_
      rintro e w7 ⟨z4, rfl, z40, z41', hr', hk'⟩
      have z41 := z41' (by omega)
      have P6 := Lib.hid (P5.out.keep hrl hr' hk')
      clear z41' hr' hk'
      go_wp2_with fail
      refine hK.out _ _ ?_ (fun hHeld2 => ?_)
      · exact ⟨(blk2 P6.out.a).1, (blk2 P6.out.a).2.1⟩
      clear hK K hHeld P5
      have hHeld := hHeld2
      clear hHeld2
      try simp only [Act.put, List.setIfInBounds_toArray, List.set_cons_zero, List.set_cons_succ]
      refine wpAnyH_take (i := 10) (oi := ⟨some 19, _, _, _, _, _⟩) (v := ?_) rfl (by kernel_rfl) (by kernel_rfl) (by kernel_rfl) (fun _ _ _ h => h) (Or.inl ⟨by rfl, ?_⟩) (by assumption) ?_
      rotate_left 1
      · intro w hSw; (try dsimp only at hSw); go_simp; try (with_reducible rfl)
      try simp only [Act.put, List.setIfInBounds_toArray, List.set_cons_zero, List.set_cons_succ]
      refine wpAnyH_take (i := 12) (oi := ⟨some 21, _, _, _, _, _⟩) (v := ?_) rfl (by kernel_rfl) (by kernel_rfl) (by kernel_rfl) (fun _ _ _ h => h) (Or.inl ⟨by rfl, ?_⟩) (by assumption) ?_
      rotate_left 1
      · intro w hSw; (try dsimp only at hSw); go_simp; try (with_reducible rfl)
      try simp only [Act.put, List.setIfInBounds_toArray, List.set_cons_zero, List.set_cons_succ]
      have hY := P6.out.made hrl z1 (IntKind.i64.wrap (1 + z2)) ck ckey cv (IntKind.i64.wrap (1 + z4))
      obtain ⟨x0, x1⟩ := P6.out.bx _ rfl
      obtain ⟨n0, n1, n2, n3, n4, n5, n6, n7, n8⟩ := nine_cells x1
      have m0 := nine_free x1 0
      have m1 := nine_free x1 1
      have m2 := nine_free x1 2
      have m3 := nine_free x1 3
      have m4 := nine_free x1 4
      have m5 := nine_free x1 5
      have m6 := nine_free x1 6
      have m7 := nine_free x1 7
      have m8 := nine_free x1 8
      have hxl := lt_of_heap x1
      refine wpAnyH_ready (rs := [14]) (by kernel_rfl) (by simp) ?_
      refine AllReadyH.cons (o := ⟨none, _, _, _, _, _⟩) rfl (fun K hK => ?_) AllReadyH.nil
      go_simp
      refine hK.out _ _ ?_ (fun hHeld2 => ?_)
      · exact ⟨(blk2 hY.a).1, (blk2 hY.a).2.1⟩
      clear hK K hHeld P6 n0 n1 n2 n3 n4 n5 n6 n7 n8 m0 m1 m2 m3 m4 m5 m6 m7 m8 x0 x1 hHeld2
      have hY := Lib.hid hY
      try simp only [Act.put, List.setIfInBounds_toArray, List.set_cons_zero, List.set_cons_succ]
      refine wpAnyH_done (by kernel_rfl) ?_ _
      try simp only [Act.put, List.setIfInBounds_toArray, List.set_cons_zero, List.set_cons_succ]
      go_wp2_with fail
      go_meet
      exact ⟨_, _, _, _, rfl, hY, rfl⟩
    refine AllReadyH.cons (o := ⟨some 20, _, _, _, _, _⟩) rfl (fun K hK => ?_) AllReadyH.nil
    have P2 := Lib.hid (P1.out.list hrl)
    go_simp
    generalize (V1.alloc (.cells #[] 24)) = V2 at P2 ⊢
    refine hK.out _ _ ?_ (fun hHeld2 => ?_)
    · exact ⟨(blk2 P2.out.a).1, (blk2 P2.out.a).2.1⟩
    clear hK K hHeld P1
    have hHeld := hHeld2
    clear hHeld2
    try simp only [Act.put, List.setIfInBounds_toArray, List.set_cons_zero, List.set_cons_succ]
    refine wpAnyH_ready (rs := [2]) (by kernel_rfl) (by simp) ?_
    refine AllReadyH.cons (o := ⟨some 11, _, _, _, _, _⟩) rfl (fun K hK => ?_) AllReadyH.nil
    go_simp
    refine (pick_any 8 r _ _ P2.out.rd (by omega)).mono ?_
    rintro e w4 ⟨z1, rfl, z10, z11', hr', hk'⟩
    have z11 := z11' (by omega)
    have P3 := Lib.hid (P2.out.keep hrl hr' hk')
    clear z11' hr' hk'
    go_wp2_with fail
    refine hK.out _ _ ?_ (fun hHeld2 => ?_)
    · exact ⟨(blk2 P3.out.a).1, (blk2 P3.out.a).2.1⟩
    clear hK K hHeld P2
    have hHeld := hHeld2
    clear hHeld2
    try simp only [Act.put, List.setIfInBounds_toArray, List.set_cons_zero, List.set_cons_succ]
    refine wpAnyH_ready (rs := [4]) (by kernel_rfl) (by simp) ?_
    refine AllReadyH.cons (o := ⟨some 13, _, _, _, _, _⟩) rfl (fun K hK => ?_) AllReadyH.nil
    go_simp
    refine (pick_any 3 r _ _ P3.out.rd (by omega)).mono ?_
    rintro e w5 ⟨z2, rfl, z20, z21', hr', hk'⟩
    have z21 := z21' (by omega)
    have P4 := Lib.hid (P3.out.keep hrl hr' hk')
    clear z21' hr' hk'
    go_wp2_with fail
    refine hK.out _ _ ?_ (fun hHeld2 => ?_)
    · exact ⟨(blk2 P4.out.a).1, (blk2 P4.out.a).2.1⟩
    clear hK K hHeld P3
    have hHeld := hHeld2
    clear hHeld2
    try simp only [Act.put, List.setIfInBounds_toArray, List.set_cons_zero, List.set_cons_succ]
    refine wpAnyH_take (i := 5) (oi := ⟨some 14, _, _, _, _, _⟩) (v := ?_) rfl (by kernel_rfl) (by kernel_rfl) (by kernel_rfl) (fun _ _ _ h => h) (Or.inl ⟨by rfl, ?_⟩) (by assumption) ?_
    rotate_left 1
    · intro w hSw; (try dsimp only at hSw); go_simp; try (with_reducible rfl)
    try simp only [Act.put, List.setIfInBounds_toArray, List.set_cons_zero, List.set_cons_succ]
    refine wpAnyH_ready (rs := [7]) (by kernel_rfl) (by simp) ?_
    refine AllReadyH.cons (o := ⟨some 16, _, _, _, _, _⟩) rfl (fun K hK => ?_) AllReadyH.nil
    go_simp
    refine (cmd_any r _ _ P4.out.rd (by omega)).mono ?_
    rintro e w6 ⟨ck, ckey, cv, rfl, _, _, _, hr', hk'⟩
    have P5 := Lib.hid (P4.out.keep hrl hr' hk')
    clear hr' hk'
    go_wp2_with fail
    refine hK.out _ _ ?_ (fun hHeld2 => ?_)
    · exact ⟨(blk2 P5.out.a).1, (blk2 P5.out.a).2.1⟩
    clear hK K hHeld P4
    have hHeld := hHeld2
    clear hHeld2
    try simp only [Act.put, List.setIfInBounds_toArray, List.set_cons_zero, List.set_cons_succ]
    refine wpAnyH_ready (rs := [9]) (by kernel_rfl) (by simp) ?_
    refine AllReadyH.cons (o := ⟨some 18, _, _, _, _, _⟩) rfl (fun K hK => ?_) AllReadyH.nil
    go_simp
    refine (pick_any 6 r _ _ P5.out.rd (by omega)).mono ?_
    rintro e w7 ⟨z4, rfl, z40, z41', hr', hk'⟩
    have z41 := z41' (by omega)
    have P6 := Lib.hid (P5.out.keep hrl hr' hk')
    clear z41' hr' hk'
    go_wp2_with fail
    refine hK.out _ _ ?_ (fun hHeld2 => ?_)
    · exact ⟨(blk2 P6.out.a).1, (blk2 P6.out.a).2.1⟩
    clear hK K hHeld P5
    have hHeld := hHeld2
    clear hHeld2
    try simp only [Act.put, List.setIfInBounds_toArray, List.set_cons_zero, List.set_cons_succ]
    refine wpAnyH_take (i := 10) (oi := ⟨some 19, _, _, _, _, _⟩) (v := ?_) rfl (by kernel_rfl) (by kernel_rfl) (by kernel_rfl) (fun _ _ _ h => h) (Or.inl ⟨by rfl, ?_⟩) (by assumption) ?_
    rotate_left 1
    · intro w hSw; (try dsimp only at hSw); go_simp; try (with_reducible rfl)
    try simp only [Act.put, List.setIfInBounds_toArray, List.set_cons_zero, List.set_cons_succ]
    refine wpAnyH_take (i := 12) (oi := ⟨some 21, _, _, _, _, _⟩) (v := ?_) rfl (by kernel_rfl) (by kernel_rfl) (by kernel_rfl) (fun _ _ _ h => h) (Or.inl ⟨by rfl, ?_⟩) (by assumption) ?_
    rotate_left 1
    · intro w hSw; (try dsimp only at hSw); go_simp; try (with_reducible rfl)
    try simp only [Act.put, List.setIfInBounds_toArray, List.set_cons_zero, List.set_cons_succ]
    have hY := P6.out.made hrl z1 (IntKind.i64.wrap (1 + z2)) ck ckey cv (IntKind.i64.wrap (1 + z4))
    obtain ⟨x0, x1⟩ := P6.out.bx _ rfl
    obtain ⟨n0, n1, n2, n3, n4, n5, n6, n7, n8⟩ := nine_cells x1
    have m0 := nine_free x1 0
    have m1 := nine_free x1 1
    have m2 := nine_free x1 2
    have m3 := nine_free x1 3
    have m4 := nine_free x1 4
    have m5 := nine_free x1 5
    have m6 := nine_free x1 6
    have m7 := nine_free x1 7
    have m8 := nine_free x1 8
    have hxl := lt_of_heap x1
    refine wpAnyH_ready (rs := [14]) (by kernel_rfl) (by simp) ?_
    refine AllReadyH.cons (o := ⟨none, _, _, _, _, _⟩) rfl (fun K hK => ?_) AllReadyH.nil
    go_simp
    refine hK.out _ _ ?_ (fun hHeld2 => ?_)
    · exact ⟨(blk2 hY.a).1, (blk2 hY.a).2.1⟩
    clear hK K hHeld P6 n0 n1 n2 n3 n4 n5 n6 n7 n8 m0 m1 m2 m3 m4 m5 m6 m7 m8 x0 x1 hHeld2
    have hY := Lib.hid hY
    try simp only [Act.put, List.setIfInBounds_toArray, List.set_cons_zero, List.set_cons_succ]
    refine wpAnyH_done (by kernel_rfl) ?_ _
    try simp only [Act.put, List.setIfInBounds_toArray, List.set_cons_zero, List.set_cons_succ]
    go_wp2_with fail
    go_meet
    exact ⟨_, _, _, _, rfl, hY, rfl⟩
  case rest =>
    obtain ⟨xb, b, e, du, rfl, hE, hd0⟩ := hcut
    go_wp2_with fail
    refine (pick_any 3 r _ _ hE.out.rd (by omega)).mono ?_
    rintro e' w2 ⟨nn, rfl, nn0, nn1', hr', hk'⟩
    have nn1 := nn1' (by omega)
    replace hE := Lib.hid (hE.out.keep hrl hr' hk')
    clear nn1' hr' hk'
    obtain ⟨m, rfl⟩ := Int.eq_ofNat_of_zero_le nn0
    go_wp2_with fail
    go_loopw [7] (fun iv wr => ∃ (i b : Nat) (e : En) (du : Value), i ≤ m ∧ iv = .int .i64 i ∧ Hid (EE w wr r (n + 10 + 2 * i) xb b x y e du) ∧ e.deps.length ≤ i) (fun iv _ => m - (intOf iv).toNat)
    case atStart => exact ⟨0, b, e, du, Nat.zero_le _, rfl, Lib.hid (hE.out.more (by omega)), by rw [hd0]; simp⟩
    case round =>
      clear hE hd0
      obtain ⟨i, b, e, du, hi, rfl, hE, hdl⟩ := hrel
      by_cases hlt : i < m
      · go_wp2_with fail
        refine (pick_any 3 r _ _ hE.out.rd (by omega)).mono ?_
        rintro e' w3 ⟨p, rfl, p0, p1', hr', hk'⟩
        have p1 := p1' (by omega)
        replace hE := Lib.hid (hE.out.keep hrl hr' hk')
        clear p1' hr' hk'
        go_wp2_with fail
        refine (pick_any 4 r _ _ hE.out.rd (by omega)).mono ?_
        rintro e' w4 ⟨q, rfl, q0, q1', hr', hk'⟩
        have q1 := q1' (by omega)
        replace hE := Lib.hid (hE.out.keep hrl hr' hk')
        clear q1' hr' hk'
        have B0 := (Below.refl w4.heap.size w4).alloc (Nat.le_refl _) (.cells #[.int .i64 p, .int .i64 (1 + q)] 24)
        have hA8 := Lib.hid (heap_alloc_new w4 (.cells #[.int .i64 p, .int .i64 (1 + q)] 24))
        have hs4 := hE.out.kp.size
        replace hE := Lib.hid (hE.out.low hrl B0)
        obtain ⟨c0, c1, _, _⟩ := blk2 hA8.out
        obtain ⟨a0, a1, _, _⟩ := blk2 hE.out.a
        have hal := lt_of_heap hE.out.a
        obtain ⟨z, hz⟩ : ∃ z, decide ((p, 1 + q) = (x, y)) = z := ⟨_, rfl⟩
        have e1 := fun W => ne_id p (1 + q) x y W
        rw [hz] at e1
        clear hz B0
        cases z
        · obtain ⟨uc, rfl, huc⟩ := hE.out.li.shape
          obtain ⟨dl, hdl2⟩ : ∃ n, Hid (e.deps.length = n) := ⟨_, Lib.hid rfl⟩
          have sp := sput_at b 0 uc e.deps p (1 + q) _ hE.out.li.lt (by omega) (fun i hi => by simpa using hE.out.li.cell i hi)
          obtain ⟨x0, x1, x2, x3, x4, x5, x6, x7, x8⟩ := nine_cells hE.out.bx
          have hxl := lt_of_heap hE.out.bx
          rw [hdl2.out] at sp x8 huc hdl
          have hpl := (len_putP e.deps (p, 1 + q)).2
          rw [hdl2.out] at hpl
          unfold PutPost at sp
          generalize putP e.deps (p, 1 + q) = D at sp hpl
          go_wp2_with fail
          refine sp.mono ?_
          rintro e' w6 ⟨b6, u6, hb6, rfl, hO6, B⟩
          obtain ⟨uc6, rfl, _⟩ := hO6.shape
          have hE6 := hE.out.low hrl B
          have hs6 := hE.out.kp.size
          have hzl := lt_of_heap hE.out.z
          have hE7 := Lib.hid ((hE6.redo hrl (b' := b6) (by omega) (by omega) hO6).more (m' := n + 10 + 2 * (i + 1)) (by omega))
          clear sp x0 x1 x2 x3 x4 x5 x6 x7 x8 hxl
          obtain ⟨x0, x1, x2, x3, x4, x5, x6, x7, x8⟩ := nine_cells hE6.bx
          have xf := nine_free hE6.bx 8
          have hxl := lt_of_heap hE6.bx
          clear hE6 hE B hA8
          go_wp2_with fail
          refine ⟨⟨i + 1, b6, _, _, by omega, by go_num, hE7, by show D.length ≤ i + 1; omega⟩, ?_⟩
          simp [intOf]; omega
        · go_wp2_with fail
          refine ⟨⟨i + 1, b, e, du, by omega, by go_num, Lib.hid (hE.out.more (by omega)), by omega⟩, ?_⟩
          simp [intOf]; omega
      · obtain rfl : i = m := by omega
        have hd2 : e.deps.length ≤ 3 := by omega
        replace hE := Lib.hid (hE.out.more (m' := n + 14) (by omega))
        clear hdl
        go_wp2_with fail
        refine (pick_any 40 r _ _ hE.out.rd (by omega)).mono ?_
        rintro e' w8 ⟨t, rfl, t0, t1', hr', hk'⟩
        have t1 := t1' (by omega)
        replace hE := Lib.hid (hE.out.keep hrl hr' hk')
        clear t1' hr' hk'
        go_upto_block 2 with (fail)
        go_cut [] (fun wx => ∃ (b : Nat) (e : En) (du : Value), Hid (EE w wx r (n + 20) xb b x y e du) ∧ e.deps.length ≤ 3)
        case first =>
          by_cases z0 : t = 0
          · subst z0
            have hE0 := hE.out
            go_wp2_with fail
            refine (pick_any 2 r _ _ (hE0.rd.alloc _) (by omega)).mono ?_
            rintro e' w9 ⟨j, rfl, j0, j1', hr', hk'⟩
            have j1 := j1' (by omega)
            have hs9 := hk'.size
            have hs8 : w8.heap.size + 1 ≤ w9.heap.size := by simpa using hs9
            have hrx : r < w8.heap.size := Nat.lt_of_lt_of_le hrl hE0.kp.size
            have L9 := (hk'.block w8.heap.size (by simp) (by omega)).trans (heap_alloc_new w8 _)
            have hE9 := (hE0.low hrl ((Below.refl w8.heap.size w8).alloc (Nat.le_refl _) _)).keep hrl hr' hk'
            obtain ⟨l0, l1, _, _⟩ := blk2 L9
            obtain ⟨x0, x1, x2, x3, x4, x5, x6, x7, x8⟩ := nine_cells hE9.bx
            have xf := nine_free hE9.bx 3
            have hxl := lt_of_heap hE9.bx
            have hll := lt_of_heap L9
            have hE9 := Lib.hid hE9
            clear j1' hr' hk' hE0 hE
            rcases (show j = 0 ∨ j = 1 by omega) with rfl | rfl
            · have hE10 := Lib.hid ((hE9.out.setSt hrl (0)).more (m' := n + 20) (by omega))
              go_wp2_with fail
              go_meet
              exact ⟨_, _, _, hE10, by first | exact hd2 | (show _ ≤ _; exact hd2)⟩
            · have hE10 := Lib.hid ((hE9.out.setSt hrl (4)).more (m' := n + 20) (by omega))
              go_wp2_with fail
              go_meet
              exact ⟨_, _, _, hE10, by first | exact hd2 | (show _ ≤ _; exact hd2)⟩
          · have z0' : (t == 0) = false := by simpa using z0
            clear z0
            by_cases z1 : t = 1
            · subst z1
              have hE0 := hE.out
              go_wp2_with fail
              refine (pick_any 3 r _ _ (hE0.rd.alloc _) (by omega)).mono ?_
              rintro e' w9 ⟨j, rfl, j0, j1', hr', hk'⟩
              have j1 := j1' (by omega)
              have hs9 := hk'.size
              have hs8 : w8.heap.size + 1 ≤ w9.heap.size := by simpa using hs9
              have hrx : r < w8.heap.size := Nat.lt_of_lt_of_le hrl hE0.kp.size
              have L9 := (hk'.block w8.heap.size (by simp) (by omega)).trans (heap_alloc_new w8 _)
              have hE9 := (hE0.low hrl ((Below.refl w8.heap.size w8).alloc (Nat.le_refl _) _)).keep hrl hr' hk'
              obtain ⟨l0, l1, l2, _, _, _⟩ := blk3 L9
              obtain ⟨x0, x1, x2, x3, x4, x5, x6, x7, x8⟩ := nine_cells hE9.bx
              have xf := nine_free hE9.bx 2
              have hxl := lt_of_heap hE9.bx
              have hll := lt_of_heap L9
              have hE9 := Lib.hid hE9
              clear j1' hr' hk' hE0 hE
              rcases (show j = 0 ∨ j = 1 ∨ j = 2 by omega) with rfl | rfl | rfl
              · have hE10 := Lib.hid ((hE9.out.setBal hrl (-1)).more (m' := n + 20) (by omega))
                go_wp2_with fail
                go_meet
                exact ⟨_, _, _, hE10, by first | exact hd2 | (show _ ≤ _; exact hd2)⟩
              · have hE10 := Lib.hid ((hE9.out.setBal hrl (999)).more (m' := n + 20) (by omega))
                go_wp2_with fail
                go_meet
                exact ⟨_, _, _, hE10, by first | exact hd2 | (show _ ≤ _; exact hd2)⟩
              · have hE10 := Lib.hid ((hE9.out.setBal hrl (1000)).more (m' := n + 20) (by omega))
                go_wp2_with fail
                go_meet
                exact ⟨_, _, _, hE10, by first | exact hd2 | (show _ ≤ _; exact hd2)⟩
            · have z1' : (t == 1) = false := by simpa using z1
              clear z1
              by_cases z2 : t = 2
              · subst z2
                obtain ⟨a0, a1, _, _⟩ := blk2 hE.out.a
                have hal := lt_of_heap hE.out.a
                have B0 := (Below.refl w8.heap.size w8).alloc (Nat.le_refl _) (.cells #[.int .i64 x, .int .i64 y] 24)
                have hs8 := hE.out.kp.size
                have hzl := lt_of_heap hE.out.z
                have hE9 := hE.out.low hrl B0
                have hO9 : OwnP (w8.alloc (.cells #[.int .i64 x, .int .i64 y] 24)) w8.heap.size (.slice (some ⟨w8.heap.size, 0, none⟩) 1 1) [(x, y)] := ⟨1, _, _, rfl, heap_alloc_new w8 _, Nat.le_refl _, by simp, fun i hi => by have hi0 : i = 0 := (by simpa using hi); subst hi0; exact ⟨rfl, rfl⟩⟩
                have hE10 := Lib.hid ((hE9.redo hrl (by omega) (by have := lt_of_heap hE.out.bx; omega) hO9).more (m' := n + 20) (by omega))
                obtain ⟨x0, x1, x2, x3, x4, x5, x6, x7, x8⟩ := nine_cells hE9.bx
                have xf := nine_free hE9.bx 8
                have hxl := lt_of_heap hE9.bx
                clear hE9 hE hO9 B0
                go_wp2_with fail
                go_meet
                exact ⟨_, _, _, hE10, by simp⟩
              · have z2' : (t == 2) = false := by simpa using z2
                clear z2
                have hE10 := Lib.hid (hE.out.more (m' := n + 20) (by omega))
                go_wp2_with fail
                go_meet
                exact ⟨_, _, _, hE10, hd2⟩
        case rest =>
          obtain ⟨b, e, du, hE, hd3⟩ := hcut
          obtain ⟨x0, x1, x2, x3, x4, x5, x6, x7, x8⟩ := nine_cells hE.out.bx
          obtain ⟨y0, y1, y2, y3, y4, y5, y6, y7, y8⟩ := nine_cells hE.out.z
          have hxl := lt_of_heap hE.out.bx
          have hzl := lt_of_heap hE.out.z
          have hx2 := hE.out.xl
          have hzf := fun i => nine_free hE.out.z i
          have g0 := hzf 0
          have g1 := hzf 1
          have g2 := hzf 2
          have g3 := hzf 3
          have g4 := hzf 4
          have g5 := hzf 5
          have g6 := hzf 6
          have g7 := hzf 7
          have g8 := hzf 8
          have hne : ¬ w.heap.size + 1 = xb := by omega
          obtain ⟨uc, rfl, huc⟩ := hE.out.li.shape
          go_wp2_with fail
          have hfin := heap_setCell_same _ (w.heap.size + 1) 8 _ _ (.slice (some ⟨b, 0, none⟩) e.deps.length uc) (heap_setCell_same _ (w.heap.size + 1) 7 _ _ (.int .i64 e.seq) (heap_setCell_same _ (w.heap.size + 1) 6 _ _ (.int .i64 e.v) (heap_setCell_same _ (w.heap.size + 1) 5 _ _ (.int .i64 e.key) (heap_setCell_same _ (w.heap.size + 1) 4 _ _ (.int .i64 e.k) (heap_setCell_same _ (w.heap.size + 1) 3 _ _ (.int .i64 e.st) (heap_setCell_same _ (w.heap.size + 1) 2 _ _ (.int .i64 e.bal) (heap_setCell_same _ (w.heap.size + 1) 1 _ _ (.int .i64 e.id.2) (heap_setCell_same _ (w.heap.size + 1) 0 _ _ (.int .i64 e.id.1) hE.out.z))))))))
          simp only [List.setIfInBounds_toArray, List.set_cons_zero, List.set_cons_succ] at hfin
          have hbl := hE.out.bl
          refine bodyPost_ret (en_resD _ _ _ _ _ _ _ _ _ _ _ _ _ rfl hfin) rfl ⟨b, e, .slice (some ⟨b, 0, none⟩) e.deps.length uc, by omega, rfl, hE.out.id, hE.out.li.same ?_, hd3, ?_, ?_⟩
          · have hnb : b ≠ w.heap.size + 1 := by omega
            rw [heap_setCell_other _ _ _ _ hnb, heap_setCell_other _ _ _ _ hnb, heap_setCell_other _ _ _ _ hnb, heap_setCell_other _ _ _ _ hnb, heap_setCell_other _ _ _ _ hnb, heap_setCell_other _ _ _ _ hnb, heap_setCell_other _ _ _ _ hnb, heap_setCell_other _ _ _ _ hnb, heap_setCell_other _ _ _ _ hnb]
          · have R := hE.out.rd
            repeat (first | with_reducible exact R | with_reducible refine Rd.setCell ?_ (by show r < w.heap.size + 1; omega) _)
          · have R := hE.out.kp
            repeat (first | with_reducible exact R | with_reducible refine Keep.setCell ?_ (by show w.heap.size ≤ w.heap.size + 1; omega) _)
end Go.Proofs.Ytblkpkjgmjnimaa
