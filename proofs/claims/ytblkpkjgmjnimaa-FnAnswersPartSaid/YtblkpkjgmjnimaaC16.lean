/- Texts laid together. -/
import Derived.Test.YtblkpkjgmjnimaaC08
import Derived.Test.YtblkpkjgmjnimaaC02
import Derived.Test.YtblkpkjgmjnimaaC14
import Derived.Test.YtblkpkjgmjnimaaC15
import Derived.Deep.DeepCutAuto
import Derived.Deep.RegionWith
import Derived.Maps.AppendAt
/- The draw of a number of replicas, an id and answers. -/
namespace Go.Proofs.Ytblkpkjgmjnimaa
open Go.RowKit
set_option linter.unusedVariables false

theorem Keep.drewK {B r : Nat} {a w : World} (h : Keep B r a w) : Keep B r a w.drew := ⟨h.os, h.tape, h.output, h.size, h.block⟩
theorem put2_atK {w : World} {b : Nat} {t : TypeId} {y0 y1 : Value} (x0 x1 : Value) (h : w.heap[b]? = some (.cells #[y0, y1] t (0, 0))) :
    ((w.setCell ⟨b, 0, none⟩ x0).setCell ⟨b, 1, none⟩ x1).heap[b]? = some (.cells #[x0, x1] t (0, 0)) := by
  have e := heap_setCell_same _ b 1 _ _ x1 (heap_setCell_same _ b 0 _ _ x0 h)
  simp only [List.setIfInBounds_toArray, List.set_cons_zero, List.set_cons_succ] at e
  exact e
theorem elev_free {w : World} {b : Nat} {x0 x1 x2 x3 x4 x5 x6 x7 x8 x9 x10 : Value} {t : TypeId} (h : w.heap[b]? = some (.cells #[x0, x1, x2, x3, x4, x5, x6, x7, x8, x9, x10] t (0, 0))) :
    (w.cell? ⟨b, 0, none⟩ = some x0 ∧ w.cell? ⟨b, 1, none⟩ = some x1 ∧ w.cell? ⟨b, 2, none⟩ = some x2 ∧ w.cell? ⟨b, 3, none⟩ = some x3 ∧ w.cell? ⟨b, 4, none⟩ = some x4 ∧ w.cell? ⟨b, 5, none⟩ = some x5 ∧ w.cell? ⟨b, 6, none⟩ = some x6 ∧ w.cell? ⟨b, 7, none⟩ = some x7 ∧ w.cell? ⟨b, 8, none⟩ = some x8 ∧ w.cell? ⟨b, 9, none⟩ = some x9 ∧ w.cell? ⟨b, 10, none⟩ = some x10) ∧
    (w.frozen? ⟨b, 0, none⟩ = false ∧ w.frozen? ⟨b, 1, none⟩ = false ∧ w.frozen? ⟨b, 2, none⟩ = false ∧ w.frozen? ⟨b, 3, none⟩ = false ∧ w.frozen? ⟨b, 4, none⟩ = false ∧ w.frozen? ⟨b, 5, none⟩ = false ∧ w.frozen? ⟨b, 6, none⟩ = false ∧ w.frozen? ⟨b, 7, none⟩ = false ∧ w.frozen? ⟨b, 8, none⟩ = false ∧ w.frozen? ⟨b, 9, none⟩ = false ∧ w.frozen? ⟨b, 10, none⟩ = false) ∧ b < w.heap.size :=
  ⟨(elev_all h).1, ⟨nine_free h 0, nine_free h 1, nine_free h 2, nine_free h 3, nine_free h 4, nine_free h 5, nine_free h 6, nine_free h 7, nine_free h 8, nine_free h 9, nine_free h 10⟩, lt_of_heap h⟩
/-- Where a round of the draw is: the answer's box, its list, what has been drawn, the bytes. -/
structure KnS (B r : Nat) (w4 W : World) (m xb : Nat) (x : An) (u v : Value) (LL : AL) : Prop where
  bx : W.heap[xb]? = some (.cells #[.int .i64 x.fr, .bool x.kn, .int .i64 x.en.id.1, .int .i64 x.en.id.2, .int .i64 x.en.bal, .int .i64 x.en.st, .int .i64 x.en.k, .int .i64 x.en.key, .int .i64 x.en.v, .int .i64 x.en.seq, u] 48 (0, 0))
  dx : (u = .slice none 0 0 ∧ x.en.deps = []) ∨ ∃ b, xb < b ∧ OwnP W b u x.en.deps
  ar : ∀ W' : World, (∀ b, B ≤ b → b < xb → W'.heap[b]? = W.heap[b]?) → AR W' B v LL
  xv : ∀ b, v.ownBlock = some b → b < xb
  rd : Rd W r m
  kp : Keep B r w4 W
  xB : B ≤ xb
  rB : r < B
section
variable {B r m m' xb : Nat} {w4 W W' : World} {x : An} {u v : Value} {LL : AL}
theorem KnS.keep (h : KnS B r w4 W m xb x u v LL) (hr : Rd W' r m') (hk : Keep W.heap.size r W W') : KnS B r w4 W' m' xb x u v LL := by
  have hl := lt_of_heap h.bx
  have := h.xB
  have := h.rB
  refine ⟨(hk.block xb hl (by omega)).trans h.bx, ?_, fun W'' g => h.ar W'' (fun b h1 h2 => (g b h1 h2).trans (hk.block b (by omega) (by omega))), h.xv, hr, h.kp.trans (hk.mono (by omega)), h.xB, h.rB⟩
  rcases h.dx with g | ⟨b, h1, h2⟩
  · exact .inl g
  · exact .inr ⟨b, h1, h2.same (hk.block b h2.lt (by omega))⟩
theorem KnS.low (h : KnS B r w4 W m xb x u v LL) (hb : Below W.heap.size W W') : KnS B r w4 W' m xb x u v LL :=
  h.keep (h.rd.kept (by have := h.rd.lt; exact ⟨hb.os, hb.tape, hb.output, hb.size, fun k hk => hb.block k (by omega)⟩)) (Keep.of_below hb)
theorem KnS.put (h : KnS B r w4 W m xb x u v LL) (i : Nat) (z : Value) {x' : An} (e : (W.setCell ⟨xb, i, none⟩ z).heap[xb]? = some (.cells #[.int .i64 x'.fr, .bool x'.kn, .int .i64 x'.en.id.1, .int .i64 x'.en.id.2, .int .i64 x'.en.bal, .int .i64 x'.en.st, .int .i64 x'.en.k, .int .i64 x'.en.key, .int .i64 x'.en.v, .int .i64 x'.en.seq, u] 48 (0, 0))) (hd : x'.en.deps = x.en.deps) : KnS B r w4 (W.setCell ⟨xb, i, none⟩ z) m xb x' u v LL := by
  have := h.xB
  have := h.rB
  refine ⟨e, ?_, fun W'' g => h.ar W'' (fun b h1 h2 => (g b h1 h2).trans (heap_setCell_other _ _ _ _ (by show b ≠ xb; omega))), h.xv, h.rd.setCell (p := ⟨xb, i, none⟩) (by show r < xb; omega) _, h.kp.setCell (p := ⟨xb, i, none⟩) h.xB _, h.xB, h.rB⟩
  rw [hd]
  rcases h.dx with g | ⟨b, h1, h2⟩
  · exact .inl g
  · exact .inr ⟨b, h1, h2.same (heap_setCell_other _ _ _ _ (by show b ≠ xb; omega))⟩
theorem KnS.st (h : KnS B r w4 W m xb x u v LL) (z : Int) : ∃ x' : An, KnS B r w4 (W.setCell ⟨xb, 5, none⟩ (.int .i64 z)) m xb x' u v LL := by
  have e := heap_setCell_same W xb 5 _ _ (.int .i64 z) h.bx
  simp only [List.setIfInBounds_toArray, List.set_cons_zero, List.set_cons_succ] at e
  exact ⟨{ x with en := { x.en with st := z } }, h.put 5 (.int .i64 z) e rfl⟩
theorem KnS.bal (h : KnS B r w4 W m xb x u v LL) (z : Int) : ∃ x' : An, KnS B r w4 (W.setCell ⟨xb, 4, none⟩ (.int .i64 z)) m xb x' u v LL := by
  have e := heap_setCell_same W xb 4 _ _ (.int .i64 z) h.bx
  simp only [List.setIfInBounds_toArray, List.set_cons_zero, List.set_cons_succ] at e
  exact ⟨{ x with en := { x.en with bal := z } }, h.put 4 (.int .i64 z) e rfl⟩
theorem KnS.sq (h : KnS B r w4 W m xb x u v LL) (z : Int) : ∃ x' : An, KnS B r w4 (W.setCell ⟨xb, 9, none⟩ (.int .i64 z)) m xb x' u v LL := by
  have e := heap_setCell_same W xb 9 _ _ (.int .i64 z) h.bx
  simp only [List.setIfInBounds_toArray, List.set_cons_zero, List.set_cons_succ] at e
  exact ⟨{ x with en := { x.en with seq := z } }, h.put 9 (.int .i64 z) e rfl⟩
theorem KnS.en (h0 : KnS B r w4 W m xb x u v LL) {w5 : World} (hb5 : Below W.heap.size W w5) {X : En} {u2 : Value} {b2 : Nat} (h2 : W.heap.size ≤ b2) (hO : OwnP w5 b2 u2 X.deps) :
    ∃ x' : An, KnS B r w4 ((((((((((w5).setCell ⟨xb, 2, none⟩ (.int .i64 X.id.1)).setCell ⟨xb, 3, none⟩ (.int .i64 X.id.2)).setCell ⟨xb, 4, none⟩ (.int .i64 X.bal)).setCell ⟨xb, 5, none⟩ (.int .i64 X.st)).setCell ⟨xb, 6, none⟩ (.int .i64 X.k)).setCell ⟨xb, 7, none⟩ (.int .i64 X.key)).setCell ⟨xb, 8, none⟩ (.int .i64 X.v)).setCell ⟨xb, 9, none⟩ (.int .i64 X.seq)).setCell ⟨xb, 10, none⟩ (u2)) m xb x' u2 v LL := by
  have h := h0.low hb5
  have g := h
  have hl := lt_of_heap h0.bx
  have := h.xB
  have := h.rB
  have e := (heap_setCell_same _ xb 10 _ _ (u2) (heap_setCell_same _ xb 9 _ _ (.int .i64 X.seq) (heap_setCell_same _ xb 8 _ _ (.int .i64 X.v) (heap_setCell_same _ xb 7 _ _ (.int .i64 X.key) (heap_setCell_same _ xb 6 _ _ (.int .i64 X.k) (heap_setCell_same _ xb 5 _ _ (.int .i64 X.st) (heap_setCell_same _ xb 4 _ _ (.int .i64 X.bal) (heap_setCell_same _ xb 3 _ _ (.int .i64 X.id.2) (heap_setCell_same _ xb 2 _ _ (.int .i64 X.id.1) h.bx)))))))))
  simp only [List.setIfInBounds_toArray, List.set_cons_zero, List.set_cons_succ] at e
  refine ⟨{ x with en := X }, e, .inr ⟨b2, by omega, hO.same (by have hb : b2 ≠ xb := (by omega); rw [heap_setCell_other _ _ _ _ hb, heap_setCell_other _ _ _ _ hb, heap_setCell_other _ _ _ _ hb, heap_setCell_other _ _ _ _ hb, heap_setCell_other _ _ _ _ hb, heap_setCell_other _ _ _ _ hb, heap_setCell_other _ _ _ _ hb, heap_setCell_other _ _ _ _ hb, heap_setCell_other _ _ _ _ hb])⟩, fun W'' g => h.ar W'' (fun b h1 h2 => (g b h1 h2).trans (by have hb : b ≠ xb := (by omega); rw [heap_setCell_other _ _ _ _ hb, heap_setCell_other _ _ _ _ hb, heap_setCell_other _ _ _ _ hb, heap_setCell_other _ _ _ _ hb, heap_setCell_other _ _ _ _ hb, heap_setCell_other _ _ _ _ hb, heap_setCell_other _ _ _ _ hb, heap_setCell_other _ _ _ _ hb, heap_setCell_other _ _ _ _ hb])), h.xv, (((((((((g.rd.setCell (p := ⟨xb, 2, none⟩) (show r < xb by omega) (.int .i64 X.id.1)).setCell (p := ⟨xb, 3, none⟩) (show r < xb by omega) (.int .i64 X.id.2)).setCell (p := ⟨xb, 4, none⟩) (show r < xb by omega) (.int .i64 X.bal)).setCell (p := ⟨xb, 5, none⟩) (show r < xb by omega) (.int .i64 X.st)).setCell (p := ⟨xb, 6, none⟩) (show r < xb by omega) (.int .i64 X.k)).setCell (p := ⟨xb, 7, none⟩) (show r < xb by omega) (.int .i64 X.key)).setCell (p := ⟨xb, 8, none⟩) (show r < xb by omega) (.int .i64 X.v)).setCell (p := ⟨xb, 9, none⟩) (show r < xb by omega) (.int .i64 X.seq)).setCell (p := ⟨xb, 10, none⟩) (show r < xb by omega) (u2)), (((((((((g.kp.setCell (p := ⟨xb, 2, none⟩) h.xB (.int .i64 X.id.1)).setCell (p := ⟨xb, 3, none⟩) h.xB (.int .i64 X.id.2)).setCell (p := ⟨xb, 4, none⟩) h.xB (.int .i64 X.bal)).setCell (p := ⟨xb, 5, none⟩) h.xB (.int .i64 X.st)).setCell (p := ⟨xb, 6, none⟩) h.xB (.int .i64 X.k)).setCell (p := ⟨xb, 7, none⟩) h.xB (.int .i64 X.key)).setCell (p := ⟨xb, 8, none⟩) h.xB (.int .i64 X.v)).setCell (p := ⟨xb, 9, none⟩) h.xB (.int .i64 X.seq)).setCell (p := ⟨xb, 10, none⟩) h.xB (u2)), h.xB, h.rB⟩
end
/-- Answers that lie in a block of their own. -/
def AnOw (w : World) (B : Nat) (v : Value) (L : List An) : Prop := ∃ g cap cur t, v = .slice (some ⟨g, 0, none⟩) L.length cap ∧ B ≤ g ∧ w.heap[g]? = some (.cells cur t (0, 0)) ∧ L.length ≤ cap ∧ L.length ≤ 2000000 ∧
  ∀ i, i < L.length → ∃ u, (∀ j, j < 11 → cur[i * 11 + j]? = (acell (L.getD i an0, u))[j]?) ∧ ((u = .slice none 0 0 ∧ (L.getD i an0).en.deps = []) ∨ ∃ b, B ≤ b ∧ b ≠ g ∧ OwnP w b u (L.getD i an0).en.deps)
theorem AR.anow {w : World} {B : Nat} {v : Value} {L : AL} (h : AR w B v L) (hl : L.length ≤ 2000000) : AnOw w B v (L.map Prod.fst) := by
  rcases h.row.2 with ⟨rfl, _⟩ | ⟨g, cap, cur, rfl, hb, hg, hc, hm, hs, ht⟩
  · exact absurd rfl h.nn
  · refine ⟨g, cap, cur, _, by rw [List.length_map], hb, hg, by rw [List.length_map]; exact hc, by rw [List.length_map]; exact hl, fun i hi => ?_⟩
    rw [List.length_map] at hi
    rw [fstA_getD hi]
    have hx : L.getD i az ∈ L := by rw [List.getD_eq_getElem?_getD, List.getElem?_eq_getElem hi]; exact List.getElem_mem hi
    refine ⟨(L.getD i az).2, fun j hj => ?_, ?_⟩
    · rw [show acell ((L.getD i az).1, (L.getD i az).2) = acell (L.getD i az) from rfl, ← flatA_get L i j hi hj, ← ht, List.getElem?_take, if_pos (by omega)]; simp
    · rcases h.deps _ hx with e | ⟨b, h1, h2, h3⟩
      · exact .inl e
      · exact .inr ⟨b, h1, fun e => h2 (by rw [e]; rfl), h3⟩
theorem AnOw.ans {w : World} {B : Nat} {v : Value} {L : List An} (h : AnOw w B v L) : Ans w v L := by
  obtain ⟨g, cap, cur, t, rfl, _, hg, h1, h2, h3⟩ := h
  have h' : ∀ i, ∃ u, i < L.length → (∀ j, j < 11 → cur[i * 11 + j]? = (acell (L.getD i an0, u))[j]?) ∧ Ids w u (L.getD i an0).en.deps := fun i => by
    by_cases hi : i < L.length
    · obtain ⟨u, hc, hd⟩ := h3 i hi
      refine ⟨u, fun _ => ⟨hc, ?_⟩⟩
      rcases hd with ⟨rfl, e⟩ | ⟨b, _, _, hO⟩
      · rw [e]; exact ⟨none, 0, rfl, Nat.le_refl _, Nat.zero_le _, .inl rfl⟩
      · exact hO.read
    · exact ⟨.slice none 0 0, fun hh => absurd hh hi⟩
  refine ⟨_, cap, rfl, h1, h2, .inr ⟨g, 0, fun i => Classical.choose (h' i), rfl, lt_of_heap hg, fun i hi => ?_⟩⟩
  obtain ⟨hc, hI⟩ := Classical.choose_spec (h' i) hi
  exact anc_at hg hc hI
theorem AnOw.len {w : World} {B : Nat} {v : Value} {L : List An} (h : AnOw w B v L) : ∃ g c, v = .slice (some ⟨g, 0, none⟩) L.length c := by obtain ⟨g, c, _, _, e, _⟩ := h; exact ⟨g, c, e⟩
theorem AnOw.same {w w' : World} {B : Nat} {v : Value} {L : List An} (h : AnOw w B v L) (hk : ∀ b, B ≤ b → b < w.heap.size → w'.heap[b]? = w.heap[b]?) : AnOw w' B v L := by
  obtain ⟨g, cap, cur, t, rfl, hB, hg, h1, h2, h3⟩ := h
  refine ⟨g, cap, cur, t, rfl, hB, (hk g hB (lt_of_heap hg)).trans hg, h1, h2, fun i hi => ?_⟩
  obtain ⟨u, hc, hd⟩ := h3 i hi
  refine ⟨u, hc, ?_⟩
  rcases hd with e | ⟨b, hb, hn, hO⟩
  · exact .inl e
  · exact .inr ⟨b, hb, hn, hO.same (hk b hb hO.lt)⟩
theorem AnOw.cell {w : World} {B g n cap : Nat} {L : List An} (h : AnOw w B (.slice (some ⟨g, 0, none⟩) n cap) L) {k : Nat} (hk : k < L.length) : (∃ y, w.cell? ⟨g, k * 11, none⟩ = some y) ∧ w.frozen? ⟨g, k * 11, none⟩ = false ∧ B ≤ g ∧ g < w.heap.size := by
  obtain ⟨g', cap', cur, t, e, hB, hg, h1, h2, h3⟩ := h
  obtain ⟨rfl, _, _⟩ : g = g' ∧ n = L.length ∧ cap = cap' := by simpa using e
  obtain ⟨u, hc, _⟩ := h3 k hk
  have := hc 0 (by omega)
  rw [Nat.add_zero] at this
  exact ⟨⟨_, by rw [cell_of_cells hg, this]; rfl⟩, nine_free hg _, hB, lt_of_heap hg⟩
theorem AnOw.wide {w : World} {B B' : Nat} {v : Value} {L : List An} (h : AnOw w B v L) (hB' : B' ≤ B) : AnOw w B' v L := by
  obtain ⟨g, cap, cur, t, rfl, hB, hg, h1, h2, h3⟩ := h
  refine ⟨g, cap, cur, t, rfl, Nat.le_trans hB' hB, hg, h1, h2, fun i hi => ?_⟩
  obtain ⟨u, hc, hd⟩ := h3 i hi
  refine ⟨u, hc, ?_⟩
  rcases hd with e | ⟨b, hb, hn, hO⟩
  · exact .inl e
  · exact .inr ⟨b, Nat.le_trans hB' hb, hn, hO⟩
/-- Who answers is set. -/
theorem AnOw.setFr {w : World} {B g n cap : Nat} {L : List An} (h : AnOw w B (.slice (some ⟨g, 0, none⟩) n cap) L) {k : Nat} (hk : k < L.length) (z : Int) :
    ∃ L', AnOw (w.setCell ⟨g, k * 11, none⟩ (.int .i64 z)) B (.slice (some ⟨g, 0, none⟩) n cap) L' ∧ L'.length = L.length := by
  obtain ⟨g', cap', cur, t, e, hB, hg, h1, h2, h3⟩ := h
  obtain ⟨rfl, rfl, rfl⟩ : g = g' ∧ n = L.length ∧ cap = cap' := by simpa using e
  refine ⟨L.set k { L.getD k an0 with fr := z }, ⟨g, cap, _, t, by rw [List.length_set], hB, heap_setCell_same w g (k * 11) _ _ (.int .i64 z) hg, by rw [List.length_set]; exact h1, by rw [List.length_set]; exact h2, fun i hi => ?_⟩, by rw [List.length_set]⟩
  rw [List.length_set] at hi
  obtain ⟨u, hc, hd⟩ := h3 i hi
  have hz : k * 11 < cur.size := by
    obtain ⟨u', hc', _⟩ := h3 k hk
    have := hc' 0 (by omega)
    rw [Nat.add_zero] at this
    exact (Array.getElem?_eq_some_iff.1 this).1
  by_cases hik : i = k
  · subst hik
    have e1 : (L.set i { L.getD i an0 with fr := z }).getD i an0 = { L.getD i an0 with fr := z } := by
      rw [List.getD_eq_getElem?_getD, List.getElem?_set_self hi]; rfl
    rw [e1]
    refine ⟨u, fun j hj => ?_, ?_⟩
    · rw [Array.getElem?_setIfInBounds]
      rcases Nat.eq_zero_or_pos j with hj0 | hj0
      · subst hj0; rw [if_pos (by omega), if_pos (by omega)]; rfl
      · rw [if_neg (by omega), hc j hj]
        obtain ⟨j', rfl⟩ : ∃ j', j = j' + 1 := ⟨j - 1, by omega⟩
        rfl
    · rcases hd with e | ⟨b, hb, hn, hO⟩
      · exact .inl e
      · exact .inr ⟨b, hb, hn, hO.same (heap_setCell_other _ _ _ _ hn)⟩
  · have e1 : (L.set k { L.getD k an0 with fr := z }).getD i an0 = L.getD i an0 := by
      rw [List.getD_eq_getElem?_getD, List.getElem?_set_ne (fun e => hik e.symm), ← List.getD_eq_getElem?_getD]
    rw [e1]
    refine ⟨u, fun j hj => ?_, ?_⟩
    · rw [Array.getElem?_setIfInBounds, if_neg (by omega)]; exact hc j hj
    · rcases hd with e | ⟨b, hb, hn, hO⟩
      · exact .inl e
      · exact .inr ⟨b, hb, hn, hO.same (heap_setCell_other _ _ _ _ hn)⟩
theorem en_resKn (tm : Array Value) (w : World) (b : Nat) (v v' x0 x1 : Value) (t : TypeId) (h1 : tm[2]? = some v) (h2 : tm[3]? = some (.pointer (some ⟨b, 0, none⟩))) (h3 : tm[4]? = some v') (h : w.heap[b]? = some (.cells #[x0, x1] t (0, 0))) :
    (results Try.f12 tm).run Try.prog w = .ok (.tuple #[v, .agg #[x0, x1], v']) w := by
  obtain ⟨t0, t1, _, _⟩ := blk2 h
  simp [results, Try.results12, go_sem, h1, h2, h3, t0, t1]
theorem elev_srcA (w : World) (t : TypeId) (x0 x1 x2 x3 x4 x5 x6 x7 x8 x9 x10 : Value) (n : Nat) (hn : n = w.heap.size) : ∀ j v, [x0, x1, x2, x3, x4, x5, x6, x7, x8, x9, x10][j]? = some v → (w.alloc (.cells #[x0, x1, x2, x3, x4, x5, x6, x7, x8, x9, x10] t)).cell? ((⟨n, 0, none⟩ : Addr).add j) = some v := by
  subst hn
  intro j v hj
  have h := heap_alloc_new w (.cells #[x0, x1, x2, x3, x4, x5, x6, x7, x8, x9, x10] t)
  rw [Addr.add_lit, Nat.zero_add, cell_of_cells h]
  simpa using hj
/-- What the draw leaves. -/
def DknP (r : Nat) (w : World) (e : Ending) (w' : World) : Prop :=
  (∃ (n x y : Int) (v : Value) (L : List An), e = .returned (.tuple #[.int .i64 n, .agg #[.int .i64 x, .int .i64 y], v]) ∧ AnOw w' w.heap.size v L ∧ L.length ≤ 5) ∧ Keep w.heap.size r w w'
set_option maxRecDepth 100000 in
set_option maxHeartbeats 16000000 in
theorem known_any (r : Nat) (w : World) (hrd : Rd w r 0) : Calls Try.prog 12 #[.pointer (some ⟨r, 0, none⟩)] w (DknP r w) := by
  obtain ⟨i0, hi, hz0, hz1, hz2⟩ := info_parts info_an
  have hrl := hrd.lt
  have Z := Lib.hid (heap_alloc_new w (.cells #[.int .i64 0, .int .i64 0] 24))
  have R1 := Lib.hid (hrd.alloc (.cells #[.int .i64 0, .int .i64 0] 24))
  have K1 := Lib.hid ((Keep.refl w.heap.size r w).alloc (Nat.le_refl _) (.cells #[.int .i64 0, .int .i64 0] 24))
  clear hrd
  go_enter Try.func12, Try.ntmps12
  go_upto_region 1 with fail
  obtain ⟨w1, hw1⟩ : ∃ q, Hid (w.alloc (.cells #[.int .i64 0, .int .i64 0] 24) = q) := ⟨_, Lib.hid rfl⟩
  have s1 : w1.heap.size = w.heap.size + 1 := by rw [← hw1.out]; simp
  rw [hw1.out] at Z R1 K1 ⊢
  clear hw1
  go_wp2_with fail
  refine (pick_any 2 r _ _ R1.out (by omega)).mono ?_
  rintro e w2 ⟨z, rfl, z0, z1', hr', hk'⟩
  have z1 := z1' (by omega)
  obtain ⟨nn, hnn⟩ : ∃ nn : Nat, 3 + 2 * z = (nn : Int) := ⟨(3 + 2 * z).toNat, by omega⟩
  have hnn5 : nn ≤ 5 := by omega
  have hs2 := hk'.size
  replace Z := Lib.hid ((hk'.block _ (by omega) (by omega)).trans Z.out)
  have K2 := Lib.hid (K1.out.trans (hk'.mono (by omega)))
  have R2 := Lib.hid hr'
  clear z1' hr' hk' R1 K1
  go_upto_region 2 with fail
  try rw [hnn]
  replace hnn := Lib.hid hnn
  go_wp2_with fail
  refine (pick_any 4 r _ _ R2.out (by omega)).mono ?_
  rintro e w3 ⟨t, rfl, t0, t1', hr', hk'⟩
  have t1 := t1' (by omega)
  have hs3 := hk'.size
  replace Z := Lib.hid ((hk'.block _ (by omega) (by omega)).trans Z.out)
  replace K2 := Lib.hid (K2.out.trans (hk'.mono (by omega)))
  have R3 := Lib.hid hr'
  clear t1' hr' hk' R2
  go_upto_region 3 with fail
  have BI := (Below.refl w3.heap.size w3).alloc (Nat.le_refl _) (.cells #[.int .i64 0, .int .i64 (1 + t)] 24)
  have AI := Lib.hid (heap_alloc_new w3 (.cells #[.int .i64 0, .int .i64 (1 + t)] 24))
  replace Z := Lib.hid ((BI.block _ (by omega)).trans Z.out)
  replace K2 := Lib.hid (K2.out.trans (Keep.of_below (BI.mono (by omega))))
  replace R3 := Lib.hid (R3.out.alloc (.cells #[.int .i64 0, .int .i64 (1 + t)] 24))
  obtain ⟨ab, hab⟩ : ∃ q, Hid (w3.heap.size = q) := ⟨_, Lib.hid rfl⟩
  have s3 : (w3.alloc (.cells #[.int .i64 0, .int .i64 (1 + t)] 24)).heap.size = ab + 1 := by rw [← hab.out]; simp
  have hab1 : w1.heap.size ≤ ab := by rw [← hab.out]; omega
  rw [hab.out] at AI ⊢
  clear BI hab
  generalize w3.alloc (.cells #[.int .i64 0, .int .i64 (1 + t)] 24) = wa at AI Z K2 R3 s3 ⊢
  obtain ⟨a0, a1, _, _⟩ := blk2 AI.out
  have hal := lt_of_heap AI.out
  go_wp2_with fail
  refine (entry_any r _ 0 (1 + t) _ R3.out (by omega)).mono ?_
  rintro e w7 ⟨ib, X, u, hb, rfl, hid, hO, hd, hr', hk'⟩
  have hs7 := hk'.size
  obtain ⟨ic, hu⟩ : ∃ c, u = .slice (some ⟨ib, 0, none⟩) X.deps.length c := by obtain ⟨c, e, _⟩ := hO.shape; exact ⟨_, e⟩
  subst hu
  replace hid := Lib.hid hid
  have BE := (Below.refl w7.heap.size w7).alloc (Nat.le_refl _) (.cells #[.int .i64 X.id.1, .int .i64 X.id.2, .int .i64 X.bal, .int .i64 X.st, .int .i64 X.k, .int .i64 X.key, .int .i64 X.v, .int .i64 X.seq, .slice (some ⟨ib, 0, none⟩) X.deps.length ic] 46)
  have A := Lib.hid (heap_alloc_new w7 (.cells #[.int .i64 X.id.1, .int .i64 X.id.2, .int .i64 X.bal, .int .i64 X.st, .int .i64 X.k, .int .i64 X.key, .int .i64 X.v, .int .i64 X.seq, .slice (some ⟨ib, 0, none⟩) X.deps.length ic] 46))
  have hI := Lib.hid (hO.up BE hO.lt)
  replace AI := Lib.hid ((BE.block _ (by omega)).trans ((hk'.block _ hal (by omega)).trans AI.out))
  replace Z := Lib.hid ((BE.block _ (by omega)).trans ((hk'.block _ (by omega) (by omega)).trans Z.out))
  replace K2 := Lib.hid (K2.out.trans ((hk'.mono (by omega)).trans (Keep.of_below (BE.mono (by omega)))))
  have R8 := Lib.hid (hr'.alloc (.cells #[.int .i64 X.id.1, .int .i64 X.id.2, .int .i64 X.bal, .int .i64 X.st, .int .i64 X.k, .int .i64 X.key, .int .i64 X.v, .int .i64 X.seq, .slice (some ⟨ib, 0, none⟩) X.deps.length ic] 46))
  have hib : ib < w7.heap.size := hO.lt
  unfold env
  clear a0 a1 hal hr' hk' R3 hO
  go_upto_region 4 with fail
  obtain ⟨ob, hob⟩ : ∃ q, Hid (w7.heap.size = q) := ⟨_, Lib.hid rfl⟩
  have s8 : (w7.alloc (.cells #[.int .i64 X.id.1, .int .i64 X.id.2, .int .i64 X.bal, .int .i64 X.st, .int .i64 X.k, .int .i64 X.key, .int .i64 X.v, .int .i64 X.seq, .slice (some ⟨ib, 0, none⟩) X.deps.length ic] 46)).heap.size = ob + 1 := by rw [← hob.out]; simp
  rw [hob.out] at A hib hs7 ⊢
  clear BE hob
  generalize w7.alloc (.cells #[.int .i64 X.id.1, .int .i64 X.id.2, .int .i64 X.bal, .int .i64 X.st, .int .i64 X.k, .int .i64 X.key, .int .i64 X.v, .int .i64 X.seq, .slice (some ⟨ib, 0, none⟩) X.deps.length ic] 46) = w8 at A hI AI Z K2 R8 s8 ⊢
  have BL := (Below.refl w8.heap.size w8).alloc (Nat.le_refl _) (.cells #[.int .i64 1, .int .i64 1, .int .i64 1, .int .i64 2, .int .i64 3] 3)
  have LT := heap_alloc_new w8 (.cells #[.int .i64 1, .int .i64 1, .int .i64 1, .int .i64 2, .int .i64 3] 3)
  have R9 := R8.out.alloc (.cells #[.int .i64 1, .int .i64 1, .int .i64 1, .int .i64 2, .int .i64 3] 3)
  have hbs := BL.size
  have hlL := lt_of_heap LT
  have BL := Lib.hid BL
  have LT := Lib.hid LT
  have R9 := Lib.hid R9
  clear R8
  go_wp2_with fail
  refine (pick_any 5 r _ _ R9.out (by omega)).mono ?_
  rintro e w4 ⟨j, rfl, j0, j1', hr', hk'⟩
  have j1 := j1' (by omega)
  have LT4 := (hk'.block w8.heap.size hlL (by omega)).trans LT.out
  obtain ⟨jn, hjn⟩ : ∃ jn : Nat, j = jn := ⟨j.toNat, by omega⟩
  subst hjn
  have lit : ∃ mv : Int, 1 ≤ mv ∧ mv ≤ 3 ∧ w4.cell? ⟨w8.heap.size, jn, none⟩ = some (.int .i64 mv) := by
    rcases (show jn = 0 ∨ jn = 1 ∨ jn = 2 ∨ jn = 3 ∨ jn = 4 by omega) with rfl | rfl | rfl | rfl | rfl
    · exact ⟨1, by decide, by decide, by rw [cell_of_cells LT4]; rfl⟩
    · exact ⟨1, by decide, by decide, by rw [cell_of_cells LT4]; rfl⟩
    · exact ⟨1, by decide, by decide, by rw [cell_of_cells LT4]; rfl⟩
    · exact ⟨2, by decide, by decide, by rw [cell_of_cells LT4]; rfl⟩
    · exact ⟨3, by decide, by decide, by rw [cell_of_cells LT4]; rfl⟩
  obtain ⟨mv, mv1, mv3, lit⟩ := lit
  rw [s8] at lit
  have hs4 := hk'.size
  have K8 := hk'.mono hbs
  replace A := Lib.hid ((K8.block ob (by omega) (by omega)).trans ((BL.out.block ob (by omega)).trans A.out))
  replace hI := Lib.hid ((hI.out.up BL.out (by omega)).same (K8.block ib (by omega) (by omega)))
  replace AI := Lib.hid ((K8.block ab (by omega) (by omega)).trans ((BL.out.block ab (by omega)).trans AI.out))
  replace Z := Lib.hid ((K8.block w.heap.size (by omega) (by omega)).trans ((BL.out.block w.heap.size (by omega)).trans Z.out))
  replace K2 := Lib.hid ((K2.out.trans (Keep.of_below (BL.out.mono (by omega)))).trans (hk'.mono (by omega)))
  have R4 := Lib.hid hr'
  clear LT4 K8 hk' hr' j1' BL LT R9
  go_upto_region 5 with fail
  clear lit j0 j1
  have hrB0 : r < w4.heap.size := by omega
  have hob0 : ob < w4.heap.size := by omega
  have hib0 : ib < w4.heap.size := by omega
  have hab0 : ab < w4.heap.size := by omega
  have hzb0 : w.heap.size < w4.heap.size := by omega
  have P0 := Lib.hid (ar_new w4 w4.heap.size (Nat.le_refl _))
  have Q0 := Lib.hid (R4.out.alloc (.cells #[] 48))
  have K0 := Lib.hid ((Keep.refl w4.heap.size r w4).alloc (Nat.le_refl _) (.cells #[] 48))
  obtain ⟨B, hB⟩ : ∃ b, Hid (w4.heap.size = b) := ⟨_, Lib.hid rfl⟩
  rw [hB.out] at hrB0 hob0 hib0 hab0 hzb0 P0 K0
  go_wp2_with fail
  rw [hB.out]
  go_loopw [9, 10] (fun vo i wr => ∃ (k : Nat) (LL : AL), k ≤ nn ∧ i = .int .i64 k ∧ Hid (LL.length ≤ k) ∧ Hid (AR wr B vo LL) ∧ Hid (Rd wr r (900 + 30 * k)) ∧ Hid (Keep B r w4 wr)) (fun _ i _ => nn - (intOf i).toNat)
  case atStart => exact ⟨0, [], Nat.zero_le _, rfl, Lib.hid (Nat.zero_le _), P0, Lib.hid (Q0.out.more (by omega)), K0⟩
  case round =>
    clear P0 Q0 K0 R4
    obtain ⟨k, LL, hk, rfl, hLk0, hER, hRd, hKp⟩ := hrel
    have hLk := hLk0.out
    clear hLk0
    obtain ⟨vg, vc, hv, vgB, vgl, _, _⟩ := hER.out.shape
    subst hv
    have hsr := hKp.out.size
    have hB4 := hB.out
    have hrB : r < B := hrB0
    have hob : ob < B := hob0
    have hib : ib < B := hib0
    by_cases hlt : k < nn
    · go_wp2_with fail
      refine (pick_any 4 r _ _ hRd.out (by omega)).mono ?_
      rintro e w5 ⟨g, rfl, g0, g1', hr', hk'⟩
      have g1 := g1' (by omega)
      have hER5 := hER.out.same (fun b h1 h2 => hk'.block b h2 (by omega))
      have hER5 := Lib.hid hER5
      have hRd5 := Lib.hid hr'
      have vgl5 : vg < w5.heap.size := by have := hk'.size; omega
      have hs5 : B ≤ w5.heap.size := by have := hk'.size; omega
      have hKp5 := Lib.hid (hKp.out.trans (hk'.mono (by omega)))
      clear g1' hr' hk' hER hRd hKp vgl hsr
      by_cases hg : 0 < g
      · have hgb : decide (g > 0) = true := by simpa using hg
        go_upto_region 10 with fail
        have BA := (Below.refl w5.heap.size w5).alloc (Nat.le_refl _) (.cells #[.int .i64 k, .bool true, .int .i64 0, .int .i64 0, .int .i64 0, .int .i64 0, .int .i64 0, .int .i64 0, .int .i64 0, .int .i64 0, .slice none 0 0] 48)
        have S := Lib.hid (show KnS B r w4 (w5.alloc (.cells #[.int .i64 k, .bool true, .int .i64 0, .int .i64 0, .int .i64 0, .int .i64 0, .int .i64 0, .int .i64 0, .int .i64 0, .int .i64 0, .slice none 0 0] 48)) (900 + 30 * k + 10) w5.heap.size ⟨(k : Int), true, en0⟩ (.slice none 0 0) (.slice (some ⟨vg, 0, none⟩) LL.length vc) LL from
          ⟨heap_alloc_new _ _, .inl ⟨rfl, rfl⟩, fun W'' g => hER5.out.same (fun b h1 h2 => (g b h1 h2).trans (BA.block b h2)), fun b e => by simp [Value.ownBlock] at e; omega, (hRd5.out.more (by omega)).alloc _, hKp5.out.trans (Keep.of_below (BA.mono hs5)), hs5, hrB⟩)
        clear BA hER5
        obtain ⟨xb, hxb⟩ : ∃ c, Hid (w5.heap.size = c) := ⟨_, Lib.hid rfl⟩
        rw [hxb.out] at S ⊢
        generalize w5.alloc (.cells #[.int .i64 k, .bool true, .int .i64 0, .int .i64 0, .int .i64 0, .int .i64 0, .int .i64 0, .int .i64 0, .int .i64 0, .int .i64 0, .slice none 0 0] 48) = w6 at S ⊢
        clear hxb
        have A2 := Lib.hid ((S.out.kp.block ob hob (by omega)).trans A.out)
        have I2 := Lib.hid (hI.out.same (S.out.kp.block ib hib (by omega)))
        obtain ⟨⟨x0, x1, x2, x3, x4, x5, x6, x7, x8, x9, x10⟩, ⟨e0, e1, e2, e3, e4, e5, e6, e7, e8, e9, e10⟩, xl⟩ := elev_free S.out.bx
        go_upto_region 11 with fail
        clear x0 x1 x2 x3 x4 x5 x6 x7 x8 x9 x10 e0 e1 e2 e3 e4 e5 e6 e7 e8 e9 e10 xl
        obtain ⟨⟨y0, y1, y2, y3, y4, y5, y6, y7, y8⟩, ⟨f0, f1, f2, f3, f4, f5, f6, f7, f8⟩, yl⟩ := nine_all A2.out
        go_wp2_with fail
        refine (copy_at X.id.1 X.id.2 X.bal X.st X.k X.key X.v X.seq X.deps (.slice (some ⟨ib, 0, none⟩) X.deps.length ic) _ I2.out.read).mono ?_
        rintro e w7 ⟨⟨u2, rfl, hrow⟩, B7⟩
        obtain ⟨b2, h2, hO2⟩ := hrow.own (by omega)
        obtain ⟨uc2, hu2⟩ : ∃ c, u2 = .slice (some ⟨b2, 0, none⟩) X.deps.length c := by obtain ⟨c, e, _⟩ := hO2.shape; exact ⟨_, e⟩
        subst hu2
        obtain ⟨x2, S2⟩ := S.out.en B7 (X := X) h2 hO2
        have S2 := Lib.hid S2
        have S7 := Lib.hid (S.out.low B7)
        clear y0 y1 y2 y3 y4 y5 y6 y7 y8 f0 f1 f2 f3 f4 f5 f6 f7 f8 yl hrow B7 hO2 A2 I2 S
        obtain ⟨⟨y0, y1, y2, y3, y4, y5, y6, y7, y8, y9, y10⟩, ⟨f0, f1, f2, f3, f4, f5, f6, f7, f8, f9, f10⟩, yl⟩ := elev_free S7.out.bx
        go_upto_region 12 with fail
        clear y0 y1 y2 y3 y4 y5 y6 y7 y8 y9 y10 f0 f1 f2 f3 f4 f5 f6 f7 f8 f9 f10 yl S7
        generalize (((((((((w7).setCell ⟨xb, 2, none⟩ (.int .i64 X.id.1)).setCell ⟨xb, 3, none⟩ (.int .i64 X.id.2)).setCell ⟨xb, 4, none⟩ (.int .i64 X.bal)).setCell ⟨xb, 5, none⟩ (.int .i64 X.st)).setCell ⟨xb, 6, none⟩ (.int .i64 X.k)).setCell ⟨xb, 7, none⟩ (.int .i64 X.key)).setCell ⟨xb, 8, none⟩ (.int .i64 X.v)).setCell ⟨xb, 9, none⟩ (.int .i64 X.seq)).setCell ⟨xb, 10, none⟩ (.slice (some ⟨b2, 0, none⟩) X.deps.length uc2) = w8 at S2 ⊢
        go_wp2_with fail
        refine (pick_any mv r _ _ S2.out.rd (by omega)).mono ?_
        rintro e w10 ⟨s, rfl, s0, s1', hr', hk'⟩
        have s1 := s1' (by omega)
        have S3 := Lib.hid (S2.out.keep hr' hk')
        clear s1' hr' hk' S2
        obtain ⟨⟨y0, y1, y2, y3, y4, y5, y6, y7, y8, y9, y10⟩, ⟨f0, f1, f2, f3, f4, f5, f6, f7, f8, f9, f10⟩, yl⟩ := elev_free S3.out.bx
        go_upto_region 13 with fail
        obtain ⟨x3, S4⟩ := S3.out.st (1 + s)
        have S4 := Lib.hid S4
        clear y0 y1 y2 y3 y4 y5 y6 y7 y8 y9 y10 f0 f1 f2 f3 f4 f5 f6 f7 f8 f9 f10 yl S3
        generalize w10.setCell ⟨xb, 5, none⟩ (.int .i64 (1 + s)) = w11 at S4 ⊢
        go_wp2_with fail
        refine (pick_any 6 r _ _ S4.out.rd (by omega)).mono ?_
        rintro e w12 ⟨bl, rfl, bl0, bl1', hr', hk'⟩
        have bl1 := bl1' (by omega)
        have S5 := Lib.hid (S4.out.keep hr' hk')
        clear bl1' hr' hk' S4
        obtain ⟨⟨y0, y1, y2, y3, y4, y5, y6, y7, y8, y9, y10⟩, ⟨f0, f1, f2, f3, f4, f5, f6, f7, f8, f9, f10⟩, yl⟩ := elev_free S5.out.bx
        go_upto_region 14 with fail
        obtain ⟨x4, S6⟩ := S5.out.bal bl
        have S6 := Lib.hid S6
        clear y0 y1 y2 y3 y4 y5 y6 y7 y8 y9 y10 f0 f1 f2 f3 f4 f5 f6 f7 f8 f9 f10 yl S5
        generalize w12.setCell ⟨xb, 4, none⟩ (.int .i64 bl) = w13 at S6 ⊢
        go_wp2_with fail
        refine (pick_any 4 r _ _ S6.out.rd (by omega)).mono ?_
        rintro e w14 ⟨d, rfl, d0, d1', hr', hk'⟩
        have d1 := d1' (by omega)
        have S7 := Lib.hid (S6.out.keep hr' hk')
        clear d1' hr' hk' S6
        go_upto_if 56 with (fail)
        go_cut [] (fun wx => ∃ x u, Hid (KnS B r w4 wx (900 + 30 * k + 20) xb x u (.slice (some ⟨vg, 0, none⟩) LL.length vc) LL))
        case first =>
          by_cases hd : d = 0
          · subst hd
            obtain ⟨sq, hsq⟩ : ∃ z, x4.en.seq = z := ⟨_, rfl⟩
            obtain ⟨⟨y0, y1, y2, y3, y4, y5, y6, y7, y8, y9, y10⟩, ⟨f0, f1, f2, f3, f4, f5, f6, f7, f8, f9, f10⟩, yl⟩ := elev_free S7.out.bx
            rw [hsq] at y9
            go_upto_region 15 with fail
            go_region_with (go_at_call 24; (with_reducible refine (pick_any _ r _ _ ((S7.out.low (Below.drew (Below.refl _ _))).rd) (by omega)).mono ?_); rintro e w15 ⟨j, rfl, j0, j1', hr', hk'⟩; have j1 := j1' (by omega); have S8 := Lib.hid ((S7.out.low (Below.drew (Below.refl _ _))).keep hr' hk'); clear y0 y1 y2 y3 y4 y5 y6 y7 y8 y9 y10 f0 f1 f2 f3 f4 f5 f6 f7 f8 f9 f10 yl j1' hr' hk'; obtain ⟨⟨y0, y1, y2, y3, y4, y5, y6, y7, y8, y9, y10⟩, ⟨f0, f1, f2, f3, f4, f5, f6, f7, f8, f9, f10⟩, yl⟩ := elev_free S8.out.bx; rw [hsq] at y9)
            all_goals
              go_wp2_with fail
              go_meet
              exact ⟨_, _, Lib.hid (((S8.out.sq _).choose_spec).keep (((S8.out.sq _).choose_spec).rd.more (by omega)) (Keep.refl _ _ _))⟩
          · have hdb : (d == 0) = false := by simpa using hd
            go_wp2_with fail
            go_meet
            exact ⟨_, _, Lib.hid (S7.out.keep (S7.out.rd.more (by omega)) (Keep.refl _ _ _))⟩
        case rest =>
          obtain ⟨x, u, S9⟩ := hcut
          clear S7
          go_wp2_with fail
          refine (pick_any 5 r _ _ S9.out.rd (by omega)).mono ?_
          rintro e w9 ⟨t, rfl, t0, t1', hr', hk'⟩
          have t1 := t1' (by omega)
          have T := Lib.hid (S9.out.keep hr' hk')
          clear t1' hr' hk' S9
          by_cases ht : 0 < t
          · obtain ⟨ua, un, uc, hu9⟩ : ∃ a n c, u = .slice a n c := by
              rcases T.out.dx with ⟨e, _⟩ | ⟨b, _, hO⟩
              · exact ⟨_, _, _, e⟩
              · obtain ⟨c, e, _⟩ := hO.shape; exact ⟨_, _, _, e⟩
            subst hu9
            have E5 := Lib.hid (T.out.ar _ (fun _ _ _ => rfl))
            have hx9 : DpO w9 B (.slice (some ⟨vg, 0, none⟩) LL.length vc) (.slice ua un uc) x.en.deps := by
              rcases T.out.dx with ⟨e1, e2⟩ | ⟨b, h1, hO⟩
              · exact .inl ⟨e1, e2⟩
              · exact .inr ⟨b, by have := T.out.xB; omega, fun e => by have := T.out.xv b e; omega, hO⟩
            have hx9 := Lib.hid hx9
            have hPr := Lib.hid E5.out.row
            have hsz : B ≤ w9.heap.size := by have := T.out.kp.size; omega
            obtain ⟨⟨y0, y1, y2, y3, y4, y5, y6, y7, y8, y9, y10⟩, ⟨f0, f1, f2, f3, f4, f5, f6, f7, f8, f9, f10⟩, yl⟩ := elev_free T.out.bx
            go_upto_region 17 with fail
            go_wp2_with (at_builtin; go_loud (refine wpList_append_own_at _ rfl _ _ 25 rfl B 48 i0 (.agg #[.int .i64 0, .bool false, .int .i64 0, .int .i64 0, .int .i64 0, .int .i64 0, .int .i64 0, .int .i64 0, .int .i64 0, .int .i64 0, .slice none 0 0]) 11 104 Try.underlying25 hi hz0 hz1 hz2 rfl (by decide) _ LL.length (flatA LL) rfl (hPr.out.alloc _) ⟨w9.heap.size, 0, none⟩ 1 1 [.int .i64 x.fr, .bool x.kn, .int .i64 x.en.id.1, .int .i64 x.en.id.2, .int .i64 x.en.bal, .int .i64 x.en.st, .int .i64 x.en.k, .int .i64 x.en.key, .int .i64 x.en.v, .int .i64 x.en.seq, .slice ua un uc] rfl rfl ?fc1 ?fc2 ?fc3 ?fc4 ?fc5 ?_))
            try (case fc1 => exact elev_srcA _ _ _ _ _ _ _ _ _ _ _ _ _ _ (by simp))
            case fc2 => first | exact ⟨rfl, rfl, rfl, rfl, rfl, rfl, rfl, rfl, rfl, rfl, rfl⟩ | (intro q hq; simp at hq; rcases hq with rfl | rfl | rfl | rfl | rfl | rfl | rfl | rfl | rfl | rfl | rfl <;> rfl)
            case fc3 => unfold maxLen; omega
            case fc4 => omega
            case fc5 => first | omega | (simp; omega)
            intro v' w' hown' hgrow hnil hat
            have E6 := Lib.hid (E5.out.put (x := (x, .slice ua un uc)) hown' hgrow (fun e => hnil e) (hat.imp (fun h => h) (fun h => by simpa using h)) hx9.out)
            have B6 := Lib.hid (E5.out.grown hgrow hsz)
            have R6 := Lib.hid (T.out.rd.kept ⟨B6.out.os, B6.out.tape, B6.out.output, B6.out.size, fun k hk => B6.out.block k (by omega)⟩)
            have K6 := Lib.hid (T.out.kp.trans (Keep.of_below B6.out))
            clear hown' hgrow hnil hat hPr hx9 y0 y1 y2 y3 y4 y5 y6 y7 y8 y9 y10 f0 f1 f2 f3 f4 f5 f6 f7 f8 f9 f10 yl E5 T B6
            go_wp2_with fail
            go_roundw
            case rel => exact ⟨k + 1, LL ++ [(x, .slice ua un uc)], by omega, by go_num, Lib.hid (by rw [List.length_append]; simp; omega), E6, Lib.hid (R6.out.more (by omega)), K6⟩
            case measure => simp [intOf]; omega
          · obtain rfl : t = 0 := by omega
            have E6 := Lib.hid (T.out.ar _ (fun _ _ _ => rfl))
            have R6 := Lib.hid T.out.rd
            have K6 := Lib.hid T.out.kp
            clear T
            go_wp2_with fail
            go_roundw
            case rel => exact ⟨k + 1, LL, by omega, by go_num, Lib.hid (by omega), E6, Lib.hid (R6.out.more (by omega)), K6⟩
            case measure => simp [intOf]; omega
      · obtain rfl : g = 0 := by omega
        go_upto_region 10 with fail
        have BA := (Below.refl w5.heap.size w5).alloc (Nat.le_refl _) (.cells #[.int .i64 k, .bool false, .int .i64 0, .int .i64 0, .int .i64 0, .int .i64 0, .int .i64 0, .int .i64 0, .int .i64 0, .int .i64 0, .slice none 0 0] 48)
        have S := Lib.hid (show KnS B r w4 (w5.alloc (.cells #[.int .i64 k, .bool false, .int .i64 0, .int .i64 0, .int .i64 0, .int .i64 0, .int .i64 0, .int .i64 0, .int .i64 0, .int .i64 0, .slice none 0 0] 48)) (900 + 30 * k + 10) w5.heap.size ⟨(k : Int), false, en0⟩ (.slice none 0 0) (.slice (some ⟨vg, 0, none⟩) LL.length vc) LL from
          ⟨heap_alloc_new _ _, .inl ⟨rfl, rfl⟩, fun W'' g => hER5.out.same (fun b h1 h2 => (g b h1 h2).trans (BA.block b h2)), fun b e => by simp [Value.ownBlock] at e; omega, (hRd5.out.more (by omega)).alloc _, hKp5.out.trans (Keep.of_below (BA.mono hs5)), hs5, hrB⟩)
        clear BA hER5
        obtain ⟨xb, hxb⟩ : ∃ c, Hid (w5.heap.size = c) := ⟨_, Lib.hid rfl⟩
        rw [hxb.out] at S ⊢
        generalize w5.alloc (.cells #[.int .i64 k, .bool false, .int .i64 0, .int .i64 0, .int .i64 0, .int .i64 0, .int .i64 0, .int .i64 0, .int .i64 0, .int .i64 0, .slice none 0 0] 48) = w6 at S ⊢
        clear hxb
        obtain ⟨x, hx⟩ : ∃ x, Hid ((⟨(k : Int), false, en0⟩ : An) = x) := ⟨_, Lib.hid rfl⟩
        obtain ⟨u, hu⟩ : ∃ u, Hid ((.slice none 0 0 : Value) = u) := ⟨_, Lib.hid rfl⟩
        have S9 := Lib.hid (S.out.keep (S.out.rd.more (show 900 + 30 * k + 10 ≤ 900 + 30 * k + 20 by omega)) (Keep.refl _ _ _))
        obtain ⟨⟨y0, y1, y2, y3, y4, y5, y6, y7, y8, y9, y10⟩, ⟨f0, f1, f2, f3, f4, f5, f6, f7, f8, f9, f10⟩, yl⟩ := elev_free S.out.bx
        go_upto_region 16 with fail
        clear y0 y1 y2 y3 y4 y5 y6 y7 y8 y9 y10 f0 f1 f2 f3 f4 f5 f6 f7 f8 f9 f10 yl S
        rw [hx.out, hu.out] at S9
        clear hx hu
        go_wp2_with fail
        refine (pick_any 5 r _ _ S9.out.rd (by omega)).mono ?_
        rintro e w9 ⟨t, rfl, t0, t1', hr', hk'⟩
        have t1 := t1' (by omega)
        have T := Lib.hid (S9.out.keep hr' hk')
        clear t1' hr' hk' S9
        by_cases ht : 0 < t
        · obtain ⟨ua, un, uc, hu9⟩ : ∃ a n c, u = .slice a n c := by
            rcases T.out.dx with ⟨e, _⟩ | ⟨b, _, hO⟩
            · exact ⟨_, _, _, e⟩
            · obtain ⟨c, e, _⟩ := hO.shape; exact ⟨_, _, _, e⟩
          subst hu9
          have E5 := Lib.hid (T.out.ar _ (fun _ _ _ => rfl))
          have hx9 : DpO w9 B (.slice (some ⟨vg, 0, none⟩) LL.length vc) (.slice ua un uc) x.en.deps := by
            rcases T.out.dx with ⟨e1, e2⟩ | ⟨b, h1, hO⟩
            · exact .inl ⟨e1, e2⟩
            · exact .inr ⟨b, by have := T.out.xB; omega, fun e => by have := T.out.xv b e; omega, hO⟩
          have hx9 := Lib.hid hx9
          have hPr := Lib.hid E5.out.row
          have hsz : B ≤ w9.heap.size := by have := T.out.kp.size; omega
          obtain ⟨⟨y0, y1, y2, y3, y4, y5, y6, y7, y8, y9, y10⟩, ⟨f0, f1, f2, f3, f4, f5, f6, f7, f8, f9, f10⟩, yl⟩ := elev_free T.out.bx
          go_upto_region 17 with fail
          go_wp2_with (at_builtin; go_loud (refine wpList_append_own_at _ rfl _ _ 25 rfl B 48 i0 (.agg #[.int .i64 0, .bool false, .int .i64 0, .int .i64 0, .int .i64 0, .int .i64 0, .int .i64 0, .int .i64 0, .int .i64 0, .int .i64 0, .slice none 0 0]) 11 104 Try.underlying25 hi hz0 hz1 hz2 rfl (by decide) _ LL.length (flatA LL) rfl (hPr.out.alloc _) ⟨w9.heap.size, 0, none⟩ 1 1 [.int .i64 x.fr, .bool x.kn, .int .i64 x.en.id.1, .int .i64 x.en.id.2, .int .i64 x.en.bal, .int .i64 x.en.st, .int .i64 x.en.k, .int .i64 x.en.key, .int .i64 x.en.v, .int .i64 x.en.seq, .slice ua un uc] rfl rfl ?fc1 ?fc2 ?fc3 ?fc4 ?fc5 ?_))
          try (case fc1 => exact elev_srcA _ _ _ _ _ _ _ _ _ _ _ _ _ _ (by simp))
          case fc2 => first | exact ⟨rfl, rfl, rfl, rfl, rfl, rfl, rfl, rfl, rfl, rfl, rfl⟩ | (intro q hq; simp at hq; rcases hq with rfl | rfl | rfl | rfl | rfl | rfl | rfl | rfl | rfl | rfl | rfl <;> rfl)
          case fc3 => unfold maxLen; omega
          case fc4 => omega
          case fc5 => first | omega | (simp; omega)
          intro v' w' hown' hgrow hnil hat
          have E6 := Lib.hid (E5.out.put (x := (x, .slice ua un uc)) hown' hgrow (fun e => hnil e) (hat.imp (fun h => h) (fun h => by simpa using h)) hx9.out)
          have B6 := Lib.hid (E5.out.grown hgrow hsz)
          have R6 := Lib.hid (T.out.rd.kept ⟨B6.out.os, B6.out.tape, B6.out.output, B6.out.size, fun k hk => B6.out.block k (by omega)⟩)
          have K6 := Lib.hid (T.out.kp.trans (Keep.of_below B6.out))
          clear hown' hgrow hnil hat hPr hx9 y0 y1 y2 y3 y4 y5 y6 y7 y8 y9 y10 f0 f1 f2 f3 f4 f5 f6 f7 f8 f9 f10 yl E5 T B6
          go_wp2_with fail
          go_roundw
          case rel => exact ⟨k + 1, LL ++ [(x, .slice ua un uc)], by omega, by go_num, Lib.hid (by rw [List.length_append]; simp; omega), E6, Lib.hid (R6.out.more (by omega)), K6⟩
          case measure => simp [intOf]; omega
        · obtain rfl : t = 0 := by omega
          have E6 := Lib.hid (T.out.ar _ (fun _ _ _ => rfl))
          have R6 := Lib.hid T.out.rd
          have K6 := Lib.hid T.out.kp
          clear T
          go_wp2_with fail
          go_roundw
          case rel => exact ⟨k + 1, LL, by omega, by go_num, Lib.hid (by omega), E6, Lib.hid (R6.out.more (by omega)), K6⟩
          case measure => simp [intOf]; omega
    · obtain rfl : k = nn := by omega
      have AN := Lib.hid (hER.out.anow (by omega))
      have hl5 : (LL.map Prod.fst).length ≤ 5 := by rw [List.length_map]; omega
      obtain ⟨l, hl⟩ : ∃ l, Hid (LL.length = l) := ⟨_, Lib.hid rfl⟩
      have hlm : (LL.map Prod.fst).length = l := by rw [List.length_map]; exact hl.out
      rw [hl.out] at hLk AN ⊢
      obtain ⟨L, hL⟩ : ∃ L, Hid (LL.map Prod.fst = L) := ⟨_, Lib.hid rfl⟩
      rw [hL.out] at AN hl5 hlm
      have hRd := Lib.hid hRd.out
      clear hER hl hL
      by_cases h0 : l = 0
      · subst h0
        have hcp : ¬ (0 : Int) < ((0 : Nat) : Int) := by omega
        go_upto_region 20 with fail
        have Z9 := Lib.hid ((hKp.out.block w.heap.size (by omega) (by omega)).trans Z.out)
        have I9 := Lib.hid ((hKp.out.block ab (by omega) (by omega)).trans AI.out)
        have hKf := Lib.hid (K2.out.trans (hKp.out.mono (by omega)))
        obtain ⟨x0, x1, _, _⟩ := blk2 Z9.out
        obtain ⟨i0', i1', _, _⟩ := blk2 I9.out
        have xf0 := nine_free Z9.out 0
        have xf1 := nine_free Z9.out 1
        have xl := lt_of_heap Z9.out
        have il := lt_of_heap I9.out
        go_region
        all_goals
          have P9 := Lib.hid (put2_atK (.int .i64 0) (.int .i64 (1 + t)) Z9.out)
          go_wp2_with fail
          refine bodyPost_ret (en_resKn _ _ _ _ _ _ _ _ rfl rfl rfl P9.out) rfl ⟨⟨_, 0, 1 + t, .slice (some ⟨vg, 0, none⟩) 0 vc, L, rfl, ?_, hl5⟩, ?_⟩
          · refine AnOw.same (w := _) ((AN.out.same (fun b h1 h2 => ?_)).wide (B' := w.heap.size) (by omega)) (fun b h1 h2 => rfl)
            exact (heap_setCell_other _ _ _ _ (show b ≠ w.heap.size by omega)).trans (heap_setCell_other _ _ _ _ (show b ≠ w.heap.size by omega))
          · exact ((hKf.out.setCell (p := ⟨w.heap.size, 0, none⟩) (Nat.le_refl _) _).setCell (p := ⟨w.heap.size, 1, none⟩) (Nat.le_refl _) _).drewK
      · have hcp : (0 : Int) < (l : Int) := by omega
        go_wp2_with fail
        refine (pick_any 24 r _ _ hRd.out (by omega)).mono ?_
        rintro e w5 ⟨q, rfl, q0, q1', hr', hk'⟩
        have AN5 := Lib.hid (AN.out.same (fun b h1 h2 => hk'.block b h2 (by omega)))
        have hKp5 := Lib.hid (hKp.out.trans (hk'.mono (by omega)))
        have hRd5 := Lib.hid hr'
        have hs5 : B ≤ w5.heap.size := by have := hk'.size; omega
        clear q1' hr' hk' AN hRd hKp
        by_cases hq : q = 0
        · subst hq
          go_wp2_with fail
          refine (pick_any (l : Int) r _ _ hRd5.out (by omega)).mono ?_
          rintro e w6 ⟨i1, rfl, i10, i11', hr', hk'⟩
          have i11 := i11' (by omega)
          obtain ⟨in1, hin1⟩ : ∃ jn : Nat, i1 = jn := ⟨i1.toNat, by omega⟩
          subst hin1
          have AN6 := Lib.hid (AN5.out.same (fun b h1 h2 => hk'.block b h2 (by omega)))
          have hKp6 := Lib.hid (hKp5.out.trans (hk'.mono (by omega)))
          have hRd6 := Lib.hid (hr'.alloc (.cells #[.int .i64 (-1), .int .i64 5, .int .i64 0] 3))
          have hs6 : B ≤ w6.heap.size := by have := hk'.size; omega
          have LT := Lib.hid (heap_alloc_new w6 (.cells #[.int .i64 (-1), .int .i64 5, .int .i64 0] 3))
          have hlL := lt_of_heap LT.out
          clear i11' hr' hk' AN5 hRd5 hKp5
          go_wp2_with fail
          refine (pick_any 3 r _ _ hRd6.out (by omega)).mono ?_
          rintro e w7 ⟨i2, rfl, i20, i21', hr', hk'⟩
          have i21 := i21' (by omega)
          obtain ⟨in2, hin2⟩ : ∃ jn : Nat, i2 = jn := ⟨i2.toNat, by omega⟩
          subst hin2
          have LT7 := (hk'.block w6.heap.size hlL (by omega)).trans LT.out
          have lit : ∃ mv : Int, w7.cell? ⟨w6.heap.size, in2, none⟩ = some (.int .i64 mv) := by
            rcases (show in2 = 0 ∨ in2 = 1 ∨ in2 = 2 by omega) with rfl | rfl | rfl
            · exact ⟨-1, by rw [cell_of_cells LT7]; rfl⟩
            · exact ⟨5, by rw [cell_of_cells LT7]; rfl⟩
            · exact ⟨0, by rw [cell_of_cells LT7]; rfl⟩
          obtain ⟨mz, lit⟩ := lit
          have BL := (Below.refl w6.heap.size w6).alloc (Nat.le_refl _) (.cells #[.int .i64 (-1), .int .i64 5, .int .i64 0] 3)
          have hbs := BL.size
          have AN7 := Lib.hid ((AN6.out.same (fun b h1 h2 => BL.block b h2)).same (fun b h1 h2 => hk'.block b h2 (by omega)))
          have hKp7 := Lib.hid ((hKp6.out.trans (Keep.of_below (BL.mono hs6))).trans (hk'.mono (by omega)))
          have hinL : in1 < L.length := by omega
          obtain ⟨⟨yv, yc⟩, yf, yB, yl⟩ := AN7.out.cell hinL
          obtain ⟨L2, AN8, hL2⟩ := AN7.out.setFr hinL mz
          have AN8 := Lib.hid AN8
          have hKp8 := Lib.hid (hKp7.out.setCell (p := ⟨vg, in1 * 11, none⟩) yB (.int .i64 mz))
          clear BL LT7 LT i21' hr' hk' AN6 hKp6 AN7 hKp7 hRd6
          go_upto_region 20 with fail
          clear lit yc yf yl i20 i21 i10 i11
          generalize w7.setCell ⟨vg, in1 * 11, none⟩ (.int .i64 mz) = w8' at AN8 hKp8 ⊢
          have hl52 : L2.length ≤ 5 := by omega
          have Z9 := Lib.hid ((hKp8.out.block w.heap.size (by omega) (by omega)).trans Z.out)
          have I9 := Lib.hid ((hKp8.out.block ab (by omega) (by omega)).trans AI.out)
          have hKf := Lib.hid (K2.out.trans (hKp8.out.mono (by omega)))
          obtain ⟨x0, x1, _, _⟩ := blk2 Z9.out
          obtain ⟨i0', i1', _, _⟩ := blk2 I9.out
          have xf0 := nine_free Z9.out 0
          have xf1 := nine_free Z9.out 1
          have xl := lt_of_heap Z9.out
          have il := lt_of_heap I9.out
          go_region
          all_goals
            have P9 := Lib.hid (put2_atK (.int .i64 0) (.int .i64 (1 + t)) Z9.out)
            go_wp2_with fail
            refine bodyPost_ret (en_resKn _ _ _ _ _ _ _ _ rfl rfl rfl P9.out) rfl ⟨⟨_, 0, 1 + t, .slice (some ⟨vg, 0, none⟩) l vc, L2, rfl, ?_, hl52⟩, ?_⟩
            · refine AnOw.same (w := _) ((AN8.out.same (fun b h1 h2 => ?_)).wide (B' := w.heap.size) (by omega)) (fun b h1 h2 => rfl)
              exact (heap_setCell_other _ _ _ _ (show b ≠ w.heap.size by omega)).trans (heap_setCell_other _ _ _ _ (show b ≠ w.heap.size by omega))
            · exact ((hKf.out.setCell (p := ⟨w.heap.size, 0, none⟩) (Nat.le_refl _) _).setCell (p := ⟨w.heap.size, 1, none⟩) (Nat.le_refl _) _).drewK
        · have hqb : (q == 0) = false := by simpa using hq
          go_upto_region 20 with fail
          have Z9 := Lib.hid ((hKp5.out.block w.heap.size (by omega) (by omega)).trans Z.out)
          have I9 := Lib.hid ((hKp5.out.block ab (by omega) (by omega)).trans AI.out)
          have hKf := Lib.hid (K2.out.trans (hKp5.out.mono (by omega)))
          obtain ⟨x0, x1, _, _⟩ := blk2 Z9.out
          obtain ⟨i0', i1', _, _⟩ := blk2 I9.out
          have xf0 := nine_free Z9.out 0
          have xf1 := nine_free Z9.out 1
          have xl := lt_of_heap Z9.out
          have il := lt_of_heap I9.out
          go_region
          all_goals
            have P9 := Lib.hid (put2_atK (.int .i64 0) (.int .i64 (1 + t)) Z9.out)
            go_wp2_with fail
            refine bodyPost_ret (en_resKn _ _ _ _ _ _ _ _ rfl rfl rfl P9.out) rfl ⟨⟨_, 0, 1 + t, .slice (some ⟨vg, 0, none⟩) l vc, L, rfl, ?_, hl5⟩, ?_⟩
            · refine AnOw.same (w := _) ((AN5.out.same (fun b h1 h2 => ?_)).wide (B' := w.heap.size) (by omega)) (fun b h1 h2 => rfl)
              exact (heap_setCell_other _ _ _ _ (show b ≠ w.heap.size by omega)).trans (heap_setCell_other _ _ _ _ (show b ≠ w.heap.size by omega))
            · exact ((hKf.out.setCell (p := ⟨w.heap.size, 0, none⟩) (Nat.le_refl _) _).setCell (p := ⟨w.heap.size, 1, none⟩) (Nat.le_refl _) _).drewK
theorem en_resDav (tm : Array Value) (w : World) (b : Nat) (v v' x0 x1 : Value) (t : TypeId) (h1 : tm[2]? = some v) (h2 : tm[3]? = some (.pointer (some ⟨b, 0, none⟩))) (h3 : tm[4]? = some v') (h : w.heap[b]? = some (.cells #[x0, x1] t (0, 0))) :
    (results Try.f5 tm).run Try.prog w = .ok (.tuple #[v, .agg #[x0, x1], v']) w := by
  obtain ⟨t0, t1, _, _⟩ := blk2 h
  simp [results, Try.results5, go_sem, h1, h2, h3, t0, t1]
theorem AnOw.at_ {w : World} {B : Nat} {v : Value} {L : List An} (h : AnOw w B v L) : ∃ g c U, v = .slice (some ⟨g, 0, none⟩) L.length c ∧ L.length ≤ c ∧ AnsAt w g 0 L U := by
  obtain ⟨g, cap, cur, t, rfl, _, hg, h1, h2, h3⟩ := h
  have h' : ∀ i, ∃ u, i < L.length → (∀ j, j < 11 → cur[i * 11 + j]? = (acell (L.getD i an0, u))[j]?) ∧ Ids w u (L.getD i an0).en.deps := fun i => by
    by_cases hi : i < L.length
    · obtain ⟨u, hc, hd⟩ := h3 i hi
      refine ⟨u, fun _ => ⟨hc, ?_⟩⟩
      rcases hd with ⟨rfl, e⟩ | ⟨b, _, _, hO⟩
      · rw [e]; exact ⟨none, 0, rfl, Nat.le_refl _, Nat.zero_le _, .inl rfl⟩
      · exact hO.read
    · exact ⟨.slice none 0 0, fun hh => absurd hh hi⟩
  refine ⟨g, cap, fun i => Classical.choose (h' i), rfl, h1, lt_of_heap hg, fun i hi => ?_⟩
  obtain ⟨hc, hI⟩ := Classical.choose_spec (h' i) hi
  exact anc_at hg hc hI
/-- What DrawAnswersValid leaves. -/
def DavP (w : World) (e : Ending) (w' : World) : Prop :=
  (∃ (n x y : Int) (v : Value) (L : List An), e = .returned (.tuple #[.int .i64 n, .agg #[.int .i64 x, .int .i64 y], v]) ∧ AnOw w' w.heap.size v L ∧ L.length ≤ 5) ∧ Below w.heap.size w w'
set_option maxRecDepth 100000 in
set_option maxHeartbeats 4000000 in
theorem dav_any (a : Option Addr) (len cap : Nat) (w : World) (hc : CodeIn w a len cap) (hcap : cap ≤ maxLen) :
    Calls Try.prog 5 #[.slice a len cap] w (DavP w) := by
  have al := (Below.refl w.heap.size w).alloc (Nat.le_refl _) (.cells #[.int .i64 0, .int .i64 0] 24)
  have hc := Lib.hid (hc.up al)
  have al := Lib.hid al
  have A := Lib.hid (heap_alloc_new w (.cells #[.int .i64 0, .int .i64 0] 24))
  go_enter Try.func5, Try.ntmps5
  go_wp2_with fail
  refine (open_any a len cap _ hc.out hcap).mono ?_
  rintro e w1 ⟨r, rfl, hr0, hr', hb'⟩
  have s1 : w.heap.size + 1 ≤ w1.heap.size := by simpa using hb'.size
  have hr0' : w.heap.size + 1 ≤ r := by simpa using hr0
  replace A := Lib.hid ((hb'.block w.heap.size (by simp)).trans A.out)
  have D1 : Hid (Below w.heap.size w w1) := Lib.hid (al.out.trans (hb'.mono (by simp)))
  have hrl := hr'.lt
  have hr1 := Lib.hid hr'
  clear hr' hb' hc al hr0
  go_wp2_with fail
  refine (known_any r _ hr1.out).mono ?_
  rintro e w2 ⟨⟨n, x, y, v, L, rfl, AN, hl⟩, hk⟩
  replace A := Lib.hid ((hk.block w.heap.size (by omega) (by omega)).trans A.out)
  obtain ⟨g, cap', hv⟩ := AN.len
  subst hv
  have AN := Lib.hid AN
  have D2 := Lib.hid (D1.out.trans ((hk.mono (by omega)).below (by omega)))
  obtain ⟨x0, x1, _, _⟩ := blk2 A.out
  have xf0 := nine_free A.out 0
  have xf1 := nine_free A.out 1
  have xl := lt_of_heap A.out
  clear hk hr1
  go_wp2_with fail
  refine bodyPost_ret (en_resDav _ _ _ _ _ _ _ _ rfl rfl rfl (put2_atK (.int .i64 x) (.int .i64 y) A.out)) rfl ⟨⟨n, x, y, .slice (some ⟨g, 0, none⟩) L.length cap', L, rfl, ?_, hl⟩, ?_⟩
  · refine AnOw.wide (B := w1.heap.size) (AN.out.same (fun b h1 h2 => ?_)) (by omega)
    exact (heap_setCell_other _ _ _ _ (show b ≠ w.heap.size by omega)).trans (heap_setCell_other _ _ _ _ (show b ≠ w.heap.size by omega))
  · exact (D2.out.setCell (p := ⟨w.heap.size, 0, none⟩) (Nat.le_refl _) _).setCell (p := ⟨w.heap.size, 1, none⟩) (Nat.le_refl _) _
end Go.Proofs.Ytblkpkjgmjnimaa
