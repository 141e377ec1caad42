/- Texts laid together. -/
import Derived.Test.YtfcjhojkfchccaaDoorC01
import Derived.Test.YtfcjhojkfchccaaDoorC04
import Derived.Deep.RegionWith
import Derived.Maps.AppendAt
import Derived.Test.YtfcjhojkfchccaaDoorC12
/- Nine cells stored, one after the other. -/
namespace Go.Proofs.YtfcjhojkfchccaaDoor
open Go.RowKit
set_option linter.unusedVariables false

theorem put9_at {w : World} {b : Nat} {t : TypeId} {y0 y1 y2 y3 y4 y5 y6 y7 y8 : Value} (x0 x1 x2 x3 x4 x5 x6 x7 x8 : Value) (h : w.heap[b]? = some (.cells #[y0, y1, y2, y3, y4, y5, y6, y7, y8] t (0, 0))) :
    (((((((((w.setCell ⟨b, 0, none⟩ x0).setCell ⟨b, 1, none⟩ x1).setCell ⟨b, 2, none⟩ x2).setCell ⟨b, 3, none⟩ x3).setCell ⟨b, 4, none⟩ x4).setCell ⟨b, 5, none⟩ x5).setCell ⟨b, 6, none⟩ x6).setCell ⟨b, 7, none⟩ x7).setCell ⟨b, 8, none⟩ x8).heap[b]? = some (.cells #[x0, x1, x2, x3, x4, x5, x6, x7, x8] t (0, 0)) := by
  have e := heap_setCell_same _ b 8 _ _ x8 (heap_setCell_same _ b 7 _ _ x7 (heap_setCell_same _ b 6 _ _ x6 (heap_setCell_same _ b 5 _ _ x5 (heap_setCell_same _ b 4 _ _ x4 (heap_setCell_same _ b 3 _ _ x3 (heap_setCell_same _ b 2 _ _ x2 (heap_setCell_same _ b 1 _ _ x1 (heap_setCell_same _ b 0 _ _ x0 (h)))))))))
  simp only [List.setIfInBounds_toArray, List.set_cons_zero, List.set_cons_succ] at e
  exact e
theorem put9_other {w : World} {b c : Nat} (x0 x1 x2 x3 x4 x5 x6 x7 x8 : Value) (h : c ≠ b) :
    (((((((((w.setCell ⟨b, 0, none⟩ x0).setCell ⟨b, 1, none⟩ x1).setCell ⟨b, 2, none⟩ x2).setCell ⟨b, 3, none⟩ x3).setCell ⟨b, 4, none⟩ x4).setCell ⟨b, 5, none⟩ x5).setCell ⟨b, 6, none⟩ x6).setCell ⟨b, 7, none⟩ x7).setCell ⟨b, 8, none⟩ x8).heap[c]? = w.heap[c]? := by
  rw [heap_setCell_other _ _ _ _ h, heap_setCell_other _ _ _ _ h, heap_setCell_other _ _ _ _ h, heap_setCell_other _ _ _ _ h, heap_setCell_other _ _ _ _ h, heap_setCell_other _ _ _ _ h, heap_setCell_other _ _ _ _ h, heap_setCell_other _ _ _ _ h, heap_setCell_other _ _ _ _ h]
theorem put9_below {w : World} {b B : Nat} (x0 x1 x2 x3 x4 x5 x6 x7 x8 : Value) (h : B ≤ b) :
    Below B w (((((((((w.setCell ⟨b, 0, none⟩ x0).setCell ⟨b, 1, none⟩ x1).setCell ⟨b, 2, none⟩ x2).setCell ⟨b, 3, none⟩ x3).setCell ⟨b, 4, none⟩ x4).setCell ⟨b, 5, none⟩ x5).setCell ⟨b, 6, none⟩ x6).setCell ⟨b, 7, none⟩ x7).setCell ⟨b, 8, none⟩ x8) :=
  (((((((((Below.refl B w).setCell (p := ⟨b, 0, none⟩) h x0).setCell (p := ⟨b, 1, none⟩) h x1).setCell (p := ⟨b, 2, none⟩) h x2).setCell (p := ⟨b, 3, none⟩) h x3).setCell (p := ⟨b, 4, none⟩) h x4).setCell (p := ⟨b, 5, none⟩) h x5).setCell (p := ⟨b, 6, none⟩) h x6).setCell (p := ⟨b, 7, none⟩) h x7).setCell (p := ⟨b, 8, none⟩) h x8
theorem nine_all {w : World} {b : Nat} {x0 x1 x2 x3 x4 x5 x6 x7 x8 : Value} {t : TypeId} (h : w.heap[b]? = some (.cells #[x0, x1, x2, x3, x4, x5, x6, x7, x8] t (0, 0))) :
    (w.cell? ⟨b, 0, none⟩ = some x0 ∧ w.cell? ⟨b, 1, none⟩ = some x1 ∧ w.cell? ⟨b, 2, none⟩ = some x2 ∧ w.cell? ⟨b, 3, none⟩ = some x3 ∧ w.cell? ⟨b, 4, none⟩ = some x4 ∧ w.cell? ⟨b, 5, none⟩ = some x5 ∧ w.cell? ⟨b, 6, none⟩ = some x6 ∧ w.cell? ⟨b, 7, none⟩ = some x7 ∧ w.cell? ⟨b, 8, none⟩ = some x8) ∧ (w.frozen? ⟨b, 0, none⟩ = false ∧ w.frozen? ⟨b, 1, none⟩ = false ∧ w.frozen? ⟨b, 2, none⟩ = false ∧ w.frozen? ⟨b, 3, none⟩ = false ∧ w.frozen? ⟨b, 4, none⟩ = false ∧ w.frozen? ⟨b, 5, none⟩ = false ∧ w.frozen? ⟨b, 6, none⟩ = false ∧ w.frozen? ⟨b, 7, none⟩ = false ∧ w.frozen? ⟨b, 8, none⟩ = false) ∧ b < w.heap.size :=
  ⟨nine_cells h, ⟨nine_free h 0, nine_free h 1, nine_free h 2, nine_free h 3, nine_free h 4, nine_free h 5, nine_free h 6, nine_free h 7, nine_free h 8⟩, lt_of_heap h⟩
end Go.Proofs.YtfcjhojkfchccaaDoor

/- The model's l11Copy. -/
namespace Go.Proofs.YtfcjhojkfchccaaDoor
open Go.RowKit
set_option linter.unusedVariables false

theorem en_resC (tm : Array Value) (w : World) (b : Nat) (x0 x1 x2 x3 x4 x5 x6 x7 x8 : Value) (t : TypeId) (h2 : tm[2]? = some (.pointer (some ⟨b, 0, none⟩))) (h : w.heap[b]? = some (.cells #[x0, x1, x2, x3, x4, x5, x6, x7, x8] t (0, 0))) :
    (results Tryd.f36 tm).run Tryd.prog w = .ok (.agg #[x0, x1, x2, x3, x4, x5, x6, x7, x8]) w := by
  obtain ⟨t0, t1, t2, t3, t4, t5, t6, t7, t8⟩ := nine_cells h
  simp [results, Tryd.results36, go_sem, h2, t0, t1, t2, t3, t4, t5, t6, t7, t8]
theorem three_a (w : World) (o1 o2 o3 : Obj) : (((w.alloc o1).alloc o2).alloc o3).heap[w.heap.size]? = some o1 :=
  (Below.heap_alloc _ _ w.heap.size (by simp; omega)).trans ((Below.heap_alloc _ _ w.heap.size (by simp)).trans (heap_alloc_new w o1))
theorem three_b (w : World) (o1 o2 o3 : Obj) : (((w.alloc o1).alloc o2).alloc o3).heap[w.heap.size + 1]? = some o2 :=
  (Below.heap_alloc _ _ (w.heap.size + 1) (by simp)).trans (heap_alloc_at (w.alloc o1) o2 (w.heap.size + 1) (by simp))
theorem row_same {w w' : World} {B C : Nat} {v : Value} {O : List Pid} (h : Row w B v O) (hC : C ≤ B) (hs : ∀ k, B ≤ k → w'.heap[k]? = w.heap[k]?) : Row w' C v O := by
  obtain ⟨⟨h1, h2⟩, h3⟩ := h
  refine ⟨⟨h1, ?_⟩, h3⟩
  rcases h2 with hn | ⟨g, cap, cur, rfl, hb, hg, rest⟩
  · exact .inl hn
  · exact .inr ⟨g, cap, cur, rfl, Nat.le_trans hC hb, (hs g hb).trans hg, rest⟩
theorem flatc_src {w : World} {b off : Nat} {C : List Pid} (h : ∀ i, i < C.length → w.cell? ⟨b, off + i * 2, none⟩ = some (.int .i64 (C.getD i nop).1) ∧ w.cell? ⟨b, off + i * 2 + 1, none⟩ = some (.int .i64 (C.getD i nop).2)) :
    ∀ j u, (flatP C)[j]? = some u → w.cell? (Addr.add ⟨b, off, none⟩ j) = some u := by
  intro j u hj
  have hl : j < C.length * 2 := by
    have := (List.getElem?_eq_some_iff.1 hj).1
    rw [flatP_len] at this; exact this
  have hk : j / 2 < C.length := by omega
  obtain ⟨g0, g1⟩ := flatP_get C (j / 2) hk
  obtain ⟨c0, c1⟩ := h (j / 2) hk
  have ha : (⟨b, off, none⟩ : Addr).add j = ⟨b, off + j, none⟩ := by simp [Addr.add]
  rw [ha]
  rcases (show j = j / 2 * 2 ∨ j = j / 2 * 2 + 1 by omega) with e | e
  · rw [← e] at g0 c0
    rw [hj] at g0
    rw [g0]; exact c0
  · rw [← e] at g1
    rw [hj] at g1
    rw [Nat.add_assoc, ← e] at c1
    rw [g1]; exact c1

set_option maxRecDepth 100000 in
set_option maxHeartbeats 2000000 in
/-- A copy of an entry: its list lies in a row of its own, behind what was there. -/
theorem copy_at (p q bal st k key v seq : Int) (D : List Pid) (u : Value) (w : World) (h : Ids w u D) :
    Calls Tryd.prog 36 #[.agg #[.int .i64 p, .int .i64 q, .int .i64 bal, .int .i64 st, .int .i64 k, .int .i64 key, .int .i64 v, .int .i64 seq, u]] w fun r w' => (∃ u', r = .returned (.agg #[.int .i64 p, .int .i64 q, .int .i64 bal, .int .i64 st, .int .i64 k, .int .i64 key, .int .i64 v, .int .i64 seq, u']) ∧ Row w' w.heap.size u' D) ∧ Below w.heap.size w w' := by
  obtain ⟨i0, hi, hz0, hz1, hz2⟩ := info_parts infoP
  obtain ⟨a, cap, rfl, hc, hm, h⟩ := h
  go_enter Tryd.func36, Tryd.ntmps36
  rcases a with _ | ⟨b, off, sub⟩
  · obtain rfl : D = [] := by
      rcases h with h | ⟨_, _, h, _⟩
      · exact List.length_eq_zero_iff.1 h
      · cases h
    clear h hc hm
    have hR := row_new ((w.alloc (.cells #[.int .i64 p, .int .i64 q, .int .i64 bal, .int .i64 st, .int .i64 k, .int .i64 key, .int .i64 v, .int .i64 seq, .slice (some ⟨w.heap.size + 1 + 1, 0, none⟩) 0 0] 29)).alloc (.cells #[.int .i64 p, .int .i64 q, .int .i64 bal, .int .i64 st, .int .i64 k, .int .i64 key, .int .i64 v, .int .i64 seq, .slice (some ⟨w.heap.size + 1 + 1, 0, none⟩) 0 0] 29)) w.heap.size (by simp; omega)
    have B0 : Below w.heap.size w (((w.alloc (.cells #[.int .i64 p, .int .i64 q, .int .i64 bal, .int .i64 st, .int .i64 k, .int .i64 key, .int .i64 v, .int .i64 seq, .slice (some ⟨w.heap.size + 1 + 1, 0, none⟩) 0 0] 29)).alloc (.cells #[.int .i64 p, .int .i64 q, .int .i64 bal, .int .i64 st, .int .i64 k, .int .i64 key, .int .i64 v, .int .i64 seq, .slice (some ⟨w.heap.size + 1 + 1, 0, none⟩) 0 0] 29)).alloc (.cells #[] 24)) := (((Below.refl _ _).alloc (Nat.le_refl _) _).alloc (by simp) _).alloc (by simp; omega) _
    have e0 : ((w.alloc (.cells #[.int .i64 p, .int .i64 q, .int .i64 bal, .int .i64 st, .int .i64 k, .int .i64 key, .int .i64 v, .int .i64 seq, .slice (some ⟨w.heap.size + 1 + 1, 0, none⟩) 0 0] 29)).alloc (.cells #[.int .i64 p, .int .i64 q, .int .i64 bal, .int .i64 st, .int .i64 k, .int .i64 key, .int .i64 v, .int .i64 seq, .slice (some ⟨w.heap.size + 1 + 1, 0, none⟩) 0 0] 29)).heap.size = w.heap.size + 1 + 1 := by simp
    have hA : (((w.alloc (.cells #[.int .i64 p, .int .i64 q, .int .i64 bal, .int .i64 st, .int .i64 k, .int .i64 key, .int .i64 v, .int .i64 seq, .slice (some ⟨w.heap.size + 1 + 1, 0, none⟩) 0 0] 29)).alloc (.cells #[.int .i64 p, .int .i64 q, .int .i64 bal, .int .i64 st, .int .i64 k, .int .i64 key, .int .i64 v, .int .i64 seq, .slice (some ⟨w.heap.size + 1 + 1, 0, none⟩) 0 0] 29)).alloc (.cells #[] 24)).heap[w.heap.size + 1]? = some (.cells #[.int .i64 p, .int .i64 q, .int .i64 bal, .int .i64 st, .int .i64 k, .int .i64 key, .int .i64 v, .int .i64 seq, .slice (some ⟨w.heap.size + 1 + 1, 0, none⟩) 0 0] 29 (0, 0)) := three_b _ _ _ _
    rw [e0] at hR
    have hR := Lib.hid hR
    have B0 := Lib.hid B0
    have hA := Lib.hid hA
    clear e0
    go_wp2_with fail
    exact bodyPost_ret (en_resC _ _ _ _ _ _ _ _ _ _ _ _ _ rfl hA.out) rfl ⟨⟨_, rfl, hR.out⟩, B0.out⟩
  · have hs : ∀ j u, (flatP D)[j]? = some u → b < w.heap.size ∧ w.cell? (Addr.add ⟨b, off, sub⟩ j) = some u := by
      rcases h with h | ⟨b', off', e, hb, h⟩
      · obtain rfl := List.length_eq_zero_iff.1 h
        intro j u hj
        simp [flatP] at hj
      · cases e
        exact fun j u hj => ⟨hb, flatc_src h j u hj⟩
    have hs := Lib.hid hs
    obtain ⟨n, hn⟩ : ∃ n, Hid (D.length = n) := ⟨_, Lib.hid rfl⟩
    rw [hn.out] at hc hm ⊢
    clear h
    have hR := row_new ((w.alloc (.cells #[.int .i64 p, .int .i64 q, .int .i64 bal, .int .i64 st, .int .i64 k, .int .i64 key, .int .i64 v, .int .i64 seq, .slice (some ⟨b, off, sub⟩) n cap] 29)).alloc (.cells #[.int .i64 0, .int .i64 0, .int .i64 0, .int .i64 0, .int .i64 0, .int .i64 0, .int .i64 0, .int .i64 0, .slice none 0 0] 29)) (w.heap.size + 1 + 1) (by simp)
    have e0 : ((w.alloc (.cells #[.int .i64 p, .int .i64 q, .int .i64 bal, .int .i64 st, .int .i64 k, .int .i64 key, .int .i64 v, .int .i64 seq, .slice (some ⟨b, off, sub⟩) n cap] 29)).alloc (.cells #[.int .i64 0, .int .i64 0, .int .i64 0, .int .i64 0, .int .i64 0, .int .i64 0, .int .i64 0, .int .i64 0, .slice none 0 0] 29)).heap.size = w.heap.size + 1 + 1 := by simp
    rw [e0] at hR
    have hR := Lib.hid hR
    have B0 := Lib.hid (show Below w.heap.size w (((w.alloc (.cells #[.int .i64 p, .int .i64 q, .int .i64 bal, .int .i64 st, .int .i64 k, .int .i64 key, .int .i64 v, .int .i64 seq, .slice (some ⟨b, off, sub⟩) n cap] 29)).alloc (.cells #[.int .i64 0, .int .i64 0, .int .i64 0, .int .i64 0, .int .i64 0, .int .i64 0, .int .i64 0, .int .i64 0, .slice none 0 0] 29)).alloc (.cells #[] 24)) from (((Below.refl _ _).alloc (Nat.le_refl _) _).alloc (by simp) _).alloc (by simp; omega) _)
    have A0 := Lib.hid (show (((w.alloc (.cells #[.int .i64 p, .int .i64 q, .int .i64 bal, .int .i64 st, .int .i64 k, .int .i64 key, .int .i64 v, .int .i64 seq, .slice (some ⟨b, off, sub⟩) n cap] 29)).alloc (.cells #[.int .i64 0, .int .i64 0, .int .i64 0, .int .i64 0, .int .i64 0, .int .i64 0, .int .i64 0, .int .i64 0, .slice none 0 0] 29)).alloc (.cells #[] 24)).heap[w.heap.size]? = some (.cells #[.int .i64 p, .int .i64 q, .int .i64 bal, .int .i64 st, .int .i64 k, .int .i64 key, .int .i64 v, .int .i64 seq, .slice (some ⟨b, off, sub⟩) n cap] 29 (0, 0)) from three_a _ _ _ _)
    have A1 := Lib.hid (show (((w.alloc (.cells #[.int .i64 p, .int .i64 q, .int .i64 bal, .int .i64 st, .int .i64 k, .int .i64 key, .int .i64 v, .int .i64 seq, .slice (some ⟨b, off, sub⟩) n cap] 29)).alloc (.cells #[.int .i64 0, .int .i64 0, .int .i64 0, .int .i64 0, .int .i64 0, .int .i64 0, .int .i64 0, .int .i64 0, .slice none 0 0] 29)).alloc (.cells #[] 24)).heap[w.heap.size + 1]? = some (.cells #[.int .i64 0, .int .i64 0, .int .i64 0, .int .i64 0, .int .i64 0, .int .i64 0, .int .i64 0, .int .i64 0, .slice none 0 0] 29 (0, 0)) from three_b _ _ _ _)
    clear e0
    go_wp2_with (at_builtin; go_loud (refine wpList_append_own_at _ rfl _ _ 27 rfl (w.heap.size + 1 + 1) 24 i0 (.agg #[.int .i64 0, .int .i64 0]) 2 16 Tryd.underlying27 hi hz0 hz1 hz2 rfl (by decide) _ _ _ rfl hR.out.1 ⟨b, off, sub⟩ n cap (flatP D) rfl ?gc0 ?gc1 ?gc2 ?gc3 ?gc4 ?gc5 ?_))
    case gc0 => rw [flatP_len, hn.out]
    case gc1 =>
      intro j u hj
      obtain ⟨hb, e⟩ := hs.out j u hj
      exact (B0.out.cell (p := Addr.add ⟨b, off, sub⟩ j) (by simp only [Addr.add]; split <;> exact hb)).trans e
    case gc2 => exact flatP_one _
    case gc3 => show (0 : Nat) + n ≤ maxLen; unfold maxLen; omega
    case gc4 => show ((0 : Nat) + n) * 16 ≤ _; omega
    case gc5 => simp
    intro v5 w5 hown' hgrow hnil hat
    have R5 : Row w5 (w.heap.size + 1 + 1) v5 D := ⟨by rw [hn.out]; simpa [flatP] using hown', fun e => hnil e⟩
    obtain ⟨g5, c5, rfl, hg1, hg2, _, _⟩ := R5.shape
    have b5 := grown_below hR.out hgrow (by simp)
    have o0 := Lib.hid ((b5.block w.heap.size (by omega)).trans A0.out)
    have o1 := Lib.hid ((b5.block (w.heap.size + 1) (by omega)).trans A1.out)
    have B5 := Lib.hid (B0.out.trans (b5.mono (by omega)))
    have R5 := Lib.hid R5
    clear hown' hgrow hnil hat b5 B0 A0 A1 hR hs hg1 hg2
    obtain ⟨⟨x0, x1, x2, x3, x4, x5, x6, x7, x8⟩, ⟨f0, f1, f2, f3, f4, f5, f6, f7, f8⟩, s0⟩ := nine_all o0.out
    obtain ⟨⟨y0, y1, y2, y3, y4, y5, y6, y7, y8⟩, ⟨g0, g1, g2, g3, g4, g5', g6, g7, g8⟩, s1⟩ := nine_all o1.out
    go_wp2_with fail
    have o8 := (heap_setCell_other w5 ⟨w.heap.size, 8, none⟩ (w.heap.size + 1) (.slice (some ⟨g5, 0, none⟩) D.length c5) (by first | (simp; done) | (simp; omega))).trans o1.out
    refine bodyPost_ret (en_resC _ _ _ _ _ _ _ _ _ _ _ _ _ rfl (put9_at (.int .i64 p) (.int .i64 q) (.int .i64 bal) (.int .i64 st) (.int .i64 k) (.int .i64 key) (.int .i64 v) (.int .i64 seq) (.slice (some ⟨g5, 0, none⟩) D.length c5) o8)) rfl ⟨⟨_, rfl, row_same R5.out (by omega) fun j hj => ?_⟩, ?_⟩
    · rw [put9_other _ _ _ _ _ _ _ _ _ (by omega : j ≠ w.heap.size + 1), heap_setCell_other _ _ _ _ (by show j ≠ w.heap.size; omega)]
    · exact (B5.out.setCell (p := ⟨w.heap.size, 8, none⟩) (Nat.le_refl _) _).trans (put9_below _ _ _ _ _ _ _ _ _ (Nat.le_succ _))
end Go.Proofs.YtfcjhojkfchccaaDoor

/- Values of what proposals have; stores of so many cells, one after the other. -/
namespace Go.Proofs.YtfcjhojkfchccaaDoor
open Go.RowKit
set_option linter.unusedVariables false

/-- A rank and a set. -/
def atV (r : Int) (g : Nat → Nat) : Value := .agg #[.int .i64 r, .int .u64 (g 0), .int .u64 (g 1), .int .u64 (g 2), .int .u64 (g 3), .int .u64 (g 4)]
/-- A proposal. -/
def prV (a : Pid) (bal k key v r : Int) (g : Nat → Nat) : Value := .agg #[.int .i64 a.1, .int .i64 a.2, .int .i64 bal, .int .i64 k, .int .i64 key, .int .i64 v, .int .i64 r, .int .u64 (g 0), .int .u64 (g 1), .int .u64 (g 2), .int .u64 (g 3), .int .u64 (g 4)]
theorem cell_set {W : World} {b c o o' : Nat} {v : Value} (u : Value) (hn : b ≠ c) (h : W.cell? ⟨b, o, none⟩ = some v) : (W.setCell ⟨c, o', none⟩ u).cell? ⟨b, o, none⟩ = some v :=
  (World.cell?_of_block (a := ⟨b, o, none⟩) (heap_setCell_other W ⟨c, o', none⟩ b u hn)).trans h
theorem bblk_d {w w' : World} {b : Nat} {o : Obj} (hb : Below w.drew.heap.size w.drew w') (hl : b < w.heap.size) (h : w.heap[b]? = some o) : w'.heap[b]? = some o := (hb.block b hl).trans h
theorem put6_at {w : World} {b : Nat} {t : TypeId} {y0 y1 y2 y3 y4 y5 : Value} (x0 x1 x2 x3 x4 x5 : Value) (h : w.heap[b]? = some (.cells #[y0, y1, y2, y3, y4, y5] t (0, 0))) :
    ((((((w.setCell ⟨b, 0, none⟩ x0).setCell ⟨b, 1, none⟩ x1).setCell ⟨b, 2, none⟩ x2).setCell ⟨b, 3, none⟩ x3).setCell ⟨b, 4, none⟩ x4).setCell ⟨b, 5, none⟩ x5).heap[b]? = some (.cells #[x0, x1, x2, x3, x4, x5] t (0, 0)) := by
  have e := heap_setCell_same _ b 5 _ _ x5 (heap_setCell_same _ b 4 _ _ x4 (heap_setCell_same _ b 3 _ _ x3 (heap_setCell_same _ b 2 _ _ x2 (heap_setCell_same _ b 1 _ _ x1 (heap_setCell_same _ b 0 _ _ x0 h)))))
  simp only [List.setIfInBounds_toArray, List.set_cons_zero, List.set_cons_succ] at e
  exact e
theorem put6_other {w : World} {b c : Nat} (x0 x1 x2 x3 x4 x5 : Value) (h : c ≠ b) : ((((((w.setCell ⟨b, 0, none⟩ x0).setCell ⟨b, 1, none⟩ x1).setCell ⟨b, 2, none⟩ x2).setCell ⟨b, 3, none⟩ x3).setCell ⟨b, 4, none⟩ x4).setCell ⟨b, 5, none⟩ x5).heap[c]? = w.heap[c]? := by
  rw [heap_setCell_other _ _ _ _ h, heap_setCell_other _ _ _ _ h, heap_setCell_other _ _ _ _ h, heap_setCell_other _ _ _ _ h, heap_setCell_other _ _ _ _ h, heap_setCell_other _ _ _ _ h]
theorem put6_below {w : World} {b B : Nat} (x0 x1 x2 x3 x4 x5 : Value) (h : B ≤ b) : Below B w ((((((w.setCell ⟨b, 0, none⟩ x0).setCell ⟨b, 1, none⟩ x1).setCell ⟨b, 2, none⟩ x2).setCell ⟨b, 3, none⟩ x3).setCell ⟨b, 4, none⟩ x4).setCell ⟨b, 5, none⟩ x5) :=
  ((((((Below.refl B w).setCell (p := ⟨b, 0, none⟩) h x0).setCell (p := ⟨b, 1, none⟩) h x1).setCell (p := ⟨b, 2, none⟩) h x2).setCell (p := ⟨b, 3, none⟩) h x3).setCell (p := ⟨b, 4, none⟩) h x4).setCell (p := ⟨b, 5, none⟩) h x5
theorem all6 {w : World} {b : Nat} {x0 x1 x2 x3 x4 x5 : Value} {t : TypeId} (h : w.heap[b]? = some (.cells #[x0, x1, x2, x3, x4, x5] t (0, 0))) :
    (w.cell? ⟨b, 0, none⟩ = some x0 ∧ w.cell? ⟨b, 1, none⟩ = some x1 ∧ w.cell? ⟨b, 2, none⟩ = some x2 ∧ w.cell? ⟨b, 3, none⟩ = some x3 ∧ w.cell? ⟨b, 4, none⟩ = some x4 ∧ w.cell? ⟨b, 5, none⟩ = some x5) ∧ (∀ m, w.frozen? ⟨b, m, none⟩ = false) ∧ b < w.heap.size := by
  refine ⟨?_, fun m => by simp [World.frozen?, h], lt_of_heap h⟩
  simp [World.cell?, h]
theorem put12_at {w : World} {b : Nat} {t : TypeId} {y0 y1 y2 y3 y4 y5 y6 y7 y8 y9 y10 y11 : Value} (x0 x1 x2 x3 x4 x5 x6 x7 x8 x9 x10 x11 : Value) (h : w.heap[b]? = some (.cells #[y0, y1, y2, y3, y4, y5, y6, y7, y8, y9, y10, y11] t (0, 0))) :
    ((((((((((((w.setCell ⟨b, 0, none⟩ x0).setCell ⟨b, 1, none⟩ x1).setCell ⟨b, 2, none⟩ x2).setCell ⟨b, 3, none⟩ x3).setCell ⟨b, 4, none⟩ x4).setCell ⟨b, 5, none⟩ x5).setCell ⟨b, 6, none⟩ x6).setCell ⟨b, 7, none⟩ x7).setCell ⟨b, 8, none⟩ x8).setCell ⟨b, 9, none⟩ x9).setCell ⟨b, 10, none⟩ x10).setCell ⟨b, 11, none⟩ x11).heap[b]? = some (.cells #[x0, x1, x2, x3, x4, x5, x6, x7, x8, x9, x10, x11] t (0, 0)) := by
  have e := heap_setCell_same _ b 11 _ _ x11 (heap_setCell_same _ b 10 _ _ x10 (heap_setCell_same _ b 9 _ _ x9 (heap_setCell_same _ b 8 _ _ x8 (heap_setCell_same _ b 7 _ _ x7 (heap_setCell_same _ b 6 _ _ x6 (heap_setCell_same _ b 5 _ _ x5 (heap_setCell_same _ b 4 _ _ x4 (heap_setCell_same _ b 3 _ _ x3 (heap_setCell_same _ b 2 _ _ x2 (heap_setCell_same _ b 1 _ _ x1 (heap_setCell_same _ b 0 _ _ x0 h)))))))))))
  simp only [List.setIfInBounds_toArray, List.set_cons_zero, List.set_cons_succ] at e
  exact e
theorem put12_other {w : World} {b c : Nat} (x0 x1 x2 x3 x4 x5 x6 x7 x8 x9 x10 x11 : Value) (h : c ≠ b) : ((((((((((((w.setCell ⟨b, 0, none⟩ x0).setCell ⟨b, 1, none⟩ x1).setCell ⟨b, 2, none⟩ x2).setCell ⟨b, 3, none⟩ x3).setCell ⟨b, 4, none⟩ x4).setCell ⟨b, 5, none⟩ x5).setCell ⟨b, 6, none⟩ x6).setCell ⟨b, 7, none⟩ x7).setCell ⟨b, 8, none⟩ x8).setCell ⟨b, 9, none⟩ x9).setCell ⟨b, 10, none⟩ x10).setCell ⟨b, 11, none⟩ x11).heap[c]? = w.heap[c]? := by
  rw [heap_setCell_other _ _ _ _ h, heap_setCell_other _ _ _ _ h, heap_setCell_other _ _ _ _ h, heap_setCell_other _ _ _ _ h, heap_setCell_other _ _ _ _ h, heap_setCell_other _ _ _ _ h, heap_setCell_other _ _ _ _ h, heap_setCell_other _ _ _ _ h, heap_setCell_other _ _ _ _ h, heap_setCell_other _ _ _ _ h, heap_setCell_other _ _ _ _ h, heap_setCell_other _ _ _ _ h]
theorem put12_below {w : World} {b B : Nat} (x0 x1 x2 x3 x4 x5 x6 x7 x8 x9 x10 x11 : Value) (h : B ≤ b) : Below B w ((((((((((((w.setCell ⟨b, 0, none⟩ x0).setCell ⟨b, 1, none⟩ x1).setCell ⟨b, 2, none⟩ x2).setCell ⟨b, 3, none⟩ x3).setCell ⟨b, 4, none⟩ x4).setCell ⟨b, 5, none⟩ x5).setCell ⟨b, 6, none⟩ x6).setCell ⟨b, 7, none⟩ x7).setCell ⟨b, 8, none⟩ x8).setCell ⟨b, 9, none⟩ x9).setCell ⟨b, 10, none⟩ x10).setCell ⟨b, 11, none⟩ x11) :=
  ((((((((((((Below.refl B w).setCell (p := ⟨b, 0, none⟩) h x0).setCell (p := ⟨b, 1, none⟩) h x1).setCell (p := ⟨b, 2, none⟩) h x2).setCell (p := ⟨b, 3, none⟩) h x3).setCell (p := ⟨b, 4, none⟩) h x4).setCell (p := ⟨b, 5, none⟩) h x5).setCell (p := ⟨b, 6, none⟩) h x6).setCell (p := ⟨b, 7, none⟩) h x7).setCell (p := ⟨b, 8, none⟩) h x8).setCell (p := ⟨b, 9, none⟩) h x9).setCell (p := ⟨b, 10, none⟩) h x10).setCell (p := ⟨b, 11, none⟩) h x11
theorem all12 {w : World} {b : Nat} {x0 x1 x2 x3 x4 x5 x6 x7 x8 x9 x10 x11 : Value} {t : TypeId} (h : w.heap[b]? = some (.cells #[x0, x1, x2, x3, x4, x5, x6, x7, x8, x9, x10, x11] t (0, 0))) :
    (w.cell? ⟨b, 0, none⟩ = some x0 ∧ w.cell? ⟨b, 1, none⟩ = some x1 ∧ w.cell? ⟨b, 2, none⟩ = some x2 ∧ w.cell? ⟨b, 3, none⟩ = some x3 ∧ w.cell? ⟨b, 4, none⟩ = some x4 ∧ w.cell? ⟨b, 5, none⟩ = some x5 ∧ w.cell? ⟨b, 6, none⟩ = some x6 ∧ w.cell? ⟨b, 7, none⟩ = some x7 ∧ w.cell? ⟨b, 8, none⟩ = some x8 ∧ w.cell? ⟨b, 9, none⟩ = some x9 ∧ w.cell? ⟨b, 10, none⟩ = some x10 ∧ w.cell? ⟨b, 11, none⟩ = some x11) ∧ (∀ m, w.frozen? ⟨b, m, none⟩ = false) ∧ b < w.heap.size := by
  refine ⟨?_, fun m => by simp [World.frozen?, h], lt_of_heap h⟩
  simp [World.cell?, h]
end Go.Proofs.YtfcjhojkfchccaaDoor
