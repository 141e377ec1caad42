/- Texts laid together. -/
import Derived.Test.YtfcjhojkfchccaaDoorC20
import Derived.Test.YtfcjhojkfchccaaDoorC13
import Derived.Test.YtfcjhojkfchccaaDoorC26
import Derived.Test.YtfcjhojkfchccaaDoorC28
import Derived.Test.YtfcjhojkfchccaaDoorC29
import Derived.Test.YtfcjhojkfchccaaDoorC09
/- poll.join. -/
namespace Go.Proofs.YtfcjhojkfchccaaDoor
open Go.RowKit
set_option linter.unusedVariables false

theorem put6b_at {w : World} {b : Nat} {t : TypeId} {y0 y1 y2 y3 y4 y5 y6 y7 y8 y9 y10 y11 : Value} (x6 x7 x8 x9 x10 x11 : Value) (h : w.heap[b]? = some (.cells #[y0, y1, y2, y3, y4, y5, y6, y7, y8, y9, y10, y11] t (0, 0))) :
    ((((((w.setCell ⟨b, 6, none⟩ x6).setCell ⟨b, 7, none⟩ x7).setCell ⟨b, 8, none⟩ x8).setCell ⟨b, 9, none⟩ x9).setCell ⟨b, 10, none⟩ x10).setCell ⟨b, 11, none⟩ x11).heap[b]? = some (.cells #[y0, y1, y2, y3, y4, y5, x6, x7, x8, x9, x10, x11] t (0, 0)) := by
  have e := heap_setCell_same _ b 11 _ _ x11 (heap_setCell_same _ b 10 _ _ x10 (heap_setCell_same _ b 9 _ _ x9 (heap_setCell_same _ b 8 _ _ x8 (heap_setCell_same _ b 7 _ _ x7 (heap_setCell_same _ b 6 _ _ x6 h)))))
  simp only [List.setIfInBounds_toArray, List.set_cons_zero, List.set_cons_succ] at e
  exact e
theorem put6b_other {w : World} {b c : Nat} (x6 x7 x8 x9 x10 x11 : Value) (h : c ≠ b) : ((((((w.setCell ⟨b, 6, none⟩ x6).setCell ⟨b, 7, none⟩ x7).setCell ⟨b, 8, none⟩ x8).setCell ⟨b, 9, none⟩ x9).setCell ⟨b, 10, none⟩ x10).setCell ⟨b, 11, none⟩ x11).heap[c]? = w.heap[c]? := by
  rw [heap_setCell_other _ _ _ _ h, heap_setCell_other _ _ _ _ h, heap_setCell_other _ _ _ _ h, heap_setCell_other _ _ _ _ h, heap_setCell_other _ _ _ _ h, heap_setCell_other _ _ _ _ h]
theorem put6b_below {w : World} {b B : Nat} (x6 x7 x8 x9 x10 x11 : Value) (h : B ≤ b) : Below B w ((((((w.setCell ⟨b, 6, none⟩ x6).setCell ⟨b, 7, none⟩ x7).setCell ⟨b, 8, none⟩ x8).setCell ⟨b, 9, none⟩ x9).setCell ⟨b, 10, none⟩ x10).setCell ⟨b, 11, none⟩ x11) :=
  ((((((Below.refl B w).setCell (p := ⟨b, 6, none⟩) h x6).setCell (p := ⟨b, 7, none⟩) h x7).setCell (p := ⟨b, 8, none⟩) h x8).setCell (p := ⟨b, 9, none⟩) h x9).setCell (p := ⟨b, 10, none⟩) h x10).setCell (p := ⟨b, 11, none⟩) h x11
theorem pl_resJ (tm : Array Value) (w : World) (b : Nat) (x0 x1 x2 x3 x4 x5 x6 x7 x8 x9 x10 x11 : Value) (t : TypeId) (h2 : tm[2]? = some (.pointer (some ⟨b, 0, none⟩))) (h : w.heap[b]? = some (.cells #[x0, x1, x2, x3, x4, x5, x6, x7, x8, x9, x10, x11] t (0, 0))) :
    (results Tryd.f32 tm).run Tryd.prog w = .ok (.agg #[x0, x1, x2, x3, x4, x5, x6, x7, x8, x9, x10, x11]) w := by
  obtain ⟨⟨t0, t1, t2, t3, t4, t5, t6, t7, t8, t9, t10, t11⟩, _, _⟩ := all12 h
  simp [results, Tryd.results32, go_sem, h2, t0, t1, t2, t3, t4, t5, t6, t7, t8, t9, t10, t11]
set_option maxRecDepth 100000 in
set_option maxHeartbeats 8000000 in
theorem ijoinpl_any (p : Pr) (u : Value) (P : List Pr) (w : World) (hu : Prs w u P) (hg : ∀ r, p.g r < 2251799813685248) (hgP : ∀ x ∈ P, ∀ r, x.g r < 2251799813685248) :
    Calls Tryd.prog 32 #[polV p u] w fun e w' => e = .returned (joinPs p P).val ∧ Below w.heap.size w w' := by
  obtain ⟨va, vc, rfl, h1, h2, h3⟩ := hu
  obtain ⟨n, hn⟩ : ∃ n, Hid (P.length = n) := ⟨_, Lib.hid rfl⟩
  rw [hn.out] at h1 h2 ⊢
  replace h3 := Lib.hid h3
  obtain ⟨J, hJ⟩ : ∃ J, Hid (joinPs p P = J) := ⟨_, Lib.hid rfl⟩
  rw [hJ.out]
  have hlt : Hid (∀ k, ∀ r, (joinPs p (P.take k)).g r < 2251799813685248) := Lib.hid (fun k => joinPs_lt _ p hg (fun x hx => hgP x (List.mem_of_mem_take hx)))
  have hgP := Lib.hid hgP
  unfold polV Pr.val prV
  have Z := Lib.hid (heap_alloc_at (w.alloc (.cells #[.int .i64 p.id.1, .int .i64 p.id.2, .int .i64 p.bal, .int .i64 p.k, .int .i64 p.key, .int .i64 p.v, .int .i64 p.r, .int .u64 (p.g 0), .int .u64 (p.g 1), .int .u64 (p.g 2), .int .u64 (p.g 3), .int .u64 (p.g 4), .slice va n vc] 70)) (.cells #[.int .i64 0, .int .i64 0, .int .i64 0, .int .i64 0, .int .i64 0, .int .i64 0, .int .i64 0, .int .u64 0, .int .u64 0, .int .u64 0, .int .u64 0, .int .u64 0] 67) (w.heap.size + 1) (by simp))
  have A := Lib.hid ((Below.heap_alloc _ (.cells #[.int .i64 0, .int .i64 0, .int .i64 0, .int .i64 0, .int .i64 0, .int .i64 0, .int .i64 0, .int .u64 0, .int .u64 0, .int .u64 0, .int .u64 0, .int .u64 0] 67) _ (by simp)).trans (heap_alloc_new w (.cells #[.int .i64 p.id.1, .int .i64 p.id.2, .int .i64 p.bal, .int .i64 p.k, .int .i64 p.key, .int .i64 p.v, .int .i64 p.r, .int .u64 (p.g 0), .int .u64 (p.g 1), .int .u64 (p.g 2), .int .u64 (p.g 3), .int .u64 (p.g 4), .slice va n vc] 70)))
  have D := Lib.hid (((Below.refl w.heap.size w).alloc (Nat.le_refl _) (.cells #[.int .i64 p.id.1, .int .i64 p.id.2, .int .i64 p.bal, .int .i64 p.k, .int .i64 p.key, .int .i64 p.v, .int .i64 p.r, .int .u64 (p.g 0), .int .u64 (p.g 1), .int .u64 (p.g 2), .int .u64 (p.g 3), .int .u64 (p.g 4), .slice va n vc] 70)).alloc (by simp) (.cells #[.int .i64 0, .int .i64 0, .int .i64 0, .int .i64 0, .int .i64 0, .int .i64 0, .int .i64 0, .int .u64 0, .int .u64 0, .int .u64 0, .int .u64 0, .int .u64 0] 67))
  go_enter Tryd.func32, Tryd.ntmps32
  go_upto_region 1 with fail
  generalize (w.alloc (.cells #[.int .i64 p.id.1, .int .i64 p.id.2, .int .i64 p.bal, .int .i64 p.k, .int .i64 p.key, .int .i64 p.v, .int .i64 p.r, .int .u64 (p.g 0), .int .u64 (p.g 1), .int .u64 (p.g 2), .int .u64 (p.g 3), .int .u64 (p.g 4), .slice va n vc] 70)).alloc (.cells #[.int .i64 0, .int .i64 0, .int .i64 0, .int .i64 0, .int .i64 0, .int .i64 0, .int .i64 0, .int .u64 0, .int .u64 0, .int .u64 0, .int .u64 0, .int .u64 0] 67) = w1 at Z A D ⊢
  obtain ⟨⟨c0, c1, c2, c3, c4, c5, c6, c7, c8, c9, c10, c11, c12⟩, _, cl⟩ := all13 A.out
  go_upto_region 2 with fail
  have C := Lib.hid (heap_alloc_new w1 (.cells #[.int .i64 p.id.1, .int .i64 p.id.2, .int .i64 p.bal, .int .i64 p.k, .int .i64 p.key, .int .i64 p.v, .int .i64 p.r, .int .u64 (p.g 0), .int .u64 (p.g 1), .int .u64 (p.g 2), .int .u64 (p.g 3), .int .u64 (p.g 4)] 67))
  have BA := (Below.refl w1.heap.size w1).alloc (Nat.le_refl _) (.cells #[.int .i64 p.id.1, .int .i64 p.id.2, .int .i64 p.bal, .int .i64 p.k, .int .i64 p.key, .int .i64 p.v, .int .i64 p.r, .int .u64 (p.g 0), .int .u64 (p.g 1), .int .u64 (p.g 2), .int .u64 (p.g 3), .int .u64 (p.g 4)] 67)
  replace A := bblk BA (lt_of_heap A.out) A.out
  have hcb : w.heap.size + 1 < w1.heap.size := lt_of_heap Z.out
  replace Z := Lib.hid (bblk BA (lt_of_heap Z.out) Z.out)
  replace D := Lib.hid (bstep D.out BA)
  clear BA c0 c1 c2 c3 c4 c5 c6 c7 c8 c9 c10 c11 c12 cl
  generalize w1.heap.size = cb at C hcb ⊢
  generalize w1.alloc (.cells #[.int .i64 p.id.1, .int .i64 p.id.2, .int .i64 p.bal, .int .i64 p.k, .int .i64 p.key, .int .i64 p.v, .int .i64 p.r, .int .u64 (p.g 0), .int .u64 (p.g 1), .int .u64 (p.g 2), .int .u64 (p.g 3), .int .u64 (p.g 4)] 67) = w2 at Z A D C ⊢
  obtain ⟨⟨c0, c1, c2, c3, c4, c5, c6, c7, c8, c9, c10, c11, c12⟩, _, cl⟩ := all13 A
  clear c0 c1 c2 c3 c4 c5 c6 c7 c8 c9 c10 c11 A
  go_upto_region 3 with fail
  clear c12 cl
  go_loopw [11] (fun i wr => ∃ k : Nat, k ≤ n ∧ i = .int .i64 k ∧ Hid (wr.heap[cb]? = some (.cells #[.int .i64 (joinPs p (P.take k)).id.1, .int .i64 (joinPs p (P.take k)).id.2, .int .i64 (joinPs p (P.take k)).bal, .int .i64 (joinPs p (P.take k)).k, .int .i64 (joinPs p (P.take k)).key, .int .i64 (joinPs p (P.take k)).v, .int .i64 (joinPs p (P.take k)).r, .int .u64 ((joinPs p (P.take k)).g 0), .int .u64 ((joinPs p (P.take k)).g 1), .int .u64 ((joinPs p (P.take k)).g 2), .int .u64 ((joinPs p (P.take k)).g 3), .int .u64 ((joinPs p (P.take k)).g 4)] 67 (0, 0))) ∧ Hid (wr.heap[w.heap.size + 1]? = some (.cells #[.int .i64 0, .int .i64 0, .int .i64 0, .int .i64 0, .int .i64 0, .int .i64 0, .int .i64 0, .int .u64 0, .int .u64 0, .int .u64 0, .int .u64 0, .int .u64 0] 67 (0, 0))) ∧ Hid (Below w.heap.size w wr)) (fun i _ => n - (intOf i).toNat)
  case atStart => exact ⟨0, Nat.zero_le _, rfl, C, Z, D⟩
  case round =>
    clear C Z D
    obtain ⟨k, hk, rfl, C, Z, D⟩ := hrel
    by_cases hkn : k < n
    · have hkP : k < P.length := by rw [hn.out]; exact hkn
      obtain ⟨b, off, ha, hPs⟩ := h3.out.resolve_left (by have := hn.out; omega)
      subst ha
      have hPs := hPs.up D.out (Nat.le_refl _)
      have hbl := hPs.lt
      have hP := hPs.at_ k hkP
      have hnx := Lib.hid (joinPs_next (p := p) hkP)
      have hq := hlt.out k
      have hx := hgP.out (P.getD k pr0) (by rw [List.getD_eq_getElem?_getD, List.getElem?_eq_getElem hkP]; exact List.getElem_mem hkP)
      obtain ⟨Q, hQ⟩ : ∃ Q, Hid (joinPs p (P.take k) = Q) := ⟨_, Lib.hid rfl⟩
      obtain ⟨x, hxe⟩ : ∃ x, Hid (P.getD k pr0 = x) := ⟨_, Lib.hid rfl⟩
      rw [hQ.out] at C hq hnx
      rw [hxe.out] at hP hx hnx
      have ja := fun W => ijoinA_any Q.r x.r Q.g x.g W hq hx
      unfold atV at ja
      obtain ⟨mx, hmx⟩ : ∃ m, Hid (max Q.r x.r = m) := ⟨_, Lib.hid rfl⟩
      obtain ⟨jf, hjf⟩ : ∃ m, Hid (joinF Q.g x.g = m) := ⟨_, Lib.hid rfl⟩
      simp only [hmx.out, hjf.out] at ja
      have q0 := hP.c0
      have q1 := hP.c1
      have q2 := hP.c2
      have q3 := hP.c3
      have q4 := hP.c4
      have q5 := hP.c5
      have q6 := hP.c6
      have q7 := hP.c7
      have q8 := hP.c8
      have q9 := hP.c9
      have q10 := hP.c10
      have q11 := hP.c11
      clear hPs hP hq hx hQ hxe
      go_upto_region 5 with fail
      have BA := (Below.refl wr.heap.size wr).alloc (Nat.le_refl _) (.cells #[.int .i64 x.id.1, .int .i64 x.id.2, .int .i64 x.bal, .int .i64 x.k, .int .i64 x.key, .int .i64 x.v, .int .i64 x.r, .int .u64 (x.g 0), .int .u64 (x.g 1), .int .u64 (x.g 2), .int .u64 (x.g 3), .int .u64 (x.g 4)] 67)
      have G := Lib.hid (heap_alloc_new wr (.cells #[.int .i64 x.id.1, .int .i64 x.id.2, .int .i64 x.bal, .int .i64 x.k, .int .i64 x.key, .int .i64 x.v, .int .i64 x.r, .int .u64 (x.g 0), .int .u64 (x.g 1), .int .u64 (x.g 2), .int .u64 (x.g 3), .int .u64 (x.g 4)] 67))
      replace C := Lib.hid (bblk BA (lt_of_heap C.out) C.out)
      replace Z := Lib.hid (bblk BA (lt_of_heap Z.out) Z.out)
      replace D := Lib.hid (bstep D.out BA)
      clear BA q0 q1 q2 q3 q4 q5 q6 q7 q8 q9 q10 q11 hbl
      generalize wr.heap.size = ab at G ⊢
      generalize wr.alloc (.cells #[.int .i64 x.id.1, .int .i64 x.id.2, .int .i64 x.bal, .int .i64 x.k, .int .i64 x.key, .int .i64 x.v, .int .i64 x.r, .int .u64 (x.g 0), .int .u64 (x.g 1), .int .u64 (x.g 2), .int .u64 (x.g 3), .int .u64 (x.g 4)] 67) = w5 at C Z D G ⊢
      obtain ⟨⟨q0, q1, q2, q3, q4, q5, q6, q7, q8, q9, q10, q11⟩, _, ql⟩ := all12 C.out
      obtain ⟨⟨g0, g1, g2, g3, g4, g5, g6, g7, g8, g9, g10, g11⟩, _, gl⟩ := all12 G.out
      go_wp2_with fail
      refine (ja _).mono ?_
      rintro e w6 ⟨rfl, B⟩
      clear q0 q1 q2 q3 q4 q5 q6 q7 q8 q9 q10 q11 ql g0 g1 g2 g3 g4 g5 g6 g7 g8 g9 g10 g11 gl ja G
      replace C := Lib.hid (bblk B (lt_of_heap C.out) C.out)
      replace Z := Lib.hid (bblk B (lt_of_heap Z.out) Z.out)
      replace D := Lib.hid (bstep D.out B)
      clear B
      obtain ⟨⟨q0, q1, q2, q3, q4, q5, q6, q7, q8, q9, q10, q11⟩, fz, ql⟩ := all12 C.out
      have f0 := fz 0
      have f1 := fz 1
      have f2 := fz 2
      have f3 := fz 3
      have f4 := fz 4
      have f5 := fz 5
      have f6 := fz 6
      have f7 := fz 7
      have f8 := fz 8
      have f9 := fz 9
      have f10 := fz 10
      have f11 := fz 11
      clear fz
      have C7 := Lib.hid (put6b_at (.int .i64 mx) (.int .u64 (jf 0)) (.int .u64 (jf 1)) (.int .u64 (jf 2)) (.int .u64 (jf 3)) (.int .u64 (jf 4)) C.out)
      have Z7 := Lib.hid ((put6b_other (w := w6) (b := cb) (c := w.heap.size + 1) (.int .i64 mx) (.int .u64 (jf 0)) (.int .u64 (jf 1)) (.int .u64 (jf 2)) (.int .u64 (jf 3)) (.int .u64 (jf 4)) (by omega)).trans Z.out)
      have D7 := Lib.hid (D.out.trans (put6b_below (w := w6) (b := cb) (B := w.heap.size) (.int .i64 mx) (.int .u64 (jf 0)) (.int .u64 (jf 1)) (.int .u64 (jf 2)) (.int .u64 (jf 3)) (.int .u64 (jf 4)) (by omega)))
      go_wp2_with fail
      go_roundw
      case rel =>
        refine ⟨k + 1, by omega, by go_num, Lib.hid ?_, Z7, D7⟩
        rw [hnx.out]
        unfold joinPr
        dsimp only
        rw [hmx.out, hjf.out]
        exact C7.out
      case measure => simp [intOf]; omega
    · obtain rfl : k = n := by omega
      have ht : P.take k = P := List.take_of_length_le (by rw [hn.out]; exact Nat.le_refl _)
      have C1 := C.out
      rw [ht, hJ.out] at C1
      replace C := Lib.hid C1
      clear C1 ht hlt h3 hgP
      obtain ⟨⟨q0, q1, q2, q3, q4, q5, q6, q7, q8, q9, q10, q11⟩, _, ql⟩ := all12 C.out
      obtain ⟨⟨z0, z1, z2, z3, z4, z5, z6, z7, z8, z9, z10, z11⟩, fz, zl⟩ := all12 Z.out
      have f0 := fz 0
      have f1 := fz 1
      have f2 := fz 2
      have f3 := fz 3
      have f4 := fz 4
      have f5 := fz 5
      have f6 := fz 6
      have f7 := fz 7
      have f8 := fz 8
      have f9 := fz 9
      have f10 := fz 10
      have f11 := fz 11
      clear fz
      go_wp2_with fail
      refine bodyPost_ret (pl_resJ _ _ _ _ _ _ _ _ _ _ _ _ _ _ _ _ rfl (put12_at _ _ _ _ _ _ _ _ _ _ _ _ Z.out)) rfl ⟨rfl, D.out.trans (put12_below _ _ _ _ _ _ _ _ _ _ _ _ (Nat.le_succ _))⟩
end Go.Proofs.YtfcjhojkfchccaaDoor

/- impl.AnswersJoin. -/
namespace Go.Proofs.YtfcjhojkfchccaaDoor
open Go.RowKit
set_option linter.unusedVariables false

/-- What AnswersJoin leaves. -/
def AjP (Q : En × Bool) (w : World) (e : Ending) (w' : World) : Prop :=
  ∃ u, e = .returned (.tuple #[env Q.1 u, .bool Q.2]) ∧ OwZ w' w.heap.size w'.heap.size u Q.1.deps ∧ Below w.heap.size w w'
theorem en_resAj (tm : Array Value) (w : World) (b : Nat) (q x0 x1 x2 x3 x4 x5 x6 x7 x8 : Value) (t : TypeId) (h1 : tm[4]? = some (.pointer (some ⟨b, 0, none⟩))) (h2 : tm[5]? = some q) (h : w.heap[b]? = some (.cells #[x0, x1, x2, x3, x4, x5, x6, x7, x8] t (0, 0))) :
    (results Tryd.f9 tm).run Tryd.prog w = .ok (.tuple #[.agg #[x0, x1, x2, x3, x4, x5, x6, x7, x8], q]) w := by
  obtain ⟨t0, t1, t2, t3, t4, t5, t6, t7, t8⟩ := nine_cells h
  simp [results, Tryd.results9, go_sem, h1, h2, t0, t1, t2, t3, t4, t5, t6, t7, t8]
theorem ansR_no {X : En} {E : List En} (h : ¬ (answB X E = true ∧ enB (ansE X E) = true)) : ansR X E = (en0, false) := if_neg h
theorem ansR_yes {X : En} {E : List En} (h : answB X E = true ∧ enB (ansE X E) = true) : ansR X E = (ansE X E, true) := if_pos h
set_option maxRecDepth 100000 in
set_option maxHeartbeats 8000000 in
theorem iaj_any (X : En) (u v : Value) (E : List En) (w : World) (hT : TabIn w) (hu : Ids w u X.deps) (h : Ens w v E) :
    Calls Tryd.prog 9 #[env X u, v] w (AjP (ansR X E) w) := by
  obtain ⟨ua, un, uc, rfl⟩ : ∃ ua un uc, u = .slice ua un uc := by obtain ⟨a, c, e, _⟩ := hu; exact ⟨a, _, c, e⟩
  have ip := fun W (hb : Below w.heap.size w W) => ipoll_any X (.slice ua un uc) v E W (hu.up hb (Nat.le_refl _)) (h.up hb (Nat.le_refl _))
  obtain ⟨a0, ca0, rfl, h1, h2, h3⟩ := h
  clear h3 hu
  unfold polV at ip
  unfold env at ip
  obtain ⟨Q, hQ⟩ : ∃ Q, Hid (ansR X E = Q) := ⟨_, Lib.hid rfl⟩
  rw [hQ.out]
  unfold env
  have hT := Lib.hid hT
  have A := Lib.hid ((Below.heap_alloc _ (.cells #[.int .i64 0, .int .i64 0, .int .i64 0, .int .i64 0, .int .i64 0, .int .i64 0, .int .i64 0, .int .i64 0, .slice none 0 0] 29) _ (by simp)).trans (heap_alloc_new w (.cells #[.int .i64 X.id.1, .int .i64 X.id.2, .int .i64 X.bal, .int .i64 X.st, .int .i64 X.k, .int .i64 X.key, .int .i64 X.v, .int .i64 X.seq, .slice ua un uc] 29)))
  have R := Lib.hid (heap_alloc_at (w.alloc (.cells #[.int .i64 X.id.1, .int .i64 X.id.2, .int .i64 X.bal, .int .i64 X.st, .int .i64 X.k, .int .i64 X.key, .int .i64 X.v, .int .i64 X.seq, .slice ua un uc] 29)) (.cells #[.int .i64 0, .int .i64 0, .int .i64 0, .int .i64 0, .int .i64 0, .int .i64 0, .int .i64 0, .int .i64 0, .slice none 0 0] 29) (w.heap.size + 1) (by simp))
  have D := Lib.hid (((Below.refl w.heap.size w).alloc (Nat.le_refl _) (.cells #[.int .i64 X.id.1, .int .i64 X.id.2, .int .i64 X.bal, .int .i64 X.st, .int .i64 X.k, .int .i64 X.key, .int .i64 X.v, .int .i64 X.seq, .slice ua un uc] 29)).alloc (by simp) (.cells #[.int .i64 0, .int .i64 0, .int .i64 0, .int .i64 0, .int .i64 0, .int .i64 0, .int .i64 0, .int .i64 0, .slice none 0 0] 29))
  go_enter Tryd.func9, Tryd.ntmps9
  go_upto_region 1 with fail
  generalize (w.alloc (.cells #[.int .i64 X.id.1, .int .i64 X.id.2, .int .i64 X.bal, .int .i64 X.st, .int .i64 X.k, .int .i64 X.key, .int .i64 X.v, .int .i64 X.seq, .slice ua un uc] 29)).alloc (.cells #[.int .i64 0, .int .i64 0, .int .i64 0, .int .i64 0, .int .i64 0, .int .i64 0, .int .i64 0, .int .i64 0, .slice none 0 0] 29) = w1 at A R D ⊢
  obtain ⟨⟨y0, y1, y2, y3, y4, y5, y6, y7, y8⟩, _, yl⟩ := nine_all A.out
  go_wp2_with fail
  refine (ip _ D.out).mono ?_
  rintro e w2 ⟨p, v', P, q, rfl, hq, hp, hg, hgP, hPr, B⟩
  obtain ⟨m, hm⟩ : ∃ m, Hid (P.length = m) := ⟨_, Lib.hid rfl⟩
  obtain ⟨va, vc, rfl⟩ : ∃ a c, v' = .slice a m c := by obtain ⟨a, c, e, _⟩ := hPr; exact ⟨a, c, by rw [e, hm.out]⟩
  replace D := Lib.hid (bstep D.out B)
  replace R := Lib.hid (bblk B (lt_of_heap R.out) R.out)
  clear ip B y0 y1 y2 y3 y4 y5 y6 y7 y8 yl A
  replace hq := Lib.hid hq
  replace hp := Lib.hid hp
  have BA := (Below.refl w2.heap.size w2).alloc (Nat.le_refl _) (.cells #[.int .i64 p.id.1, .int .i64 p.id.2, .int .i64 p.bal, .int .i64 p.k, .int .i64 p.key, .int .i64 p.v, .int .i64 p.r, .int .u64 (p.g 0), .int .u64 (p.g 1), .int .u64 (p.g 2), .int .u64 (p.g 3), .int .u64 (p.g 4), .slice va m vc] 70)
  have C := Lib.hid (heap_alloc_new w2 (.cells #[.int .i64 p.id.1, .int .i64 p.id.2, .int .i64 p.bal, .int .i64 p.k, .int .i64 p.key, .int .i64 p.v, .int .i64 p.r, .int .u64 (p.g 0), .int .u64 (p.g 1), .int .u64 (p.g 2), .int .u64 (p.g 3), .int .u64 (p.g 4), .slice va m vc] 70))
  replace D := Lib.hid (bstep D.out BA)
  replace R := Lib.hid (bblk BA (lt_of_heap R.out) R.out)
  replace hPr := Lib.hid (hPr.up BA (Nat.le_refl _))
  have jn := fun W (H : Prs W (.slice va m vc) P) => ijoinpl_any p (.slice va m vc) P W H hg hgP
  have hJg := Lib.hid (joinPs_lt P p hg hgP)
  obtain ⟨J, hJ⟩ : ∃ J, Hid (joinPs p P = J) := ⟨_, Lib.hid rfl⟩
  simp only [hJ.out] at jn
  rw [hJ.out] at hJg
  unfold polV Pr.val prV at jn
  clear BA
  go_upto_region 2 with fail
  generalize w2.heap.size = bx at C ⊢
  generalize w2.alloc (.cells #[.int .i64 p.id.1, .int .i64 p.id.2, .int .i64 p.bal, .int .i64 p.k, .int .i64 p.key, .int .i64 p.v, .int .i64 p.r, .int .u64 (p.g 0), .int .u64 (p.g 1), .int .u64 (p.g 2), .int .u64 (p.g 3), .int .u64 (p.g 4), .slice va m vc] 70) = w3 at C D R hPr ⊢
  obtain ⟨⟨c0, c1, c2, c3, c4, c5, c6, c7, c8, c9, c10, c11, c12⟩, _, cl⟩ := all13 C.out
  go_wp2_with fail
  refine (jn _ hPr.out).mono ?_
  rintro e w4 ⟨rfl, B⟩
  replace D := Lib.hid (bstep D.out B)
  replace R := Lib.hid (bblk B (lt_of_heap R.out) R.out)
  clear B c0 c1 c2 c3 c4 c5 c6 c7 c8 c9 c10 c11 c12 cl C hPr jn
  have ie := ientryP_any J.id J.bal J.k J.key J.v J.r J.g w4 hJg.out (TabIn.up hT.out D.out (Nat.le_refl _))
  unfold prV at ie
  go_wp2_with fail
  refine ie.mono ?_
  rintro e w5 ⟨yb, uy, hyb, rfl, O2, B⟩
  clear ie
  have hyw : w.heap.size + 1 < yb := by have := lt_of_heap R.out; omega
  replace D := Lib.hid (bstep D.out B)
  replace R := Lib.hid (bblk B (lt_of_heap R.out) R.out)
  obtain ⟨Y, hY⟩ : ∃ Y, Hid ((⟨J.id, J.bal, 1, J.k, J.key, J.v, J.r, idsO J.g⟩ : En) = Y) := ⟨_, Lib.hid rfl⟩
  have hYd : idsO J.g = Y.deps := by rw [← hY.out]
  rw [hY.out]
  rw [hYd] at O2
  clear hYd B hyb
  have hyl := O2.lt
  obtain ⟨yn, yc, rfl⟩ : ∃ n c, uy = .slice (some ⟨yb, 0, none⟩) n c := by obtain ⟨c, e, _⟩ := O2.shape; exact ⟨_, c, e⟩
  unfold env
  have BA := (Below.refl w5.heap.size w5).alloc (Nat.le_refl _) (.cells #[.int .i64 Y.id.1, .int .i64 Y.id.2, .int .i64 Y.bal, .int .i64 Y.st, .int .i64 Y.k, .int .i64 Y.key, .int .i64 Y.v, .int .i64 Y.seq, .slice (some ⟨yb, 0, none⟩) yn yc] 29)
  have G := Lib.hid (heap_alloc_new w5 (.cells #[.int .i64 Y.id.1, .int .i64 Y.id.2, .int .i64 Y.bal, .int .i64 Y.st, .int .i64 Y.k, .int .i64 Y.key, .int .i64 Y.v, .int .i64 Y.seq, .slice (some ⟨yb, 0, none⟩) yn yc] 29))
  replace D := Lib.hid (bstep D.out BA)
  replace R := Lib.hid (bblk BA (lt_of_heap R.out) R.out)
  replace O2 := Lib.hid (O2.up BA O2.lt)
  have hgy : yb ≠ w5.heap.size := Nat.ne_of_lt hyl
  clear BA
  go_upto_region 3 with fail
  generalize w5.heap.size = gb at G hgy ⊢
  generalize w5.alloc (.cells #[.int .i64 Y.id.1, .int .i64 Y.id.2, .int .i64 Y.bal, .int .i64 Y.st, .int .i64 Y.k, .int .i64 Y.key, .int .i64 Y.v, .int .i64 Y.seq, .slice (some ⟨yb, 0, none⟩) yn yc] 29) = w6 at G D R O2 ⊢
  cases q
  · have hQe := hQ.out.symm.trans (ansR_no (X := X) (E := E) (fun g => by have := g.1; rw [← hq.out] at this; cases this))
    replace hQ := Lib.hid hQe
    clear hQe hq hp hT hJg
    clear G O2
    obtain ⟨⟨z0, z1, z2, z3, z4, z5, z6, z7, z8⟩, ⟨f0, f1, f2, f3, f4, f5, f6, f7, f8⟩, zl⟩ := nine_all R.out
    go_wp2_with fail
    refine bodyPost_ret (en_resAj _ _ _ _ _ _ _ _ _ _ _ _ _ _ rfl rfl (put9_at (.int .i64 0) (.int .i64 0) (.int .i64 0) (.int .i64 0) (.int .i64 0) (.int .i64 0) (.int .i64 0) (.int .i64 0) (.slice none 0 0) R.out)) rfl ⟨.slice none 0 0, by rw [hQ.out]; rfl, by rw [hQ.out]; exact .inl ⟨rfl, none, 0, rfl⟩, D.out.trans (put9_below _ _ _ _ _ _ _ _ _ (Nat.le_succ _))⟩
  · have hA := hq.out.symm
    obtain ⟨hp1, hp2⟩ := hp.out (answ_of hA).2.2.2
    have hYe : Y = ansE X E := by
      have e := enP_join (own := X) (A := E) (by rw [poll_answ (answ_of hA).2.2.2]; exact hA)
      unfold enP at e
      rw [← hp1, ← hp2, hJ.out, hY.out] at e
      exact e
    have ev := fun W (hb : Below w6.heap.size w6 W) => ievalid_any Y (.slice (some ⟨yb, 0, none⟩) yn yc) W (O2.out.read.up hb (Nat.le_refl _))
    obtain ⟨t, ht⟩ : ∃ t, Hid (enB Y = t) := ⟨_, Lib.hid rfl⟩
    simp only [ht.out] at ev
    unfold env at ev
    replace hA := Lib.hid hA
    replace hYe := Lib.hid hYe
    clear hp1 hp2 hp hq hT hJg
    obtain ⟨⟨g0, g1, g2, g3, g4, g5, g6, g7, g8⟩, _, gl⟩ := nine_all G.out
    go_wp2_with fail
    refine (ev _ (Below.refl _ _)).mono ?_
    rintro e w7 ⟨rfl, B⟩
    clear g0 g1 g2 g3 g4 g5 g6 g7 g8 gl ev
    replace D := Lib.hid (bstep D.out B)
    replace R := Lib.hid (bblk B (lt_of_heap R.out) R.out)
    replace G := Lib.hid (bblk B (lt_of_heap G.out) G.out)
    replace O2 := Lib.hid (O2.out.up B O2.out.lt)
    clear B
    cases t
    · have hQe := hQ.out.symm.trans (ansR_no (X := X) (E := E) (fun g => by have := g.2; rw [← hYe.out, ht.out] at this; cases this))
      replace hQ := Lib.hid hQe
      clear hQe
      clear G O2
      obtain ⟨⟨z0, z1, z2, z3, z4, z5, z6, z7, z8⟩, ⟨f0, f1, f2, f3, f4, f5, f6, f7, f8⟩, zl⟩ := nine_all R.out
      go_wp2_with fail
      refine bodyPost_ret (en_resAj _ _ _ _ _ _ _ _ _ _ _ _ _ _ rfl rfl (put9_at (.int .i64 0) (.int .i64 0) (.int .i64 0) (.int .i64 0) (.int .i64 0) (.int .i64 0) (.int .i64 0) (.int .i64 0) (.slice none 0 0) R.out)) rfl ⟨.slice none 0 0, by rw [hQ.out]; rfl, by rw [hQ.out]; exact .inl ⟨rfl, none, 0, rfl⟩, D.out.trans (put9_below _ _ _ _ _ _ _ _ _ (Nat.le_succ _))⟩
    · have hQe := hQ.out.symm.trans (ansR_yes (X := X) (E := E) ⟨hA.out, by rw [← hYe.out]; exact ht.out⟩)
      rw [← hYe.out] at hQe
      replace hQ := Lib.hid hQe
      clear hQe
      obtain ⟨⟨g0, g1, g2, g3, g4, g5, g6, g7, g8⟩, _, gl⟩ := nine_all G.out
      obtain ⟨⟨z0, z1, z2, z3, z4, z5, z6, z7, z8⟩, ⟨f0, f1, f2, f3, f4, f5, f6, f7, f8⟩, zl⟩ := nine_all R.out
      have O9 := Lib.hid (O2.out.same (put9_other (w := w7) (b := w.heap.size + 1) (c := yb) (.int .i64 Y.id.1) (.int .i64 Y.id.2) (.int .i64 Y.bal) (.int .i64 Y.st) (.int .i64 Y.k) (.int .i64 Y.key) (.int .i64 Y.v) (.int .i64 Y.seq) (.slice (some ⟨yb, 0, none⟩) yn yc) (by omega)))
      go_wp2_with fail
      refine bodyPost_ret (en_resAj _ _ _ _ _ _ _ _ _ _ _ _ _ _ rfl rfl (put9_at (.int .i64 Y.id.1) (.int .i64 Y.id.2) (.int .i64 Y.bal) (.int .i64 Y.st) (.int .i64 Y.k) (.int .i64 Y.key) (.int .i64 Y.v) (.int .i64 Y.seq) (.slice (some ⟨yb, 0, none⟩) yn yc) R.out)) rfl ⟨.slice (some ⟨yb, 0, none⟩) yn yc, by rw [hQ.out]; rfl, by rw [hQ.out]; exact OwZ.of O9.out (by omega), D.out.trans (put9_below _ _ _ _ _ _ _ _ _ (Nat.le_succ _))⟩
end Go.Proofs.YtfcjhojkfchccaaDoor
