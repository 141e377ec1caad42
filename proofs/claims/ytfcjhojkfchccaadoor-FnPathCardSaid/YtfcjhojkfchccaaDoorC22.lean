/- Texts laid together. -/
import Derived.Test.YtfcjhojkfchccaaDoorC20
import Derived.Test.YtfcjhojkfchccaaDoorC13
import Derived.Test.YtfcjhojkfchccaaDoorC21
/- impl.PathOf. -/
namespace Go.Proofs.YtfcjhojkfchccaaDoor
open Go.RowKit
set_option linter.unusedVariables false

theorem path_bad {n : Int} {X : En} {E : List En} (h : ¬ ((1 ≤ n ∧ n ≤ 5) ∧ answB X E = true ∧ (E.length : Int) < n)) : pathR n X E = -1 := if_neg h
theorem path_good {n : Int} {X : En} {E : List En} {t : Bool} (h : (1 ≤ n ∧ n ≤ 5) ∧ answB X E = true ∧ (E.length : Int) < n) (ht : E.all (likeB X) = t) : pathR n X E = if t = true ∧ fastR n ≤ (E.length : Int) + 1 then 1 else if slowR n ≤ (E.length : Int) + 1 then 2 else 0 := by
  unfold pathR fastR slowR
  rw [if_pos h, if_pos h.1, if_pos h.1, ht]
set_option maxRecDepth 100000 in
set_option maxHeartbeats 4000000 in
theorem ipath_any (n : Int) (X : En) (u v : Value) (E : List En) (w : World) (hu : Ids w u X.deps) (h : Ens w v E) :
    Calls Tryd.prog 16 #[.int .i64 n, env X u, v] w fun e w' => e = .returned (.int .i64 (pathR n X E)) ∧ Below w.heap.size w w' := by
  obtain ⟨ua, un, uc, rfl⟩ : ∃ ua un uc, u = .slice ua un uc := by obtain ⟨a, c, e, _⟩ := hu; exact ⟨a, _, c, e⟩
  have ip := fun W (hb : Below w.heap.size w W) => ipoll_any X (.slice ua un uc) v E W (hu.up hb (Nat.le_refl _)) (h.up hb (Nat.le_refl _))
  obtain ⟨a0, ca0, rfl, h1, h2, h3⟩ := h
  obtain ⟨l, hl⟩ : ∃ l, Hid (E.length = l) := ⟨_, Lib.hid rfl⟩
  simp only [hl.out] at ip h1 h2 ⊢
  clear h3
  unfold env polV at ip
  unfold env
  have A := Lib.hid (heap_alloc_new w (.cells #[.int .i64 X.id.1, .int .i64 X.id.2, .int .i64 X.bal, .int .i64 X.st, .int .i64 X.k, .int .i64 X.key, .int .i64 X.v, .int .i64 X.seq, .slice ua un uc] 29))
  have D := Lib.hid ((Below.refl w.heap.size w).alloc (Nat.le_refl _) (.cells #[.int .i64 X.id.1, .int .i64 X.id.2, .int .i64 X.bal, .int .i64 X.st, .int .i64 X.k, .int .i64 X.key, .int .i64 X.v, .int .i64 X.seq, .slice ua un uc] 29))
  go_enter Tryd.func16, Tryd.ntmps16
  go_upto_region 1 with fail
  generalize w.alloc (.cells #[.int .i64 X.id.1, .int .i64 X.id.2, .int .i64 X.bal, .int .i64 X.st, .int .i64 X.k, .int .i64 X.key, .int .i64 X.v, .int .i64 X.seq, .slice ua un uc] 29) = w1 at A D ⊢
  obtain ⟨⟨y0, y1, y2, y3, y4, y5, y6, y7, y8⟩, _, yl⟩ := nine_all A.out
  go_wp2_with fail
  refine (ip _ D.out).mono ?_
  rintro e w2 ⟨p, v', P, q, rfl, hq, hp, hg, hgP, hPr, B⟩
  obtain ⟨m, hm⟩ : ∃ m, Hid (P.length = m) := ⟨_, Lib.hid rfl⟩
  obtain ⟨va, vc, rfl⟩ : ∃ a c, v' = .slice a m c := by obtain ⟨a, c, e, _⟩ := hPr; exact ⟨a, c, by rw [e, hm.out]⟩
  replace D := Lib.hid (bstep D.out B)
  clear ip B y0 y1 y2 y3 y4 y5 y6 y7 y8 yl A hg hgP hu
  replace hq := Lib.hid hq
  replace hp := Lib.hid hp
  have R := Lib.hid (heap_alloc_new w2 (.cells #[.int .i64 p.id.1, .int .i64 p.id.2, .int .i64 p.bal, .int .i64 p.k, .int .i64 p.key, .int .i64 p.v, .int .i64 p.r, .int .u64 (p.g 0), .int .u64 (p.g 1), .int .u64 (p.g 2), .int .u64 (p.g 3), .int .u64 (p.g 4), .slice va m vc] 70))
  have BA := (Below.refl w2.heap.size w2).alloc (Nat.le_refl _) (.cells #[.int .i64 p.id.1, .int .i64 p.id.2, .int .i64 p.bal, .int .i64 p.k, .int .i64 p.key, .int .i64 p.v, .int .i64 p.r, .int .u64 (p.g 0), .int .u64 (p.g 1), .int .u64 (p.g 2), .int .u64 (p.g 3), .int .u64 (p.g 4), .slice va m vc] 70)
  replace D := Lib.hid (bstep D.out BA)
  replace hPr := Lib.hid (hPr.up BA (Nat.le_refl _))
  clear BA
  go_upto_region 2 with fail
  generalize w2.heap.size = bx at R ⊢
  generalize w2.alloc (.cells #[.int .i64 p.id.1, .int .i64 p.id.2, .int .i64 p.bal, .int .i64 p.k, .int .i64 p.key, .int .i64 p.v, .int .i64 p.r, .int .u64 (p.g 0), .int .u64 (p.g 1), .int .u64 (p.g 2), .int .u64 (p.g 3), .int .u64 (p.g 4), .slice va m vc] 70) = w3 at R D hPr ⊢
  obtain ⟨⟨c0, c1, c2, c3, c4, c5, c6, c7, c8, c9, c10, c11, c12⟩, _, cl⟩ := all13 R.out
  cases q
  · have hR := Lib.hid (path_bad (n := n) (X := X) (E := E) (fun g => by have := g.2.1; rw [← hq.out] at this; cases this))
    go_wp2_with fail
    go_ret
    exact ⟨by rw [hR.out]; rfl, D.out⟩
  · have hA := hq.out.symm
    have hlt := (answ_of hA).2.2.2
    obtain ⟨hp1, hp2⟩ := hp.out (by rw [← hl.out]; exact hlt)
    have hml : m = l := by rw [← hm.out, hp2, List.length_map, hl.out]
    subst hml
    have hl5 : m < 5 := by rw [hl.out] at hlt; exact hlt
    have iv := fun W => ivr_any n W
    by_cases hn : 1 ≤ n ∧ n ≤ 5
    · simp only [decide_eq_true hn] at iv
      have sz := fun W => ipsize_any p va m vc W h2
      have ag := fun W (H : Prs W (.slice va m vc) P) => iagA_any p (.slice va m vc) P W H
      have fs := fun W => ifast_any n W
      have ss := fun W => islow_any n W
      obtain ⟨f, hf⟩ : ∃ f, Hid (fastR n = f) := ⟨_, Lib.hid rfl⟩
      obtain ⟨g, hg⟩ : ∃ f, Hid (slowR n = f) := ⟨_, Lib.hid rfl⟩
      simp only [hf.out] at fs
      simp only [hg.out] at ss
      have hal := all_like (own := X) (A := E) (enB_of (answ_of hA).2.1).2.2.1 (fun x hx => (enB_of (one_of ((answ_of hA).1 x hx)).1).2.2.1)
      rw [← hp1, ← hp2] at hal
      obtain ⟨t, ht⟩ : ∃ t, Hid (E.all (likeB X) = t) := ⟨_, Lib.hid rfl⟩
      rw [ht.out] at hal
      simp only [hal] at ag
      unfold Pr.val prV at ag
      unfold polV at sz
      replace hal := Lib.hid hal
      replace hA := Lib.hid hA
      clear hp hp1 hp2 hq hlt
      go_wp2_with fail
      refine (iv _).mono ?_
      rintro e w' ⟨rfl, rfl⟩
      go_wp2_with fail
      refine (sz _).mono ?_
      rintro e w' ⟨rfl, B⟩
      replace R := Lib.hid (bblk B (lt_of_heap R.out) R.out)
      replace D := Lib.hid (bstep D.out B)
      replace hPr := Lib.hid (hPr.out.up B (Nat.le_refl _))
      clear B c0 c1 c2 c3 c4 c5 c6 c7 c8 c9 c10 c11 c12 cl
      obtain ⟨⟨c0, c1, c2, c3, c4, c5, c6, c7, c8, c9, c10, c11, c12⟩, _, cl⟩ := all13 R.out
      by_cases hmn : n < 1 + (m : Int)
      · have hR := Lib.hid (path_bad (n := n) (X := X) (E := E) (fun g => by have := g.2.2; rw [hl.out] at this; omega))
        go_wp2_with fail
        go_ret
        exact ⟨by rw [hR.out]; rfl, D.out⟩
      · have hR := Lib.hid (path_good (n := n) (X := X) (E := E) (t := t) ⟨hn, hA.out, by rw [hl.out]; omega⟩ ht.out)
        rw [hf.out, hg.out, hl.out] at hR
        go_wp2_with fail
        refine (sz _).mono ?_
        rintro e w' ⟨rfl, B⟩
        replace R := Lib.hid (bblk B (lt_of_heap R.out) R.out)
        replace D := Lib.hid (bstep D.out B)
        replace hPr := Lib.hid (hPr.out.up B (Nat.le_refl _))
        clear B c0 c1 c2 c3 c4 c5 c6 c7 c8 c9 c10 c11 c12 cl
        obtain ⟨⟨c0, c1, c2, c3, c4, c5, c6, c7, c8, c9, c10, c11, c12⟩, _, cl⟩ := all13 R.out
        go_wp2_with fail
        refine (fs _).mono ?_
        rintro e w' ⟨rfl, rfl⟩
        by_cases hfm : f ≤ 1 + (m : Int)
        · cases t
          · have hR2 := Lib.hid (hR.out.trans (if_neg (fun g => by cases g.1)))
            go_wp2_with fail
            refine (ag _ hPr.out).mono ?_
            rintro e w' ⟨rfl, B⟩
            replace R := Lib.hid (bblk B (lt_of_heap R.out) R.out)
            replace D := Lib.hid (bstep D.out B)
            replace hPr := Lib.hid (hPr.out.up B (Nat.le_refl _))
            clear B c0 c1 c2 c3 c4 c5 c6 c7 c8 c9 c10 c11 c12 cl
            obtain ⟨⟨c0, c1, c2, c3, c4, c5, c6, c7, c8, c9, c10, c11, c12⟩, _, cl⟩ := all13 R.out
            go_wp2_with fail
            refine (sz _).mono ?_
            rintro e w' ⟨rfl, B⟩
            replace R := Lib.hid (bblk B (lt_of_heap R.out) R.out)
            replace D := Lib.hid (bstep D.out B)
            replace hPr := Lib.hid (hPr.out.up B (Nat.le_refl _))
            clear B c0 c1 c2 c3 c4 c5 c6 c7 c8 c9 c10 c11 c12 cl
            obtain ⟨⟨c0, c1, c2, c3, c4, c5, c6, c7, c8, c9, c10, c11, c12⟩, _, cl⟩ := all13 R.out
            go_wp2_with fail
            refine (ss _).mono ?_
            rintro e w' ⟨rfl, rfl⟩
            by_cases hgm : g ≤ 1 + (m : Int)
            · have hR3 := Lib.hid (hR2.out.trans (if_pos (by omega)))
              go_wp2_with fail
              go_ret
              exact ⟨by rw [hR3.out]; rfl, D.out⟩
            · have hR3 := Lib.hid (hR2.out.trans (if_neg (by omega)))
              go_wp2_with fail
              go_ret
              exact ⟨by rw [hR3.out]; rfl, D.out⟩
          · have hR2 := Lib.hid (hR.out.trans (if_pos ⟨rfl, by omega⟩))
            go_wp2_with fail
            refine (ag _ hPr.out).mono ?_
            rintro e w' ⟨rfl, B⟩
            replace R := Lib.hid (bblk B (lt_of_heap R.out) R.out)
            replace D := Lib.hid (bstep D.out B)
            replace hPr := Lib.hid (hPr.out.up B (Nat.le_refl _))
            clear B c0 c1 c2 c3 c4 c5 c6 c7 c8 c9 c10 c11 c12 cl
            obtain ⟨⟨c0, c1, c2, c3, c4, c5, c6, c7, c8, c9, c10, c11, c12⟩, _, cl⟩ := all13 R.out
            go_wp2_with fail
            go_ret
            exact ⟨by rw [hR2.out]; rfl, D.out⟩
        · have hR2 := Lib.hid (hR.out.trans (if_neg (fun g => by have := g.2; omega)))
          go_wp2_with fail
          refine (sz _).mono ?_
          rintro e w' ⟨rfl, B⟩
          replace R := Lib.hid (bblk B (lt_of_heap R.out) R.out)
          replace D := Lib.hid (bstep D.out B)
          replace hPr := Lib.hid (hPr.out.up B (Nat.le_refl _))
          clear B c0 c1 c2 c3 c4 c5 c6 c7 c8 c9 c10 c11 c12 cl
          obtain ⟨⟨c0, c1, c2, c3, c4, c5, c6, c7, c8, c9, c10, c11, c12⟩, _, cl⟩ := all13 R.out
          go_wp2_with fail
          refine (ss _).mono ?_
          rintro e w' ⟨rfl, rfl⟩
          by_cases hgm : g ≤ 1 + (m : Int)
          · have hR3 := Lib.hid (hR2.out.trans (if_pos (by omega)))
            go_wp2_with fail
            go_ret
            exact ⟨by rw [hR3.out]; rfl, D.out⟩
          · have hR3 := Lib.hid (hR2.out.trans (if_neg (by omega)))
            go_wp2_with fail
            go_ret
            exact ⟨by rw [hR3.out]; rfl, D.out⟩
    · simp only [decide_eq_false hn] at iv
      have hR := Lib.hid (path_bad (n := n) (X := X) (E := E) (fun g => hn g.1))
      go_wp2_with fail
      refine (iv _).mono ?_
      rintro e w' ⟨rfl, rfl⟩
      go_wp2_with fail
      go_ret
      exact ⟨by rw [hR.out]; rfl, D.out⟩
end Go.Proofs.YtfcjhojkfchccaaDoor
