/- Texts laid together. -/
import Derived.Test.YtfcjhojkfchccaaDoorC23
import Derived.Test.YtfcjhojkfchccaaDoorC29
import Derived.Test.YtfcjhojkfchccaaDoorC27
import Derived.Test.YtfcjhojkfchccaaDoorC36
import Derived.Test.YtfcjhojkfchccaaDoorC35
import Derived.Test.YtfcjhojkfchccaaDoorC37
/- The model's AnswersJoin, and where what it answers lies. -/
namespace Go.Proofs.YtfcjhojkfchccaaDoor
open Go.RowKit
set_option linter.unusedVariables false

/-- What the model's AnswersJoin leaves, and where the list lies. -/
def SjZ (Q : En × Bool) (w : World) (e : Ending) (w' : World) : Prop :=
  ∃ u, e = .returned (.tuple #[env Q.1 u, .bool Q.2]) ∧ OwZ w' w.heap.size w'.heap.size u Q.1.deps ∧ Below w.heap.size w w'
set_option maxRecDepth 100000 in
set_option maxHeartbeats 8000000 in
theorem sajz_any (X : En) (u v : Value) (E : List En) (w : World) (hu : Ids w u X.deps) (h : Ens w v E) :
    Calls Tryd.prog 10 #[env X u, v] w (SjZ (ansR X E) w) := by
  obtain ⟨ua, un, uc, rfl⟩ : ∃ ua un uc, u = .slice ua un uc := by obtain ⟨a, c, e, _⟩ := hu; exact ⟨a, _, c, e⟩
  have sa := fun W (hb : Below w.heap.size w W) => sans_any X (.slice ua un uc) v E W (hu.up hb (Nat.le_refl _)) (h.up hb (Nat.le_refl _))
  have cp := fun W (hb : Below w.heap.size w W) => copy_at X.id.1 X.id.2 X.bal X.st X.k X.key X.v X.seq X.deps (.slice ua un uc) W (hu.up hb (Nat.le_refl _))
  obtain ⟨a0, ca0, rfl, h1, h2, h3⟩ := h
  obtain ⟨l, hl⟩ : ∃ l, Hid (E.length = l) := ⟨_, Lib.hid rfl⟩
  simp only [hl.out] at sa h1 h2 ⊢
  replace h3 := Lib.hid h3
  clear hu
  obtain ⟨Q, hQ⟩ : ∃ Q, Hid (ansR X E = Q) := ⟨_, Lib.hid rfl⟩
  obtain ⟨q, hq⟩ : ∃ q, Hid (answB X E = q) := ⟨_, Lib.hid rfl⟩
  rw [hQ.out]
  simp only [hq.out] at sa
  unfold env at sa
  unfold env
  have A := Lib.hid ((Below.heap_alloc _ (.cells #[.int .i64 0, .int .i64 0, .int .i64 0, .int .i64 0, .int .i64 0, .int .i64 0, .int .i64 0, .int .i64 0, .slice none 0 0] 29) _ (by simp)).trans (heap_alloc_new w (.cells #[.int .i64 X.id.1, .int .i64 X.id.2, .int .i64 X.bal, .int .i64 X.st, .int .i64 X.k, .int .i64 X.key, .int .i64 X.v, .int .i64 X.seq, .slice ua un uc] 29)))
  have R := Lib.hid (heap_alloc_at (w.alloc (.cells #[.int .i64 X.id.1, .int .i64 X.id.2, .int .i64 X.bal, .int .i64 X.st, .int .i64 X.k, .int .i64 X.key, .int .i64 X.v, .int .i64 X.seq, .slice ua un uc] 29)) (.cells #[.int .i64 0, .int .i64 0, .int .i64 0, .int .i64 0, .int .i64 0, .int .i64 0, .int .i64 0, .int .i64 0, .slice none 0 0] 29) (w.heap.size + 1) (by simp))
  have D := Lib.hid (((Below.refl w.heap.size w).alloc (Nat.le_refl _) (.cells #[.int .i64 X.id.1, .int .i64 X.id.2, .int .i64 X.bal, .int .i64 X.st, .int .i64 X.k, .int .i64 X.key, .int .i64 X.v, .int .i64 X.seq, .slice ua un uc] 29)).alloc (by simp) (.cells #[.int .i64 0, .int .i64 0, .int .i64 0, .int .i64 0, .int .i64 0, .int .i64 0, .int .i64 0, .int .i64 0, .slice none 0 0] 29))
  go_enter Tryd.func10, Tryd.ntmps10
  go_upto_region 1 with fail
  generalize (w.alloc (.cells #[.int .i64 X.id.1, .int .i64 X.id.2, .int .i64 X.bal, .int .i64 X.st, .int .i64 X.k, .int .i64 X.key, .int .i64 X.v, .int .i64 X.seq, .slice ua un uc] 29)).alloc (.cells #[.int .i64 0, .int .i64 0, .int .i64 0, .int .i64 0, .int .i64 0, .int .i64 0, .int .i64 0, .int .i64 0, .slice none 0 0] 29) = w1 at A R D ⊢
  obtain ⟨⟨y0, y1, y2, y3, y4, y5, y6, y7, y8⟩, _, yl⟩ := nine_all A.out
  go_wp2_with fail
  refine (sa _ D.out).mono ?_
  rintro e w2 ⟨rfl, B⟩
  replace D := Lib.hid (bstep D.out B)
  replace R := Lib.hid (bblk B (lt_of_heap R.out) R.out)
  replace A := Lib.hid (bblk B (lt_of_heap A.out) A.out)
  clear sa B y0 y1 y2 y3 y4 y5 y6 y7 y8 yl
  cases q
  · have hQe := hQ.out.symm.trans (sansR_no (X := X) (E := E) (fun g => by have := g.1; rw [hq.out] at this; cases this))
    replace hQ := Lib.hid hQe
    clear hQe A
    obtain ⟨⟨z0, z1, z2, z3, z4, z5, z6, z7, z8⟩, ⟨f0, f1, f2, f3, f4, f5, f6, f7, f8⟩, zl⟩ := nine_all R.out
    go_wp2_with fail
    refine bodyPost_ret (en_resSj _ _ _ _ _ _ _ _ _ _ _ _ _ _ rfl rfl (put9_at (.int .i64 0) (.int .i64 0) (.int .i64 0) (.int .i64 0) (.int .i64 0) (.int .i64 0) (.int .i64 0) (.int .i64 0) (.slice none 0 0) R.out)) rfl ⟨.slice none 0 0, by rw [hQ.out]; rfl, by rw [hQ.out]; exact .inl ⟨rfl, none, 0, rfl⟩, D.out.trans (put9_below _ _ _ _ _ _ _ _ _ (Nat.le_succ _))⟩
  · have hA := Lib.hid (answ_of hq.out)
    have hX := Lib.hid (enB_of hA.out.2.1)
    obtain ⟨⟨y0, y1, y2, y3, y4, y5, y6, y7, y8⟩, _, yl⟩ := nine_all A.out
    go_wp2_with fail
    refine (cp _ D.out).mono ?_
    rintro e w3 ⟨⟨u3, rfl, O3⟩, B⟩
    obtain ⟨yb, hyb, O3⟩ := O3.own (by have := (srt_of hX.out.2.2.1).1; omega)
    obtain ⟨yn, yc, rfl⟩ : ∃ n c, u3 = .slice (some ⟨yb, 0, none⟩) n c := by obtain ⟨c, e, _⟩ := O3.shape; exact ⟨_, c, e⟩
    have BA := (Below.refl w3.heap.size w3).alloc (Nat.le_refl _) (.cells #[.int .i64 X.id.1, .int .i64 X.id.2, .int .i64 X.bal, .int .i64 X.st, .int .i64 X.k, .int .i64 X.key, .int .i64 X.v, .int .i64 X.seq, .slice (some ⟨yb, 0, none⟩) yn yc] 29)
    have hzl := lt_of_heap R.out
    have hs3 := B.size
    have S0 := Lib.hid (show SjS w w3.heap.size X (.slice (some ⟨yb, 0, none⟩) yn yc) yb (w3.alloc (.cells #[.int .i64 X.id.1, .int .i64 X.id.2, .int .i64 X.bal, .int .i64 X.st, .int .i64 X.k, .int .i64 X.key, .int .i64 X.v, .int .i64 X.seq, .slice (some ⟨yb, 0, none⟩) yn yc] 29)) from
      ⟨heap_alloc_new _ _, O3.up BA O3.lt, Nat.ne_of_lt O3.lt, by omega, bblk (bstep B BA) hzl R.out, by omega, bstep D.out (bstep B BA)⟩)
    clear cp B BA O3 y0 y1 y2 y3 y4 y5 y6 y7 y8 yl A R D hyb hzl hs3
    go_upto_region 4 with fail
    generalize w3.heap.size = ob at S0 ⊢
    generalize w3.alloc (.cells #[.int .i64 X.id.1, .int .i64 X.id.2, .int .i64 X.bal, .int .i64 X.st, .int .i64 X.k, .int .i64 X.key, .int .i64 X.v, .int .i64 X.seq, .slice (some ⟨yb, 0, none⟩) yn yc] 29) = w4 at S0 ⊢
    go_upto_region 5 with fail
    go_loopw [7] (fun i wr => ∃ (k : Nat) (u : Value) (b : Nat), k ≤ l ∧ i = .int .i64 k ∧ Hid (SjS w ob (ansE X (E.take k)) u b wr)) (fun i _ => l - (intOf i).toNat)
    case atStart => exact ⟨0, _, _, Nat.zero_le _, rfl, S0⟩
    case round =>
      clear S0
      obtain ⟨k, u, b0, hk, rfl, S⟩ := hrel
      by_cases hkl : k < l
      · have hkE : k < E.length := by rw [hl.out]; exact hkl
        obtain ⟨b, off, U, ha, hE⟩ := h3.out.resolve_left (by have := hl.out; omega)
        subst ha
        have hnx := Lib.hid (ansE_next (own := X) hkE)
        have hxd : (E.getD k en0).deps.length ≤ 12 := (srt_of (enB_of (one_of (hA.out.1 _ (enD_mem hkE))).1).2.2.1).1
        have hlen : (ansE X (E.take k)).deps.length ≤ 12 + 12 * (E.take k).length := ansE_len _ X (srt_of hX.out.2.2.1).1 (fun x hx => (srt_of (enB_of (one_of (hA.out.1 x (List.mem_of_mem_take hx))).1).2.2.1).1)
        have hlt : (E.take k).length ≤ 4 := by have := hA.out.2.2.2; rw [List.length_take]; omega
        have hE1 := hE.up S.out.kp (Nat.le_refl _)
        have hbl := hE1.lt
        have hP := hE1.at_ k hkE
        obtain ⟨ya, yn, yc, hy⟩ : ∃ ua un uc, U k = .slice ua un uc := by obtain ⟨a, c, e, _⟩ := hP.ids; exact ⟨a, _, c, e⟩
        obtain ⟨x, hx⟩ : ∃ x, Hid (E.getD k en0 = x) := ⟨_, Lib.hid rfl⟩
        obtain ⟨Y, hY⟩ : ∃ x, Hid (ansE X (E.take k) = x) := ⟨_, Lib.hid rfl⟩
        have hEk := Lib.hid (fun W (hb : Below w.heap.size w W) => (hE.up hb (Nat.le_refl _)).at_ k hkE)
        have hEl := Lib.hid (fun W (hb : Below w.heap.size w W) => (hE.up hb (Nat.le_refl _)).lt)
        rw [hx.out] at hxd hnx hEk
        rw [hY.out] at S hnx hlen
        rw [hy] at hEk
        clear hE hE1 hP hbl hY hx
        obtain ⟨gn, gc, rfl⟩ : ∃ n c, u = .slice (some ⟨b0, 0, none⟩) n c := by obtain ⟨c, e, _⟩ := S.out.ids.shape; exact ⟨_, c, e⟩
        have q7 := (hEk.out _ S.out.kp).c7
        have qbl := hEl.out _ S.out.kp
        obtain ⟨⟨y0, y1, y2, y3, y4, y5, y6, y7, y8⟩, ⟨f0, f1, f2, f3, f4, f5, f6, f7, f8⟩, yl⟩ := nine_all S.out.bx
        go_upto_region 7 with fail
        obtain ⟨mx, hmx⟩ : ∃ m, Hid (max Y.seq x.seq = m) := ⟨_, Lib.hid rfl⟩
        have hns := Lib.hid (hmx.out)
        go_cut [] from 21 to 29 (fun wx => Hid (SjS w ob { Y with seq := mx } (.slice (some ⟨b0, 0, none⟩) gn gc) b0 wx))
        case first =>
          rcases (show (x.seq ≤ Y.seq ∧ max Y.seq x.seq = Y.seq) ∨ (¬ x.seq ≤ Y.seq ∧ max Y.seq x.seq = x.seq) by omega) with ⟨hm, e⟩ | ⟨hm, e⟩
          all_goals
            rw [e] at hmx
            have S2 := Lib.hid (S.out.sq mx)
            obtain rfl := hmx.out
            clear hmx e
            go_region
            all_goals
              go_wp2_with fail
              go_meet
              exact Lib.hid (SjS.low S2.out (Below.drew (Below.refl _ _)))
        case rest =>
          clear S y0 y1 y2 y3 y4 y5 y6 y7 y8 f0 f1 f2 f3 f4 f5 f6 f7 f8 yl q7 qbl
          have S := hcut
          have q8 := (hEk.out _ S.out.kp).c8
          have qbl := hEl.out _ S.out.kp
          obtain ⟨⟨y0, y1, y2, y3, y4, y5, y6, y7, y8⟩, ⟨f0, f1, f2, f3, f4, f5, f6, f7, f8⟩, yl⟩ := nine_all S.out.bx
          go_upto_region 8 with fail
          have jn := fun W (B : Below wc.heap.size wc W) => l4_big (.slice (some ⟨b0, 0, none⟩) gn gc) (.slice ya yn yc) Y.deps x.deps W (S.out.ids.read.up B (Nat.le_refl _)) ((hEk.out _ (bstep S.out.kp B)).ids) (by omega) (by omega)
          go_region_with (go_at_call 37; (with_reducible refine (jn _ (Below.drew (Below.refl _ _))).mono ?_); rintro e w8 ⟨b2, u2, hb2, rfl, O2, hb⟩; obtain ⟨pn2, pc2, rfl⟩ : ∃ n c, u2 = .slice (some ⟨b2, 0, none⟩) n c := (by obtain ⟨c, e, _⟩ := O2.shape; exact ⟨_, _, e⟩); have S5 := Lib.hid ((S.out.low (Below.drew (Below.refl _ _))).low hb); have hbn : b2 ≠ ob := (by have := lt_of_heap S.out.bx; have h9 : wc.heap.size ≤ b2 := hb2; omega); have hbz : w.heap.size + 1 < b2 := (by have := lt_of_heap S.out.z; have h9 : wc.heap.size ≤ b2 := hb2; omega); clear y0 y1 y2 y3 y4 y5 y6 y7 y8 f0 f1 f2 f3 f4 f5 f6 f7 f8 yl hb; obtain ⟨⟨y0, y1, y2, y3, y4, y5, y6, y7, y8⟩, ⟨f0, f1, f2, f3, f4, f5, f6, f7, f8⟩, yl⟩ := nine_all S5.out.bx)
          all_goals
            have S6 := Lib.hid (S5.out.dp O2 hbn hbz)
            go_wp2_with fail
            go_roundw
            case rel =>
              have SN : SjS w ob (ansE X (E.take (k + 1))) (.slice (some ⟨b2, 0, none⟩) pn2 pc2) b2 (w8.setCell ⟨ob, 8, none⟩ (.slice (some ⟨b2, 0, none⟩) pn2 pc2)) := by
                rw [hnx.out]
                unfold ansS
                rw [hns.out]
                exact S6.out
              exact ⟨k + 1, _, _, by omega, by go_num, Lib.hid SN⟩
            case measure => simp [intOf]; omega
      · obtain rfl : k = l := by omega
        have ht : E.take k = E := List.take_of_length_le (by rw [hl.out]; exact Nat.le_refl _)
        have S1 := S.out
        rw [ht] at S1
        obtain ⟨Y, hY⟩ : ∃ x, Hid (ansE X E = x) := ⟨_, Lib.hid rfl⟩
        rw [hY.out] at S1
        replace S := Lib.hid S1
        clear S1 ht h3
        obtain ⟨gn, gc, rfl⟩ : ∃ n c, u = .slice (some ⟨b0, 0, none⟩) n c := by obtain ⟨c, e, _⟩ := S.out.ids.shape; exact ⟨_, c, e⟩
        have ev := fun W (H : Ids W (.slice (some ⟨b0, 0, none⟩) gn gc) Y.deps) => sentry_any Y (.slice (some ⟨b0, 0, none⟩) gn gc) W H
        obtain ⟨t, ht⟩ : ∃ t, Hid (enB Y = t) := ⟨_, Lib.hid rfl⟩
        simp only [ht.out] at ev
        unfold env at ev
        obtain ⟨⟨y0, y1, y2, y3, y4, y5, y6, y7, y8⟩, _, yl⟩ := nine_all S.out.bx
        go_wp2_with fail
        refine (ev _ S.out.ids.read).mono ?_
        rintro e w7 ⟨rfl, B⟩
        have S2 := Lib.hid (S.out.low B)
        clear y0 y1 y2 y3 y4 y5 y6 y7 y8 yl ev S B
        have R := Lib.hid S2.out.z
        have D := Lib.hid S2.out.kp
        cases t
        · have hQe := hQ.out.symm.trans (sansR_no (X := X) (E := E) (fun g => by have := g.2; rw [hY.out, ht.out] at this; cases this))
          replace hQ := Lib.hid hQe
          clear hQe
          obtain ⟨⟨z0, z1, z2, z3, z4, z5, z6, z7, z8⟩, ⟨f0, f1, f2, f3, f4, f5, f6, f7, f8⟩, zl⟩ := nine_all R.out
          go_wp2_with fail
          refine bodyPost_ret (en_resSj _ _ _ _ _ _ _ _ _ _ _ _ _ _ rfl rfl (put9_at (.int .i64 0) (.int .i64 0) (.int .i64 0) (.int .i64 0) (.int .i64 0) (.int .i64 0) (.int .i64 0) (.int .i64 0) (.slice none 0 0) R.out)) rfl ⟨.slice none 0 0, by rw [hQ.out]; rfl, by rw [hQ.out]; exact .inl ⟨rfl, none, 0, rfl⟩, D.out.trans (put9_below _ _ _ _ _ _ _ _ _ (Nat.le_succ _))⟩
        · have hQe := hQ.out.symm.trans (sansR_yes (X := X) (E := E) ⟨hq.out, by rw [hY.out]; exact ht.out⟩)
          rw [hY.out] at hQe
          replace hQ := Lib.hid hQe
          clear hQe
          obtain ⟨⟨y0, y1, y2, y3, y4, y5, y6, y7, y8⟩, _, yl⟩ := nine_all S2.out.bx
          obtain ⟨⟨z0, z1, z2, z3, z4, z5, z6, z7, z8⟩, ⟨f0, f1, f2, f3, f4, f5, f6, f7, f8⟩, zl⟩ := nine_all R.out
          have hbz : b0 ≠ w.heap.size + 1 := by have := S2.out.nz; omega
          go_wp2_with fail
          refine bodyPost_ret (en_resSj _ _ _ _ _ _ _ _ _ _ _ _ _ _ rfl rfl (put9_at (.int .i64 Y.id.1) (.int .i64 Y.id.2) (.int .i64 Y.bal) (.int .i64 Y.st) (.int .i64 Y.k) (.int .i64 Y.key) (.int .i64 Y.v) (.int .i64 Y.seq) (.slice (some ⟨b0, 0, none⟩) gn gc) R.out)) rfl ⟨_, by rw [hQ.out]; rfl, by rw [hQ.out]; exact OwZ.of (S2.out.ids.same (put9_other _ _ _ _ _ _ _ _ _ hbz)) (by have := S2.out.nz; omega), D.out.trans (put9_below _ _ _ _ _ _ _ _ _ (Nat.le_succ _))⟩
end Go.Proofs.YtfcjhojkfchccaaDoor

/- The walk of FnExactAnswersJoin. -/
namespace Go.Proofs.YtfcjhojkfchccaaDoor
open Go.RowKit
set_option linter.unusedVariables false

theorem LEs.upJ {w w' : World} {B : Nat} {a : Option Addr} {len cap : Nat} (h : LEs w a len cap) (hb : Below B w w') (hB : w.heap.size ≤ B) : LEs w' a len cap := by
  obtain ⟨h1, h2, h3⟩ := h
  refine ⟨h1, h2, ?_⟩
  rcases h3 with h3 | ⟨b, off, rfl, hl, hc⟩
  · exact .inl h3
  · refine .inr ⟨b, off, rfl, Nat.lt_of_lt_of_le hl hb.size, fun i hi => ?_⟩
    obtain ⟨x, ua, un, uc, e0, e1, e2, e3, e4, e5, e6, e7, e8, e9, e10⟩ := hc i hi
    have hcc : ∀ o, w'.cell? ⟨b, o, none⟩ = w.cell? ⟨b, o, none⟩ := fun o => hb.cell (p := ⟨b, o, none⟩) (Nat.lt_of_lt_of_le hl hB)
    exact ⟨x, ua, un, uc, by rw [hcc]; exact e0, by rw [hcc]; exact e1, by rw [hcc]; exact e2, by rw [hcc]; exact e3, by rw [hcc]; exact e4, by rw [hcc]; exact e5, by rw [hcc]; exact e6, by rw [hcc]; exact e7, by rw [hcc]; exact e8, e9, e10.imp id fun ⟨C, hC⟩ => ⟨C, hC.up hb hB⟩⟩
theorem MkE.apart {w w' : World} {P : Nat → Prop} {B E g n : Nat} {L : Nat → Nat × Nat × Nat} (h : MkE w B E g n L) (he : Exc P w w') (hn : ∀ b, B ≤ b → b < E → ¬ P b) : MkE w' B E g n L := by
  obtain ⟨cur, t, h1, h2, h3⟩ := h.blk
  refine ⟨⟨cur, t, he.at (hn g h.g0 h.g1) h1, h2, h3⟩, h.g0, h.g1, fun i hi => ?_⟩
  obtain ⟨a1, a2, a3, a4, cur', t', a5, a6⟩ := h.deps i hi
  exact ⟨a1, a2, a3, a4, cur', t', he.at (hn _ a2 a3) a5, a6⟩
/-- An entry in a box. -/
def BxJ (w : World) (xb : Nat) (X : En) (u : Value) : Prop := w.heap[xb]? = some (.cells #[.int .i64 X.id.1, .int .i64 X.id.2, .int .i64 X.bal, .int .i64 X.st, .int .i64 X.k, .int .i64 X.key, .int .i64 X.v, .int .i64 X.seq, u] 29 (0, 0))
theorem BxJ.up {w w' : World} {xb : Nat} {X : En} {u : Value} (h : BxJ w xb X u) (hb : Below w.heap.size w w') : BxJ w' xb X u := (hb.block xb (lt_of_heap h)).trans h
theorem BxJ.apart {w w' : World} {P : Nat → Prop} {xb : Nat} {X : En} {u : Value} (h : BxJ w xb X u) (he : Exc P w w') (hn : ¬ P xb) : BxJ w' xb X u := he.at hn h
theorem BxJ.cells {w : World} {xb : Nat} {X : En} {u : Value} (h : BxJ w xb X u) : (w.cell? ⟨xb, 0, none⟩ = some (.int .i64 X.id.1) ∧ w.cell? ⟨xb, 1, none⟩ = some (.int .i64 X.id.2) ∧ w.cell? ⟨xb, 2, none⟩ = some (.int .i64 X.bal) ∧ w.cell? ⟨xb, 3, none⟩ = some (.int .i64 X.st) ∧ w.cell? ⟨xb, 4, none⟩ = some (.int .i64 X.k) ∧ w.cell? ⟨xb, 5, none⟩ = some (.int .i64 X.key) ∧ w.cell? ⟨xb, 6, none⟩ = some (.int .i64 X.v) ∧ w.cell? ⟨xb, 7, none⟩ = some (.int .i64 X.seq) ∧ w.cell? ⟨xb, 8, none⟩ = some (u)) ∧ xb < w.heap.size :=
  ⟨nine_cells h, lt_of_heap h⟩
def FxJ (w : World) (xb : Nat) (X : En) (u : Value) (B T : Nat) : Prop := BxJ w xb X u ∧ OwZ w B T u X.deps ∧ ¬ (B ≤ xb ∧ xb < T)
theorem FxJ.up {w w' : World} {xb B T : Nat} {X : En} {u : Value} (h : FxJ w xb X u B T) (hb : Below w.heap.size w w') : FxJ w' xb X u B T := ⟨h.1.up hb, h.2.1.up hb, h.2.2⟩
theorem FxJ.apart {w w' : World} {P : Nat → Prop} {xb B T : Nat} {X : En} {u : Value} (h : FxJ w xb X u B T) (he : Exc P w w') (hx : ¬ P xb) (hn : ∀ b, B ≤ b → b < T → ¬ P b) : FxJ w' xb X u B T := ⟨h.1.apart he hx, h.2.1.apart he hn, h.2.2⟩
set_option maxRecDepth 100000 in
set_option maxHeartbeats 16000000 in
theorem exAnswersJoin_any (p r bal st k key v s : Int) (ua : Option Addr) (un uc : Nat) (a : Option Addr) (len cap : Nat) (w : World) (hun : un ≤ maxLen) (hid : 1048576 < un ∨ ∃ C, Ids w (.slice ua un uc) C) (h : LEs w a len cap) (hT : TabIn w) :
    Calls Tryd.prog 7 #[.agg #[.int .i64 p, .int .i64 r, .int .i64 bal, .int .i64 st, .int .i64 k, .int .i64 key, .int .i64 v, .int .i64 s, .slice ua un uc], .slice a len cap] w fun e w' => e = .returned (.bool true) ∧ Below w.heap.size w w' := by
  have sz := fun W => szE_any p r bal st k key v s ua un uc 1048576 W (by omega) (by omega) (by simpa [maxLen] using hun)
  have D0 := (Below.refl w.heap.size w).alloc (Nat.le_refl _) (.cells #[.int .i64 p, .int .i64 r, .int .i64 bal, .int .i64 st, .int .i64 k, .int .i64 key, .int .i64 v, .int .i64 s, .slice ua un uc] 48)
  have A := Lib.hid (heap_alloc_new w (.cells #[.int .i64 p, .int .i64 r, .int .i64 bal, .int .i64 st, .int .i64 k, .int .i64 key, .int .i64 v, .int .i64 s, .slice ua un uc] 48))
  have D := Lib.hid D0
  replace hT := Lib.hid hT
  by_cases hl : (1048576 : Int) < (un : Int)
  · rw [if_pos hl] at sz
    clear h hid D0 A
    go_enter Tryd.func7, Tryd.ntmps7
    go_wp2_with fail
    refine (sz _).mono ?_
    rintro e w1 ⟨rfl, B⟩
    replace D := Lib.hid (bstep D.out B)
    clear B sz
    go_wp2_with fail
    go_ret
    exact ⟨rfl, D.out⟩
  · rw [if_neg hl] at sz
    obtain ⟨C, hC⟩ := hid.resolve_left (by omega)
    have hC := Lib.hid (hC.up D0 (Nat.le_refl _))
    obtain ⟨y, hy⟩ : ∃ y, (1048576 : Int) - (un : Int) = y := ⟨_, rfl⟩
    rw [hy] at sz
    have hy0 : ¬ y < 0 := by omega
    have zb := fun W (hb : Below w.heap.size w W) => szEc_any a len cap y (by omega) (by omega) W (h.upJ hb (Nat.le_refl _))
    clear hy hl hun D0 h
    obtain ⟨X, e0, e1, e2, e3, e4, e5, e6, e7, e8⟩ : ∃ X : En, X.id.1 = p ∧ X.id.2 = r ∧ X.bal = bal ∧ X.st = st ∧ X.k = k ∧ X.key = key ∧ X.v = v ∧ X.seq = s ∧ X.deps = C := ⟨⟨(p, r), bal, st, k, key, v, s, C⟩, rfl, rfl, rfl, rfl, rfl, rfl, rfl, rfl, rfl⟩
    subst e0 e1 e2 e3 e4 e5 e6 e7 e8
    go_enter Tryd.func7, Tryd.ntmps7
    go_wp2_with fail
    refine (sz _).mono ?_
    rintro e w1 ⟨rfl, B⟩
    replace D := Lib.hid (bstep D.out B)
    replace A := Lib.hid (bblk B (by simp) A.out)
    replace hC := Lib.hid (hC.out.up B (Nat.le_refl _))
    clear B sz
    go_wp2_with fail
    refine (zb _ D.out).mono ?_
    rintro e w2 ⟨⟨z, rfl, hz⟩, B⟩
    rcases hz with rfl | ⟨hz0, hz1, E, hEl, hE⟩
    · replace D := Lib.hid (bstep D.out B)
      clear B zb
      go_wp2_with fail
      go_ret
      exact ⟨rfl, D.out⟩
    · have hzn : ¬ z < 0 := by omega
      replace hE := Lib.hid (hE.up B (Nat.le_refl _))
      replace D := Lib.hid (bstep D.out B)
      replace A := Lib.hid (bblk B (lt_of_heap A.out) A.out)
      replace hC := Lib.hid (hC.out.up B (Nat.le_refl _))
      replace hT := Lib.hid (TabIn.up hT.out D.out (Nat.le_refl _))
      clear B zb
      go_upto_region 8 with fail
      obtain ⟨ib, hib⟩ : ∃ ib, Hid (w.heap.size = ib) := ⟨_, Lib.hid rfl⟩
      have te := fun W (hb : Below w2.heap.size w2 W) => toEs_any _ E W (hE.out.up hb (Nat.le_refl _))
      have tx := fun W (hb : Below w2.heap.size w2 W) => toE_any X (.slice ua un uc) W (hC.out.up hb (Nat.le_refl _))
      obtain ⟨⟨Y, q⟩, hR⟩ : ∃ r, Hid (ansR X E = r) := ⟨_, Lib.hid rfl⟩
      have ip := fun u x W (hT : TabIn W) (H : Ids W u X.deps) (G : Ens W x E) => iaj_any X u x E W hT H G
      have sp := fun u x W (H : Ids W u X.deps) (G : Ens W x E) => sajz_any X u x E W H G
      have qq := fun u v W hu hv => eqE_any X u v W hu hv
      have qs := fun u v W hu hv => eqEs_any u v E W hu hv
      unfold EnsCPost at te
      unfold EnCPost at tx
      unfold AjP at ip
      unfold SjZ at sp
      simp only [hR.out] at ip sp
      unfold env at tx ip sp qq
      rw [hib.out] at A ⊢
      have hil := lt_of_heap A.out
      obtain ⟨m, hm0⟩ : ∃ m, Hid (E.length = m) := ⟨_, Lib.hid rfl⟩
      obtain ⟨m2, hm2⟩ : ∃ m, Hid (X.deps.length = m) := ⟨_, Lib.hid rfl⟩
      have hm2b : m2 ≤ 2000000 := by obtain ⟨_, _, _, _, h, _⟩ := hC.out; rw [← hm2.out]; exact h
      clear hE hC hR hib hEl
      have EE := Lib.hid (Below.refl w2.heap.size w2)
      obtain ⟨⟨y0, y1, y2, y3, y4, y5, y6, y7, y8⟩, _, yl⟩ := nine_all A.out
      go_wp2_with fail
      refine (tx _ EE.out).mono ?_
      rintro e w3 ⟨b1, u1, hb1, rfl, O1, B⟩
      replace EE := Lib.hid (bstep EE.out B)
      replace A := Lib.hid (bblk B (lt_of_heap A.out) A.out)
      have I1 := Lib.hid O1.read
      clear B O1 y0 y1 y2 y3 y4 y5 y6 y7 y8 yl
      go_wp2_with fail
      refine (te _ EE.out).mono ?_
      rintro e w4 ⟨v1, rfl, O2, B⟩
      replace EE := Lib.hid (bstep EE.out B)
      replace A := Lib.hid (bblk B (lt_of_heap A.out) A.out)
      replace I1 := Lib.hid (I1.out.up B (Nat.le_refl _))
      have G1 := Lib.hid O2.read
      clear B O2
      obtain ⟨B6, hB6⟩ : ∃ n, Hid (w4.heap.size = n) := ⟨_, Lib.hid rfl⟩
      go_wp2_with fail
      refine (sp _ _ _ I1.out G1.out).mono ?_
      rintro e w5 ⟨u6, rfl, O6, B⟩
      obtain ⟨va6, vn6, vc6, rfl⟩ : ∃ ua un uc, u6 = .slice ua un uc := by obtain ⟨a, c, e, _⟩ := O6.read; exact ⟨a, _, c, e⟩
      have BA := (Below.refl w5.heap.size w5).alloc (Nat.le_refl _) (.cells #[.int .i64 Y.id.1, .int .i64 Y.id.2, .int .i64 Y.bal, .int .i64 Y.st, .int .i64 Y.k, .int .i64 Y.key, .int .i64 Y.v, .int .i64 Y.seq, .slice va6 vn6 vc6] 29)
      have hs6 := EE.out.size
      rw [hB6.out] at O6 hs6
      have X6 := Lib.hid (show FxJ (w5.alloc (.cells #[.int .i64 Y.id.1, .int .i64 Y.id.2, .int .i64 Y.bal, .int .i64 Y.st, .int .i64 Y.k, .int .i64 Y.key, .int .i64 Y.v, .int .i64 Y.seq, .slice va6 vn6 vc6] 29)) w5.heap.size Y (.slice va6 vn6 vc6) B6 w5.heap.size from ⟨heap_alloc_new _ _, O6.up BA, by omega⟩)
      replace EE := Lib.hid (bstep EE.out (bstep B BA))
      replace A := Lib.hid (bblk (bstep B BA) (lt_of_heap A.out) A.out)
      have hl6 : w5.heap.size < (w5.alloc (.cells #[.int .i64 Y.id.1, .int .i64 Y.id.2, .int .i64 Y.bal, .int .i64 Y.st, .int .i64 Y.k, .int .i64 Y.key, .int .i64 Y.v, .int .i64 Y.seq, .slice va6 vn6 vc6] 29)).heap.size := by simp
      have hx6 : B6 ≤ w5.heap.size := by have := B.size; rw [hB6.out] at this; exact this
      clear B BA I1 G1 sp O6
      go_upto_region 9 with fail
      obtain ⟨xb6, hxb6⟩ : ∃ n, Hid (w5.heap.size = n) := ⟨_, Lib.hid rfl⟩
      rw [hxb6.out] at X6 hl6 hx6 ⊢
      generalize w5.alloc (.cells #[.int .i64 Y.id.1, .int .i64 Y.id.2, .int .i64 Y.bal, .int .i64 Y.st, .int .i64 Y.k, .int .i64 Y.key, .int .i64 Y.v, .int .i64 Y.seq, .slice va6 vn6 vc6] 29) = w6 at X6 EE A hl6 ⊢
      obtain ⟨⟨y0, y1, y2, y3, y4, y5, y6, y7, y8⟩, _, yl⟩ := nine_all A.out
      go_wp2_with fail
      refine (tx _ EE.out).mono ?_
      rintro e w7 ⟨b8, u8, hb8, rfl, O8, B⟩
      obtain ⟨c8, rfl⟩ : ∃ c, u8 = .slice (some ⟨b8, 0, none⟩) m2 c := by obtain ⟨c, e, _⟩ := O8.shape; exact ⟨_, by rw [e, hm2.out]⟩
      have hb8l := O8.lt
      have BA := (Below.refl w7.heap.size w7).alloc (Nat.le_refl _) (.cells #[.int .i64 X.id.1, .int .i64 X.id.2, .int .i64 X.bal, .int .i64 X.st, .int .i64 X.k, .int .i64 X.key, .int .i64 X.v, .int .i64 X.seq, .slice (some ⟨b8, 0, none⟩) m2 c8] 29)
      have X8 := Lib.hid (show BxJ (w7.alloc (.cells #[.int .i64 X.id.1, .int .i64 X.id.2, .int .i64 X.bal, .int .i64 X.st, .int .i64 X.k, .int .i64 X.key, .int .i64 X.v, .int .i64 X.seq, .slice (some ⟨b8, 0, none⟩) m2 c8] 29)) w7.heap.size X (.slice (some ⟨b8, 0, none⟩) m2 c8) from heap_alloc_new _ _)
      replace O8 := Lib.hid (O8.up BA O8.lt)
      replace EE := Lib.hid (bstep EE.out (bstep B BA))
      replace A := Lib.hid (bblk (bstep B BA) (lt_of_heap A.out) A.out)
      replace X6 := Lib.hid (X6.out.up (bstep B BA))
      have hl8 : w7.heap.size < (w7.alloc (.cells #[.int .i64 X.id.1, .int .i64 X.id.2, .int .i64 X.bal, .int .i64 X.st, .int .i64 X.k, .int .i64 X.key, .int .i64 X.v, .int .i64 X.seq, .slice (some ⟨b8, 0, none⟩) m2 c8] 29)).heap.size := by simp
      clear B BA y0 y1 y2 y3 y4 y5 y6 y7 y8 yl
      go_upto_region 10 with fail
      obtain ⟨xb8, hxb8⟩ : ∃ n, Hid (w7.heap.size = n) := ⟨_, Lib.hid rfl⟩
      rw [hxb8.out] at X8 hl8 hb8l ⊢
      generalize w7.alloc (.cells #[.int .i64 X.id.1, .int .i64 X.id.2, .int .i64 X.bal, .int .i64 X.st, .int .i64 X.k, .int .i64 X.key, .int .i64 X.v, .int .i64 X.seq, .slice (some ⟨b8, 0, none⟩) m2 c8] 29) = w8 at X8 O8 X6 EE A hl8 ⊢
      go_wp2_with fail
      refine (te _ EE.out).mono ?_
      rintro e w9 ⟨v9, rfl, O9, B⟩
      obtain ⟨S8, hS8⟩ : ∃ n, Hid (w8.heap.size = n) := ⟨_, Lib.hid rfl⟩
      rw [hS8.out] at O9 hl8
      obtain ⟨gx, cx, Lx, rfl, hm3, hm4, hm⟩ := O9.mk
      obtain ⟨S9, hS9⟩ : ∃ n, Hid (w9.heap.size = n) := ⟨_, Lib.hid rfl⟩
      rw [hS9.out] at hm
      replace hm := Lib.hid hm
      have G9 := Lib.hid O9.read
      have hs9 := B.size
      rw [hS8.out, hS9.out] at hs9
      rw [hm0.out] at hm hm3 G9 ⊢
      replace O8 := Lib.hid (O8.out.up B O8.out.lt)
      replace EE := Lib.hid (bstep EE.out B)
      replace A := Lib.hid (bblk B (lt_of_heap A.out) A.out)
      replace X6 := Lib.hid (X6.out.up B)
      replace X8 := Lib.hid (X8.out.up B)
      clear B O9 hm4
      obtain ⟨⟨o0, o1, o2, o3, o4, o5, o6, o7, o8⟩, ol⟩ := X8.out.cells
      go_wp2_with fail
      refine (ip _ _ _ (TabIn.up hT.out EE.out (Nat.le_refl _)) O8.out.read G9.out).mono ?_
      rintro e w10 ⟨u10, rfl, O10, B⟩
      obtain ⟨va10, vn10, vc10, rfl⟩ : ∃ ua un uc, u10 = .slice ua un uc := by obtain ⟨a, c, e, _⟩ := O10.read; exact ⟨a, _, c, e⟩
      rw [hS9.out] at O10
      have hs10 := B.size
      rw [hS9.out] at hs10
      have BA := (Below.refl w10.heap.size w10).alloc (Nat.le_refl _) (.cells #[.int .i64 Y.id.1, .int .i64 Y.id.2, .int .i64 Y.bal, .int .i64 Y.st, .int .i64 Y.k, .int .i64 Y.key, .int .i64 Y.v, .int .i64 Y.seq, .slice va10 vn10 vc10] 29)
      have X10 := Lib.hid (show FxJ (w10.alloc (.cells #[.int .i64 Y.id.1, .int .i64 Y.id.2, .int .i64 Y.bal, .int .i64 Y.st, .int .i64 Y.k, .int .i64 Y.key, .int .i64 Y.v, .int .i64 Y.seq, .slice va10 vn10 vc10] 29)) w10.heap.size Y (.slice va10 vn10 vc10) S9 w10.heap.size from ⟨heap_alloc_new _ _, O10.up BA, by omega⟩)
      replace O8 := Lib.hid (O8.out.up (bstep B BA) O8.out.lt)
      replace EE := Lib.hid (bstep EE.out (bstep B BA))
      replace A := Lib.hid (bblk (bstep B BA) (lt_of_heap A.out) A.out)
      replace X6 := Lib.hid (X6.out.up (bstep B BA))
      replace X8 := Lib.hid (X8.out.up (bstep B BA))
      replace hm := Lib.hid (hm.out.up (bstep B BA))
      replace G9 := Lib.hid (G9.out.up (bstep B BA) (Nat.le_refl _))
      clear B BA o0 o1 o2 o3 o4 o5 o6 o7 o8 ol O10
      go_upto_region 12 with fail
      obtain ⟨T9, hT9⟩ : ∃ n, Hid (w10.heap.size = n) := ⟨_, Lib.hid rfl⟩
      rw [hT9.out] at X10 hs10 ⊢
      generalize w10.alloc (.cells #[.int .i64 Y.id.1, .int .i64 Y.id.2, .int .i64 Y.bal, .int .i64 Y.st, .int .i64 Y.k, .int .i64 Y.key, .int .i64 Y.v, .int .i64 Y.seq, .slice va10 vn10 vc10] 29) = w11 at X10 X8 O8 X6 EE A hm G9 ⊢
      obtain ⟨⟨p0, p1, p2, p3, p4, p5, p6, p7, p8⟩, pl⟩ := X10.out.1.cells
      obtain ⟨⟨r0, r1, r2, r3, r4, r5, r6, r7, r8⟩, rl⟩ := X6.out.1.cells
      go_wp2_with fail
      refine (eqE_any Y _ _ _ X10.out.2.1.read X6.out.2.1.read).mono ?_
      rintro e w12 ⟨rfl, B⟩
      clear p0 p1 p2 p3 p4 p5 p6 p7 p8 pl r0 r1 r2 r3 r4 r5 r6 r7 r8 rl
      replace O8 := Lib.hid (O8.out.up B O8.out.lt)
      replace EE := Lib.hid (bstep EE.out B)
      replace A := Lib.hid (bblk B (lt_of_heap A.out) A.out)
      replace X6 := Lib.hid (X6.out.up B)
      replace X8 := Lib.hid (X8.out.up B)
      replace hm := Lib.hid (hm.out.up B)
      replace G9 := Lib.hid (G9.out.up B (Nat.le_refl _))
      replace X10 := Lib.hid (X10.out.up B)
      clear B
      obtain ⟨⟨o0, o1, o2, o3, o4, o5, o6, o7, o8⟩, ol⟩ := X8.out.cells
      obtain ⟨⟨y0, y1, y2, y3, y4, y5, y6, y7, y8⟩, _, yl⟩ := nine_all A.out
      go_upto_region 14 with fail
      refine wp_region_held_drew (S := fun w' => w'.cell? ⟨xb8, 0, none⟩ = some (.int .i64 X.id.1) ∧ w'.cell? ⟨xb8, 1, none⟩ = some (.int .i64 X.id.2) ∧ w'.cell? ⟨xb8, 2, none⟩ = some (.int .i64 X.bal) ∧ w'.cell? ⟨xb8, 3, none⟩ = some (.int .i64 X.st) ∧ w'.cell? ⟨xb8, 4, none⟩ = some (.int .i64 X.k) ∧ w'.cell? ⟨xb8, 5, none⟩ = some (.int .i64 X.key) ∧ w'.cell? ⟨xb8, 6, none⟩ = some (.int .i64 X.v) ∧ w'.cell? ⟨xb8, 7, none⟩ = some (.int .i64 X.seq) ∧ w'.cell? ⟨xb8, 8, none⟩ = some (.slice (some ⟨b8, 0, none⟩) m2 c8) ∧ w'.cell? ⟨ib, 0, none⟩ = some (.int .i64 X.id.1) ∧ w'.cell? ⟨ib, 1, none⟩ = some (.int .i64 X.id.2) ∧ w'.cell? ⟨ib, 2, none⟩ = some (.int .i64 X.bal) ∧ w'.cell? ⟨ib, 3, none⟩ = some (.int .i64 X.st) ∧ w'.cell? ⟨ib, 4, none⟩ = some (.int .i64 X.k) ∧ w'.cell? ⟨ib, 5, none⟩ = some (.int .i64 X.key) ∧ w'.cell? ⟨ib, 6, none⟩ = some (.int .i64 X.v) ∧ w'.cell? ⟨ib, 7, none⟩ = some (.int .i64 X.seq) ∧ w'.cell? ⟨ib, 8, none⟩ = some (.slice ua un uc) ∧ Below w12.heap.size w12 w') (by kernel_rfl) ⟨o0, o1, o2, o3, o4, o5, o6, o7, o8, y0, y1, y2, y3, y4, y5, y6, y7, y8, Below.drew (Below.refl _ _)⟩ (fun hHeld => ?_)
      refine wpAnyH_take (i := 0) (oi := ⟨some 54, _, _, _, _, _⟩) (v := ?_) rfl (by kernel_rfl) (by kernel_rfl) (by kernel_rfl) (fun _ _ _ h => h) (Or.inl ⟨by rfl, ?_⟩) (by assumption) ?_
      rotate_left 1
      · intro w hSw; (try dsimp only at hSw); go_simp; try (with_reducible rfl)
      try simp only [Act.put, List.setIfInBounds_toArray, List.set_cons_zero, List.set_cons_succ]
      refine wpAnyH_take (i := 1) (oi := ⟨some 55, _, _, _, _, _⟩) (v := ?_) rfl (by kernel_rfl) (by kernel_rfl) (by kernel_rfl) (fun _ _ _ h => h) (Or.inl ⟨by rfl, ?_⟩) (by assumption) ?_
      rotate_left 1
      · intro w hSw; (try dsimp only at hSw); go_simp; try (with_reducible rfl)
      try simp only [Act.put, List.setIfInBounds_toArray, List.set_cons_zero, List.set_cons_succ]
      refine wpAnyH_ready (rs := [2]) (by kernel_rfl) (by simp) ?_
      refine AllReadyH.cons (o := ⟨some 56, _, _, _, _, _⟩) rfl (fun K hK => ?_) AllReadyH.nil
      go_simp
      with_reducible refine (tx _ (bstep EE.out hHeld.2.2.2.2.2.2.2.2.2.2.2.2.2.2.2.2.2.2)).mono ?_
      rintro e wq2 ⟨b6, u6x, hb6, rfl, O6x, hb⟩
      go_wp2_with fail
      have I2 := Lib.hid (O8.out.read.up (bstep hHeld.2.2.2.2.2.2.2.2.2.2.2.2.2.2.2.2.2.2 hb) (Nat.le_refl _))
      have I6 := Lib.hid O6x.read
      clear O6x
      refine hK.out _ _ ?_ (fun hHeld2 => ?_)
      · exact ⟨cell_later hb hHeld.1, cell_later hb hHeld.2.1, cell_later hb hHeld.2.2.1, cell_later hb hHeld.2.2.2.1, cell_later hb hHeld.2.2.2.2.1, cell_later hb hHeld.2.2.2.2.2.1, cell_later hb hHeld.2.2.2.2.2.2.1, cell_later hb hHeld.2.2.2.2.2.2.2.1, cell_later hb hHeld.2.2.2.2.2.2.2.2.1, cell_later hb hHeld.2.2.2.2.2.2.2.2.2.1, cell_later hb hHeld.2.2.2.2.2.2.2.2.2.2.1, cell_later hb hHeld.2.2.2.2.2.2.2.2.2.2.2.1, cell_later hb hHeld.2.2.2.2.2.2.2.2.2.2.2.2.1, cell_later hb hHeld.2.2.2.2.2.2.2.2.2.2.2.2.2.1, cell_later hb hHeld.2.2.2.2.2.2.2.2.2.2.2.2.2.2.1, cell_later hb hHeld.2.2.2.2.2.2.2.2.2.2.2.2.2.2.2.1, cell_later hb hHeld.2.2.2.2.2.2.2.2.2.2.2.2.2.2.2.2.1, cell_later hb hHeld.2.2.2.2.2.2.2.2.2.2.2.2.2.2.2.2.2.1, hHeld.2.2.2.2.2.2.2.2.2.2.2.2.2.2.2.2.2.2.trans (hb.mono hHeld.2.2.2.2.2.2.2.2.2.2.2.2.2.2.2.2.2.2.size)⟩
      clear hK K hHeld hb
      have hHeld := hHeld2
      clear hHeld2
      try simp only [Act.put, List.setIfInBounds_toArray, List.set_cons_zero, List.set_cons_succ]
      refine wpAnyH_ready (rs := [3]) (by kernel_rfl) (by simp) ?_
      refine AllReadyH.cons (o := ⟨some 57, _, _, _, _, _⟩) rfl (fun K hK => ?_) AllReadyH.nil
      go_simp
      with_reducible refine (qq _ _ _ I2.out I6.out).mono ?_
      rintro e wq3 ⟨rfl, hb⟩
      go_wp2_with fail
      refine hK.out _ _ ?_ (fun hHeld2 => ?_)
      · exact ⟨cell_later hb hHeld.1, cell_later hb hHeld.2.1, cell_later hb hHeld.2.2.1, cell_later hb hHeld.2.2.2.1, cell_later hb hHeld.2.2.2.2.1, cell_later hb hHeld.2.2.2.2.2.1, cell_later hb hHeld.2.2.2.2.2.2.1, cell_later hb hHeld.2.2.2.2.2.2.2.1, cell_later hb hHeld.2.2.2.2.2.2.2.2.1, cell_later hb hHeld.2.2.2.2.2.2.2.2.2.1, cell_later hb hHeld.2.2.2.2.2.2.2.2.2.2.1, cell_later hb hHeld.2.2.2.2.2.2.2.2.2.2.2.1, cell_later hb hHeld.2.2.2.2.2.2.2.2.2.2.2.2.1, cell_later hb hHeld.2.2.2.2.2.2.2.2.2.2.2.2.2.1, cell_later hb hHeld.2.2.2.2.2.2.2.2.2.2.2.2.2.2.1, cell_later hb hHeld.2.2.2.2.2.2.2.2.2.2.2.2.2.2.2.1, cell_later hb hHeld.2.2.2.2.2.2.2.2.2.2.2.2.2.2.2.2.1, cell_later hb hHeld.2.2.2.2.2.2.2.2.2.2.2.2.2.2.2.2.2.1, hHeld.2.2.2.2.2.2.2.2.2.2.2.2.2.2.2.2.2.2.trans (hb.mono hHeld.2.2.2.2.2.2.2.2.2.2.2.2.2.2.2.2.2.2.size)⟩
      clear hK K hHeld hb
      have hHeld := hHeld2
      clear hHeld2
      try simp only [Act.put, List.setIfInBounds_toArray, List.set_cons_zero, List.set_cons_succ]
      refine wpAnyH_take (i := 4) (oi := ⟨some 58, _, _, _, _, _⟩) (v := ?_) rfl (by kernel_rfl) (by kernel_rfl) (by kernel_rfl) (fun _ _ _ h => h) (Or.inl ⟨by rfl, ?_⟩) (by assumption) ?_
      rotate_left 1
      · intro w hSw; (try dsimp only at hSw); go_simp; try (with_reducible rfl)
      try simp only [Act.put, List.setIfInBounds_toArray, List.set_cons_zero, List.set_cons_succ]
      refine wpAnyH_done (by kernel_rfl) ?_ _
      try simp only [Act.put, List.setIfInBounds_toArray, List.set_cons_zero, List.set_cons_succ]
      have H9 := Lib.hid hHeld.2.2.2.2.2.2.2.2.2.2.2.2.2.2.2.2.2.2
      clear hHeld o0 o1 o2 o3 o4 o5 o6 o7 o8 ol y0 y1 y2 y3 y4 y5 y6 y7 y8 yl I2 I6
      replace O8 := Lib.hid (O8.out.up H9.out O8.out.lt)
      replace EE := Lib.hid (bstep EE.out H9.out)
      replace A := Lib.hid (bblk H9.out (lt_of_heap A.out) A.out)
      replace X6 := Lib.hid (X6.out.up H9.out)
      replace X8 := Lib.hid (X8.out.up H9.out)
      replace hm := Lib.hid (hm.out.up H9.out)
      replace G9 := Lib.hid (G9.out.up H9.out (Nat.le_refl _))
      replace X10 := Lib.hid (X10.out.up H9.out)
      go_wp2_with fail
      refine (te _ EE.out).mono ?_
      rintro e w13 ⟨v13, rfl, O13, B⟩
      have G13 := Lib.hid O13.read
      replace O8 := Lib.hid (O8.out.up B O8.out.lt)
      replace EE := Lib.hid (bstep EE.out B)
      replace A := Lib.hid (bblk B (lt_of_heap A.out) A.out)
      replace X6 := Lib.hid (X6.out.up B)
      replace X8 := Lib.hid (X8.out.up B)
      replace hm := Lib.hid (hm.out.up B)
      replace G9 := Lib.hid (G9.out.up B (Nat.le_refl _))
      replace X10 := Lib.hid (X10.out.up B)
      clear B O13 H9
      go_wp2_with fail
      refine (qs _ _ _ G9.out G13.out).mono ?_
      rintro e w14 ⟨rfl, B⟩
      replace O8 := Lib.hid (O8.out.up B O8.out.lt)
      replace EE := Lib.hid (bstep EE.out B)
      replace A := Lib.hid (bblk B (lt_of_heap A.out) A.out)
      replace X6 := Lib.hid (X6.out.up B)
      replace X8 := Lib.hid (X8.out.up B)
      replace hm := Lib.hid (hm.out.up B)
      replace X10 := Lib.hid (X10.out.up B)
      clear B G9 G13
      have hsE := EE.out.size
      obtain ⟨⟨o0, o1, o2, o3, o4, o5, o6, o7, o8⟩, ol⟩ := X8.out.cells
      go_wp2_with fail
      refine (markE_z b8 (b8 + 1) X _ X.deps 1 _ (.inr ⟨b8, Nat.le_refl _, Nat.lt_succ_self _, O8.out⟩) (by omega) (by omega)).mono ?_
      rintro e w15 ⟨rfl, M8, _, _, _, XX⟩
      rw [hm2.out]
      clear o0 o1 o2 o3 o4 o5 o6 o7 o8 ol O8 X8
      replace X6 := Lib.hid (X6.out.apart XX (by omega) (fun b _ _ => by omega))
      replace hm := Lib.hid (hm.out.apart XX (fun b _ _ => by omega))
      replace X10 := Lib.hid (X10.out.apart XX (by omega) (fun b _ _ => by omega))
      replace EE := Lib.hid (EE.out.trans (XX.to (B := w2.heap.size) EE.out.size (fun b hb => by omega)))
      replace A := Lib.hid (XX.at (by omega) A.out)
      clear XX
      have mk := markEs_lez _ _ gx m cx Lx (1 + 2 * (m2 : Int)) (by omega) (by omega) _ hm3 hm.out
      go_wp2_with fail
      refine (mk).mono ?_
      rintro e w16 ⟨zk, rfl, hzk, _, XX⟩
      have hzk2 : ¬ zk < 0 := by omega
      have hsE2 := EE.out.size
      replace X6 := Lib.hid (X6.out.apart XX (by omega) (fun b _ _ => by omega))
      replace X10 := Lib.hid (X10.out.apart XX (by omega) (fun b _ _ => by omega))
      replace EE := Lib.hid (EE.out.trans (XX.to (B := w2.heap.size) EE.out.size (fun b hb => by omega)))
      replace A := Lib.hid (XX.at (by omega) A.out)
      clear XX mk hm
      obtain ⟨⟨p0, p1, p2, p3, p4, p5, p6, p7, p8⟩, pl⟩ := X10.out.1.cells
      obtain ⟨⟨r0, r1, r2, r3, r4, r5, r6, r7, r8⟩, rl⟩ := X6.out.1.cells
      go_wp2_with fail
      refine (eqE_any Y _ _ _ X10.out.2.1.read X6.out.2.1.read).mono ?_
      rintro e w17 ⟨rfl, B⟩
      clear p0 p1 p2 p3 p4 p5 p6 p7 p8 pl r0 r1 r2 r3 r4 r5 r6 r7 r8 rl
      replace EE := Lib.hid (bstep EE.out B)
      replace A := Lib.hid (bblk B (lt_of_heap A.out) A.out)
      replace X6 := Lib.hid (X6.out.up B)
      replace X10 := Lib.hid (X10.out.up B)
      clear B
      obtain ⟨⟨r0, r1, r2, r3, r4, r5, r6, r7, r8⟩, rl⟩ := X10.out.1.cells
      have hDl : Y.deps.length ≤ 2000000 := by obtain ⟨_, _, _, _, h, _⟩ := X10.out.2.1.read; exact h
      obtain ⟨ns, hns⟩ : ∃ n, Hid (Y.deps.length = n) := ⟨_, Lib.hid rfl⟩
      rw [hns.out] at hDl
      go_wp2_with fail
      refine (markE_z S9 T9 Y _ Y.deps 1 _ X10.out.2.1 (by omega) (by omega)).mono ?_
      rintro e w18 ⟨rfl, M, hM, hMk, hO, XX⟩
      rw [hns.out] at hM
      replace hM := Lib.hid hM
      replace hMk := Lib.hid hMk
      have hx10 := X10.out.2.2
      have hsE3 := EE.out.size
      have G10 := Lib.hid (X10.out.1.apart XX hx10)
      have O10 := Lib.hid hO
      replace X6 := Lib.hid (X6.out.apart XX (by omega) (fun b _ _ => by omega))
      replace EE := Lib.hid (EE.out.trans (XX.to (B := w2.heap.size) EE.out.size (fun b hb => by omega)))
      replace A := Lib.hid (XX.at (by omega) A.out)
      clear XX hO X10 r0 r1 r2 r3 r4 r5 r6 r7 r8 rl
      rw [hns.out]
      obtain ⟨⟨r0, r1, r2, r3, r4, r5, r6, r7, r8⟩, rl⟩ := G10.out.cells
      go_wp2_with fail
      refine (heldE_z Y _ 1 M _ hMk.out O10.out.read (by omega) (by omega)).mono ?_
      rw [hM.out]
      rintro e w19 ⟨rfl, B⟩
      replace G10 := Lib.hid (G10.out.up B)
      replace O10 := Lib.hid (O10.out.up B)
      replace EE := Lib.hid (bstep EE.out B)
      replace A := Lib.hid (bblk B (lt_of_heap A.out) A.out)
      replace X6 := Lib.hid (X6.out.up B)
      clear B r0 r1 r2 r3 r4 r5 r6 r7 r8 rl
      obtain ⟨⟨y0, y1, y2, y3, y4, y5, y6, y7, y8⟩, _, yl⟩ := nine_all A.out
      go_wp2_with fail
      refine (tx _ EE.out).mono ?_
      rintro e w20 ⟨b1, u1, hb1, rfl, O1, B⟩
      replace G10 := Lib.hid (G10.out.up B)
      replace O10 := Lib.hid (O10.out.up B)
      replace EE := Lib.hid (bstep EE.out B)
      replace X6 := Lib.hid (X6.out.up B)
      have I1 := Lib.hid O1.read
      clear B O1 y0 y1 y2 y3 y4 y5 y6 y7 y8 yl A
      go_wp2_with fail
      refine (te _ EE.out).mono ?_
      rintro e w21 ⟨v1, rfl, O2, B⟩
      replace G10 := Lib.hid (G10.out.up B)
      replace O10 := Lib.hid (O10.out.up B)
      replace EE := Lib.hid (bstep EE.out B)
      replace X6 := Lib.hid (X6.out.up B)
      replace I1 := Lib.hid (I1.out.up B (Nat.le_refl _))
      have G1 := Lib.hid O2.read
      clear B O2
      go_wp2_with fail
      refine (ip _ _ _ (TabIn.up hT.out EE.out (Nat.le_refl _)) I1.out G1.out).mono ?_
      rintro e w22 ⟨u15, rfl, O15, B⟩
      obtain ⟨va15, vn15, vc15, rfl⟩ : ∃ ua un uc, u15 = .slice ua un uc := by obtain ⟨a, c, e, _⟩ := O15.read; exact ⟨a, _, c, e⟩
      have BA := (Below.refl w22.heap.size w22).alloc (Nat.le_refl _) (.cells #[.int .i64 Y.id.1, .int .i64 Y.id.2, .int .i64 Y.bal, .int .i64 Y.st, .int .i64 Y.k, .int .i64 Y.key, .int .i64 Y.v, .int .i64 Y.seq, .slice va15 vn15 vc15] 29)
      have X15 := Lib.hid (show FxJ (w22.alloc (.cells #[.int .i64 Y.id.1, .int .i64 Y.id.2, .int .i64 Y.bal, .int .i64 Y.st, .int .i64 Y.k, .int .i64 Y.key, .int .i64 Y.v, .int .i64 Y.seq, .slice va15 vn15 vc15] 29)) w22.heap.size Y (.slice va15 vn15 vc15) w21.heap.size w22.heap.size from ⟨heap_alloc_new _ _, O15.up BA, by omega⟩)
      replace G10 := Lib.hid (G10.out.up (bstep B BA))
      replace O10 := Lib.hid (O10.out.up (bstep B BA))
      replace EE := Lib.hid (bstep EE.out (bstep B BA))
      replace X6 := Lib.hid (X6.out.up (bstep B BA))
      clear B BA I1 G1 O15 ip te tx
      go_upto_region 32 with fail
      generalize w22.heap.size = xb15 at X15 ⊢
      generalize w22.alloc (.cells #[.int .i64 Y.id.1, .int .i64 Y.id.2, .int .i64 Y.bal, .int .i64 Y.st, .int .i64 Y.k, .int .i64 Y.key, .int .i64 Y.v, .int .i64 Y.seq, .slice va15 vn15 vc15] 29) = w23 at X15 G10 O10 X6 EE ⊢
      obtain ⟨⟨p0, p1, p2, p3, p4, p5, p6, p7, p8⟩, pl⟩ := X15.out.1.cells
      obtain ⟨⟨r0, r1, r2, r3, r4, r5, r6, r7, r8⟩, rl⟩ := X6.out.1.cells
      go_wp2_with fail
      refine (eqE_any Y _ _ _ X15.out.2.1.read X6.out.2.1.read).mono ?_
      rintro e w24 ⟨rfl, B⟩
      clear p0 p1 p2 p3 p4 p5 p6 p7 p8 pl r0 r1 r2 r3 r4 r5 r6 r7 r8 rl
      replace G10 := Lib.hid (G10.out.up B)
      replace O10 := Lib.hid (O10.out.up B)
      replace EE := Lib.hid (bstep EE.out B)
      clear B X15 X6
      obtain ⟨⟨r0, r1, r2, r3, r4, r5, r6, r7, r8⟩, rl⟩ := G10.out.cells
      go_wp2_with fail
      refine (heldE_z Y _ 1 M _ hMk.out O10.out.read (by omega) (by omega)).mono ?_
      rw [hM.out]
      rintro e w25 ⟨rfl, B⟩
      replace EE := Lib.hid (bstep EE.out B)
      have D2 := Lib.hid (bstep D.out EE.out)
      clear B
      go_wp2_with fail
      go_ret
      exact ⟨rfl, D2.out⟩
end Go.Proofs.YtfcjhojkfchccaaDoor
