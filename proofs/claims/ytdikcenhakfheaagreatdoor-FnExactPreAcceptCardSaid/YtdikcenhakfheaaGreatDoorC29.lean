/- Texts laid together. -/
import Derived.Test.YtdikcenhakfheaaGreatDoorC14
import Derived.Test.YtdikcenhakfheaaGreatDoorC28
import Derived.Test.YtdikcenhakfheaaGreatDoorC11
/- The program's PreAccept. -/
namespace Go.Proofs.YtdikcenhakfheaaGreatDoor
open Go.RowKit
set_option linter.unusedVariables false

theorem en_resIa (tm : Array Value) (w : World) (b : Nat) (l q : Value) (x0 x1 x2 x3 x4 x5 x6 x7 x8 : Value) (t : TypeId) (h1 : tm[4]? = some l) (h2 : tm[5]? = some (.pointer (some ⟨b, 0, none⟩))) (h3 : tm[6]? = some q) (h : w.heap[b]? = some (.cells #[x0, x1, x2, x3, x4, x5, x6, x7, x8] t (0, 0))) :
    (results Tryz.f9 tm).run Tryz.prog w = .ok (.tuple #[l, .agg #[x0, x1, x2, x3, x4, x5, x6, x7, x8], q]) w := by
  obtain ⟨t0, t1, t2, t3, t4, t5, t6, t7, t8⟩ := nine_cells h
  simp [results, Tryz.results9, go_sem, h1, h2, h3, t0, t1, t2, t3, t4, t5, t6, t7, t8]
theorem pre_eq {E : List En} {X : En} (hv : logB E = true) (hX : enB X = true) (hs : X.st = 1) :
    (⟨X.id, X.bal, 1, X.k, X.key, X.v, max X.seq (topE (clsE E X.id X.k X.key) + 1), idsO (joinF (setF X.deps) (mask (idsE (clsE E X.id X.k X.key))))⟩ : En) = preE E X := by
  have h : idsO (joinF (setF X.deps) (mask (idsE (clsE E X.id X.k X.key)))) = joinP X.deps (idsE (clsE E X.id X.k X.key)) := by
    rw [← setF_t (cls_srt hv _ _ _)]; exact idsO_join (enB_of hX).2.2.1 (cls_srt hv _ _ _)
  rw [h]
  unfold preE
  rw [← hs]
theorem st_iff {X : En} : (X.st == 1) = true ↔ X.st = 1 := by simp

set_option maxRecDepth 100000 in
set_option maxHeartbeats 8000000 in
theorem ipre_any (u ux : Value) (E : List En) (X : En) (w : World) (hT : TabIn w) (h : Ens w u E) (hu : Ids w ux X.deps) :
    Calls Tryz.prog 9 #[u, env X ux] w (PrP (preR E X) w) := by
  obtain ⟨xa, xn, xc, rfl⟩ : ∃ ua un uc, ux = .slice ua un uc := by obtain ⟨a, c, e, _⟩ := hu; exact ⟨a, _, c, e⟩
  have A0 := Lib.hid ((Below.heap_alloc _ (.cells #[.int .i64 0, .int .i64 0, .int .i64 0, .int .i64 0, .int .i64 0, .int .i64 0, .int .i64 0, .int .i64 0, .slice none 0 0] 30) _ (by simp)).trans (heap_alloc_new w (.cells #[.int .i64 X.id.1, .int .i64 X.id.2, .int .i64 X.bal, .int .i64 X.st, .int .i64 X.k, .int .i64 X.key, .int .i64 X.v, .int .i64 X.seq, .slice xa xn xc] 30)))
  have R0 := Lib.hid (heap_alloc_at (w.alloc (.cells #[.int .i64 X.id.1, .int .i64 X.id.2, .int .i64 X.bal, .int .i64 X.st, .int .i64 X.k, .int .i64 X.key, .int .i64 X.v, .int .i64 X.seq, .slice xa xn xc] 30)) (.cells #[.int .i64 0, .int .i64 0, .int .i64 0, .int .i64 0, .int .i64 0, .int .i64 0, .int .i64 0, .int .i64 0, .slice none 0 0] 30) (w.heap.size + 1) (by simp))
  have D0 := Lib.hid (((Below.refl w.heap.size w).alloc (Nat.le_refl _) (.cells #[.int .i64 X.id.1, .int .i64 X.id.2, .int .i64 X.bal, .int .i64 X.st, .int .i64 X.k, .int .i64 X.key, .int .i64 X.v, .int .i64 X.seq, .slice xa xn xc] 30)).alloc (by simp) (.cells #[.int .i64 0, .int .i64 0, .int .i64 0, .int .i64 0, .int .i64 0, .int .i64 0, .int .i64 0, .int .i64 0, .slice none 0 0] 30))
  obtain ⟨U, hU, bk⟩ := ibook_any u E _ (h.up D0.out (Nat.le_refl _))
  have hU := Lib.hid hU
  have hI := Lib.hid (hu.up D0.out (Nat.le_refl _))
  have hT := Lib.hid (TabIn.up hT D0.out (Nat.le_refl _))
  unfold BkPost at bk
  obtain ⟨q, hq⟩ : ∃ q, Hid (logB E = q) := ⟨_, Lib.hid rfl⟩
  rw [hq.out] at bk
  clear h hu
  unfold env
  go_enter Tryz.func9, Tryz.ntmps9
  go_wp2_with fail
  refine bk.mono ?_
  rintro e wB ⟨hcase, B⟩
  have hs0 : w.heap.size + 2 ≤ ((w.alloc (.cells #[.int .i64 X.id.1, .int .i64 X.id.2, .int .i64 X.bal, .int .i64 X.st, .int .i64 X.k, .int .i64 X.key, .int .i64 X.v, .int .i64 X.seq, .slice xa xn xc] 30)).alloc (.cells #[.int .i64 0, .int .i64 0, .int .i64 0, .int .i64 0, .int .i64 0, .int .i64 0, .int .i64 0, .int .i64 0, .slice none 0 0] 30)).heap.size := by simp
  have A1 := Lib.hid (bblk B (lt_of_heap A0.out) A0.out)
  have R1 := Lib.hid (bblk B (lt_of_heap R0.out) R0.out)
  have D1 := Lib.hid (bstep D0.out B)
  replace hU := Lib.hid (fun k (hk : k < E.length) => (hU.out k hk).up B (Nat.le_refl _))
  replace hI := Lib.hid (hI.out.up B (Nat.le_refl _))
  replace hT := Lib.hid (TabIn.up hT.out B (Nat.le_refl _))
  clear B A0 R0 D0 bk
  have po := ipropOf_any X (.slice xa xn xc) wB hI.out
  obtain ⟨g, hg⟩ : ∃ g, Hid ((enB X && (X.st == 1)) = g) := ⟨_, Lib.hid rfl⟩
  rw [hg.out] at po
  unfold env prV at po
  rcases hcase with ⟨hqt, bb, hbb0, rfl, hB⟩ | ⟨hqf, rfl⟩
  · subst hqt
    have hbb : w.heap.size + 2 ≤ bb := Nat.le_trans hs0 hbb0
    have hB := Lib.hid hB
    clear hs0 hbb0
    obtain ⟨⟨z0, z1, z2, z3, z4, z5, z6, z7, z8⟩, ⟨zf0, zf1, zf2, zf3, zf4, zf5, zf6, zf7, zf8⟩, zl⟩ := nine_all A1.out
    go_wp2_with fail
    refine po.mono ?_
    rintro e wP ⟨rfl, B⟩
    have BA := bstep B ((Below.refl wP.heap.size wP).alloc (Nat.le_refl _) (.cells #[.int .i64 X.id.1, .int .i64 X.id.2, .int .i64 X.bal, .int .i64 X.k, .int .i64 X.key, .int .i64 X.v, .int .i64 X.seq, .int .u64 (setF X.deps 0), .int .u64 (setF X.deps 1), .int .u64 (setF X.deps 2), .int .u64 (setF X.deps 3), .int .u64 (setF X.deps 4)] 78))
    have P1 := Lib.hid (heap_alloc_new wP (.cells #[.int .i64 X.id.1, .int .i64 X.id.2, .int .i64 X.bal, .int .i64 X.k, .int .i64 X.key, .int .i64 X.v, .int .i64 X.seq, .int .u64 (setF X.deps 0), .int .u64 (setF X.deps 1), .int .u64 (setF X.deps 2), .int .u64 (setF X.deps 3), .int .u64 (setF X.deps 4)] 78))
    replace R1 := Lib.hid (bblk BA (lt_of_heap R1.out) R1.out)
    have D2 := Lib.hid (BA.mono (Nat.le_refl _))
    replace hU := Lib.hid (fun k (hk : k < E.length) => (hU.out k hk).up BA (Nat.le_refl _))
    replace hB := Lib.hid (hB.out.up BA hB.out.lt)
    replace hT := Lib.hid (TabIn.up hT.out BA (Nat.le_refl _))
    replace D1 := Lib.hid (bstep D1.out BA)
    clear B BA po hI A1 D2 z0 zf0 z1 zf1 z2 zf2 z3 zf3 z4 zf4 z5 zf5 z6 zf6 z7 zf7 z8 zf8 zl
    go_upto_region 3 with fail
    obtain ⟨pb, hpb⟩ : ∃ c, Hid (wP.heap.size = c) := ⟨_, Lib.hid rfl⟩
    rw [hpb.out] at P1 ⊢
    generalize wP.alloc (.cells #[.int .i64 X.id.1, .int .i64 X.id.2, .int .i64 X.bal, .int .i64 X.k, .int .i64 X.key, .int .i64 X.v, .int .i64 X.seq, .int .u64 (setF X.deps 0), .int .u64 (setF X.deps 1), .int .u64 (setF X.deps 2), .int .u64 (setF X.deps 3), .int .u64 (setF X.deps 4)] 78) = w2 at P1 R1 hU hB hT D1 ⊢
    clear hpb
    cases g
    · have hQ := Lib.hid (show preR E X = ([], en0, false) from preR_bad (fun hh => by have := hg.out; rw [hh.2.1, hh.2.2.1] at this; simp at this))
      clear hU hB hT P1
      have hPP := Lib.hid (pp_fail (bb := w.heap.size) (Keep.of_below D1.out) (Nat.le_succ _) R1.out)
      obtain ⟨⟨z0, z1, z2, z3, z4, z5, z6, z7, z8⟩, ⟨zf0, zf1, zf2, zf3, zf4, zf5, zf6, zf7, zf8⟩, zl⟩ := nine_all R1.out
      go_wp2_with fail
      refine bodyPost_ret (en_resIa _ _ _ _ _ _ _ _ _ _ _ _ _ _ _ rfl rfl rfl hPP.out.2) rfl ?_
      rw [hQ.out]
      exact prP_of hPP.out.1 (Nat.le_refl _)
    · have hX : enB X = true ∧ X.st = 1 := by have := hg.out; rw [Bool.and_eq_true] at this; exact ⟨this.1, st_iff.1 this.2⟩
      have hX := Lib.hid hX
      have ad := iadm_any bb E U X.id X.bal X.k X.key X.v X.seq (setF X.deps) w2 hq.out hB.out (fun k hk => by obtain ⟨a, c, e, _⟩ := hU.out k hk; exact ⟨a, _, c, e⟩) (inR_ok (enB_of hX.out.1).1)
      obtain ⟨ab, hab⟩ : ∃ g, Hid (admB E X.id X.bal = g) := ⟨_, Lib.hid rfl⟩
      rw [hab.out] at ad
      unfold prV at ad
      obtain ⟨⟨c0, c1, c2, c3, c4, c5, c6, c7, c8, c9, c10, c11⟩, _, cl⟩ := all12 P1.out
      go_wp2_with fail
      refine ad.mono ?_
      rintro e w3 ⟨rfl, B⟩
      replace R1 := Lib.hid (bblk B (lt_of_heap R1.out) R1.out)
      replace P1 := Lib.hid (bblk B (lt_of_heap P1.out) P1.out)
      replace hU := Lib.hid (fun k (hk : k < E.length) => (hU.out k hk).up B (Nat.le_refl _))
      replace hB := Lib.hid (hB.out.up B hB.out.lt)
      replace hT := Lib.hid (TabIn.up hT.out B (Nat.le_refl _))
      replace D1 := Lib.hid (bstep D1.out B)
      clear B ad c0 c1 c2 c3 c4 c5 c6 c7 c8 c9 c10 c11 cl
      cases ab
      · have hQ := Lib.hid (show preR E X = ([], en0, false) from preR_bad (fun hh => by have := hab.out; rw [hh.2.2.2] at this; cases this))
        clear hU hB hT P1
        have hPP := Lib.hid (pp_fail (bb := w.heap.size) (Keep.of_below D1.out) (Nat.le_succ _) R1.out)
        obtain ⟨⟨z0, z1, z2, z3, z4, z5, z6, z7, z8⟩, ⟨zf0, zf1, zf2, zf3, zf4, zf5, zf6, zf7, zf8⟩, zl⟩ := nine_all R1.out
        go_wp2_with fail
        refine bodyPost_ret (en_resIa _ _ _ _ _ _ _ _ _ _ _ _ _ _ _ rfl rfl rfl hPP.out.2) rfl ?_
        rw [hQ.out]
        exact prP_of hPP.out.1 (Nat.le_refl _)
      · have hcv := (enB_of hX.out.1).2.2.2.2.2.2
        have pr := ipropose_any bb E U X.id X.bal X.k X.key X.v X.seq X.k X.key (setF X.deps) w3 hq.out (fun k1 key1 v1 h => by unfold clB; rw [h, hcv]; rfl) hB.out hU.out (setF_lt X.deps) hT.out
        rw [pre_eq hq.out hX.out.1 hX.out.2] at pr
        have hQ := Lib.hid (show preR E X = PpR E (preE E X) from if_pos ⟨hq.out, hX.out.1, hX.out.2, hab.out⟩)
        clear hcv
        obtain ⟨⟨N, Y, q2⟩, hR⟩ : ∃ r, Hid (PpR E (preE E X) = r) := ⟨_, Lib.hid rfl⟩
        rw [hR.out] at pr
        unfold PpP at pr
        dsimp only at pr
        unfold prV env at pr
        obtain ⟨⟨c0, c1, c2, c3, c4, c5, c6, c7, c8, c9, c10, c11⟩, _, cl⟩ := all12 P1.out
        go_wp2_with fail
        refine pr.mono ?_
        rintro e w9 ⟨v9, u9, S9, rfl, hS1, hS2, O9, L9, hk⟩
        obtain ⟨ga, gc, rfl, _⟩ := L9.shape
        obtain ⟨va9, vn9, vc9, rfl⟩ : ∃ ua un uc, u9 = .slice ua un uc := by obtain ⟨a, c, e, _⟩ := O9.read; exact ⟨a, _, c, e⟩
        have hz3 := lt_of_heap R1.out
        have hb3 : Below (w.heap.size + 2) w3 w9 := (hk.mono (by omega)).below hbb
        have R9 := Lib.hid ((hb3.block (w.heap.size + 1) (by omega)).trans R1.out)
        have X9 := put9_exc (w := w9) (b := w.heap.size + 1) (.int .i64 Y.id.1) (.int .i64 Y.id.2) (.int .i64 Y.bal) (.int .i64 Y.st) (.int .i64 Y.k) (.int .i64 Y.key) (.int .i64 Y.v) (.int .i64 Y.seq) (.slice va9 vn9 vc9)
        have hs9 := X9.size
        have Oz := Lib.hid ((O9.apart X9 (fun c h1 h2 e => by omega)).wide (B' := w.heap.size) (by omega) (Nat.le_refl _))
        have Lz := Lib.hid ((L9.apart X9 (fun c h1 h2 e => by omega)).wide (Nat.le_refl _) hs9 (Nat.le_refl _))
        have D3 : Below w.heap.size w w9 := D1.out.trans (hb3.mono (by omega))
        have D9 := Lib.hid (D3.trans (X9.to (B := w.heap.size) (by have := D3.size; omega) (fun c e => by omega)))
        obtain ⟨⟨z0, z1, z2, z3, z4, z5, z6, z7, z8⟩, ⟨zf0, zf1, zf2, zf3, zf4, zf5, zf6, zf7, zf8⟩, zl⟩ := nine_all R9.out
        go_wp2_with fail
        refine bodyPost_ret (en_resIa _ _ _ _ _ _ _ _ _ _ _ _ _ _ _ rfl rfl rfl (put9_at _ _ _ _ _ _ _ _ _ R9.out)) rfl ?_
        rw [hQ.out, hR.out]
        exact ⟨_, _, S9, rfl, by omega, Nat.le_trans hS2 hs9, Oz.out, Lz.out, D9.out⟩
  · subst hqf
    clear hs0
    have hQ := Lib.hid (show preR E X = ([], en0, false) from preR_bad (fun hh => by have := hq.out; rw [hh.1] at this; cases this))
    obtain ⟨⟨z0, z1, z2, z3, z4, z5, z6, z7, z8⟩, ⟨zf0, zf1, zf2, zf3, zf4, zf5, zf6, zf7, zf8⟩, zl⟩ := nine_all A1.out
    go_wp2_with fail
    refine po.mono ?_
    rintro e wP ⟨rfl, B⟩
    have BA := bstep B ((Below.refl wP.heap.size wP).alloc (Nat.le_refl _) (.cells #[.int .i64 X.id.1, .int .i64 X.id.2, .int .i64 X.bal, .int .i64 X.k, .int .i64 X.key, .int .i64 X.v, .int .i64 X.seq, .int .u64 (setF X.deps 0), .int .u64 (setF X.deps 1), .int .u64 (setF X.deps 2), .int .u64 (setF X.deps 3), .int .u64 (setF X.deps 4)] 78))
    replace R1 := Lib.hid (bblk BA (lt_of_heap R1.out) R1.out)
    replace D1 := Lib.hid (bstep D1.out BA)
    clear B BA po hI A1 hU hT z0 zf0 z1 zf1 z2 zf2 z3 zf3 z4 zf4 z5 zf5 z6 zf6 z7 zf7 z8 zf8 zl
    go_upto_region 3 with fail
    generalize wP.alloc (.cells #[.int .i64 X.id.1, .int .i64 X.id.2, .int .i64 X.bal, .int .i64 X.k, .int .i64 X.key, .int .i64 X.v, .int .i64 X.seq, .int .u64 (setF X.deps 0), .int .u64 (setF X.deps 1), .int .u64 (setF X.deps 2), .int .u64 (setF X.deps 3), .int .u64 (setF X.deps 4)] 78) = w2 at R1 D1 ⊢
    have hPP := Lib.hid (pp_fail (bb := w.heap.size) (Keep.of_below D1.out) (Nat.le_succ _) R1.out)
    obtain ⟨⟨z0, z1, z2, z3, z4, z5, z6, z7, z8⟩, ⟨zf0, zf1, zf2, zf3, zf4, zf5, zf6, zf7, zf8⟩, zl⟩ := nine_all R1.out
    go_wp2_with fail
    refine bodyPost_ret (en_resIa _ _ _ _ _ _ _ _ _ _ _ _ _ _ _ rfl rfl rfl hPP.out.2) rfl ?_
    rw [hQ.out]
    exact prP_of hPP.out.1 (Nat.le_refl _)
end Go.Proofs.YtdikcenhakfheaaGreatDoor
