/- Texts laid together. -/
import Derived.Test.YtdikcenhakfheaaGreatDoorC14
import Derived.Test.YtdikcenhakfheaaGreatDoorC11
import Derived.Test.YtdikcenhakfheaaGreatDoorC21
import Derived.Test.YtdikcenhakfheaaGreatDoorC19
import Derived.Deep.RegionHeld3
/- The model's Propose. -/
namespace Go.Proofs.YtdikcenhakfheaaGreatDoor
open Go.RowKit
set_option linter.unusedVariables false

theorem en_resSp (tm : Array Value) (w : World) (b : Nat) (l q : Value) (x0 x1 x2 x3 x4 x5 x6 x7 x8 : Value) (t : TypeId) (h1 : tm[6]? = some l) (h2 : tm[7]? = some (.pointer (some ⟨b, 0, none⟩))) (h3 : tm[8]? = some q) (h : w.heap[b]? = some (.cells #[x0, x1, x2, x3, x4, x5, x6, x7, x8] t (0, 0))) :
    (results Tryz.f20 tm).run Tryz.prog w = .ok (.tuple #[l, .agg #[x0, x1, x2, x3, x4, x5, x6, x7, x8], q]) w := by
  obtain ⟨t0, t1, t2, t3, t4, t5, t6, t7, t8⟩ := nine_cells h
  simp [results, Tryz.results20, go_sem, h1, h2, h3, t0, t1, t2, t3, t4, t5, t6, t7, t8]
section
variable {w wc w' : World} {eb : Nat} {x0 x1 x2 x3 x4 x5 x6 x7 x8 : Value}
theorem spr_keep (hb : Below wc.heap.size wc w') (h : (wc.cell? ⟨eb, 0, none⟩ = some (x0) ∧ wc.cell? ⟨eb, 1, none⟩ = some (x1) ∧ wc.cell? ⟨eb, 2, none⟩ = some (x2) ∧ wc.cell? ⟨eb, 3, none⟩ = some (x3) ∧ wc.cell? ⟨eb, 4, none⟩ = some (x4) ∧ wc.cell? ⟨eb, 5, none⟩ = some (x5) ∧ wc.cell? ⟨eb, 6, none⟩ = some (x6) ∧ wc.cell? ⟨eb, 7, none⟩ = some (x7) ∧ wc.cell? ⟨eb, 8, none⟩ = some (x8)) ∧ Below w.heap.size w wc) : (w'.cell? ⟨eb, 0, none⟩ = some (x0) ∧ w'.cell? ⟨eb, 1, none⟩ = some (x1) ∧ w'.cell? ⟨eb, 2, none⟩ = some (x2) ∧ w'.cell? ⟨eb, 3, none⟩ = some (x3) ∧ w'.cell? ⟨eb, 4, none⟩ = some (x4) ∧ w'.cell? ⟨eb, 5, none⟩ = some (x5) ∧ w'.cell? ⟨eb, 6, none⟩ = some (x6) ∧ w'.cell? ⟨eb, 7, none⟩ = some (x7) ∧ w'.cell? ⟨eb, 8, none⟩ = some (x8)) ∧ Below w.heap.size w w' := ⟨⟨cell_later hb h.1.1, cell_later hb h.1.2.1, cell_later hb h.1.2.2.1, cell_later hb h.1.2.2.2.1, cell_later hb h.1.2.2.2.2.1, cell_later hb h.1.2.2.2.2.2.1, cell_later hb h.1.2.2.2.2.2.2.1, cell_later hb h.1.2.2.2.2.2.2.2.1, cell_later hb h.1.2.2.2.2.2.2.2.2⟩, h.2.trans (hb.mono h.2.size)⟩
theorem spr_drew (h : (wc.cell? ⟨eb, 0, none⟩ = some (x0) ∧ wc.cell? ⟨eb, 1, none⟩ = some (x1) ∧ wc.cell? ⟨eb, 2, none⟩ = some (x2) ∧ wc.cell? ⟨eb, 3, none⟩ = some (x3) ∧ wc.cell? ⟨eb, 4, none⟩ = some (x4) ∧ wc.cell? ⟨eb, 5, none⟩ = some (x5) ∧ wc.cell? ⟨eb, 6, none⟩ = some (x6) ∧ wc.cell? ⟨eb, 7, none⟩ = some (x7) ∧ wc.cell? ⟨eb, 8, none⟩ = some (x8)) ∧ Below w.heap.size w wc) : (wc.drew.cell? ⟨eb, 0, none⟩ = some (x0) ∧ wc.drew.cell? ⟨eb, 1, none⟩ = some (x1) ∧ wc.drew.cell? ⟨eb, 2, none⟩ = some (x2) ∧ wc.drew.cell? ⟨eb, 3, none⟩ = some (x3) ∧ wc.drew.cell? ⟨eb, 4, none⟩ = some (x4) ∧ wc.drew.cell? ⟨eb, 5, none⟩ = some (x5) ∧ wc.drew.cell? ⟨eb, 6, none⟩ = some (x6) ∧ wc.drew.cell? ⟨eb, 7, none⟩ = some (x7) ∧ wc.drew.cell? ⟨eb, 8, none⟩ = some (x8)) ∧ Below w.heap.size w wc.drew := ⟨h.1, h.2.drew⟩
theorem spr_set {c i : Nat} {u : Value} (hc : w.heap.size ≤ c) (he : eb ≠ c) (h : (wc.cell? ⟨eb, 0, none⟩ = some (x0) ∧ wc.cell? ⟨eb, 1, none⟩ = some (x1) ∧ wc.cell? ⟨eb, 2, none⟩ = some (x2) ∧ wc.cell? ⟨eb, 3, none⟩ = some (x3) ∧ wc.cell? ⟨eb, 4, none⟩ = some (x4) ∧ wc.cell? ⟨eb, 5, none⟩ = some (x5) ∧ wc.cell? ⟨eb, 6, none⟩ = some (x6) ∧ wc.cell? ⟨eb, 7, none⟩ = some (x7) ∧ wc.cell? ⟨eb, 8, none⟩ = some (x8)) ∧ Below w.heap.size w wc) : ((wc.setCell ⟨c, i, none⟩ u).cell? ⟨eb, 0, none⟩ = some (x0) ∧ (wc.setCell ⟨c, i, none⟩ u).cell? ⟨eb, 1, none⟩ = some (x1) ∧ (wc.setCell ⟨c, i, none⟩ u).cell? ⟨eb, 2, none⟩ = some (x2) ∧ (wc.setCell ⟨c, i, none⟩ u).cell? ⟨eb, 3, none⟩ = some (x3) ∧ (wc.setCell ⟨c, i, none⟩ u).cell? ⟨eb, 4, none⟩ = some (x4) ∧ (wc.setCell ⟨c, i, none⟩ u).cell? ⟨eb, 5, none⟩ = some (x5) ∧ (wc.setCell ⟨c, i, none⟩ u).cell? ⟨eb, 6, none⟩ = some (x6) ∧ (wc.setCell ⟨c, i, none⟩ u).cell? ⟨eb, 7, none⟩ = some (x7) ∧ (wc.setCell ⟨c, i, none⟩ u).cell? ⟨eb, 8, none⟩ = some (x8)) ∧ Below w.heap.size w (wc.setCell ⟨c, i, none⟩ u) := ⟨⟨cell_set u he h.1.1, cell_set u he h.1.2.1, cell_set u he h.1.2.2.1, cell_set u he h.1.2.2.2.1, cell_set u he h.1.2.2.2.2.1, cell_set u he h.1.2.2.2.2.2.1, cell_set u he h.1.2.2.2.2.2.2.1, cell_set u he h.1.2.2.2.2.2.2.2.1, cell_set u he h.1.2.2.2.2.2.2.2.2⟩, h.2.setCell (p := ⟨c, i, none⟩) hc u⟩
end

set_option maxRecDepth 100000 in
set_option maxHeartbeats 8000000 in
theorem spropz_any (u : Value) (E : List En) (p ck ckey cv : Int) (w : World) (h : Ens w u E) :
    Calls Tryz.prog 20 #[u, .int .i64 p, .agg #[.int .i64 ck, .int .i64 ckey, .int .i64 cv]] w (PmZ (propR E p ck ckey cv) w) := by
  have A0 := Lib.hid ((Below.heap_alloc _ (.cells #[.int .i64 0, .int .i64 0, .int .i64 0, .int .i64 0, .int .i64 0, .int .i64 0, .int .i64 0, .int .i64 0, .slice none 0 0] 30) _ (by simp)).trans (heap_alloc_new w (.cells #[.int .i64 ck, .int .i64 ckey, .int .i64 cv] 27)))
  have R0 := Lib.hid (heap_alloc_at (w.alloc (.cells #[.int .i64 ck, .int .i64 ckey, .int .i64 cv] 27)) (.cells #[.int .i64 0, .int .i64 0, .int .i64 0, .int .i64 0, .int .i64 0, .int .i64 0, .int .i64 0, .int .i64 0, .slice none 0 0] 30) (w.heap.size + 1) (by simp))
  have D0 := Lib.hid (((Below.refl w.heap.size w).alloc (Nat.le_refl _) (.cells #[.int .i64 ck, .int .i64 ckey, .int .i64 cv] 27)).alloc (by simp) (.cells #[.int .i64 0, .int .i64 0, .int .i64 0, .int .i64 0, .int .i64 0, .int .i64 0, .int .i64 0, .int .i64 0, .slice none 0 0] 30))
  have sn := fun W (hb : Below w.heap.size w W) => snextn_any u E p W (h.up hb (Nat.le_refl _))
  have sa := fun (hv : logB E = true) x y W (hb : Below w.heap.size w W) => slat11_any u E x y ck ckey cv W hv (h.up hb (Nat.le_refl _))
  have sp := fun X v W (hm : E.length ≤ 12) (hb : Below w.heap.size w W) (hI : Ids W v X.deps) => sput11_any u E X v W hm (h.up hb (Nat.le_refl _)) hI
  obtain ⟨la, lc, hu⟩ : ∃ a c, u = .slice a E.length c := by obtain ⟨a, c, e, _⟩ := h; exact ⟨a, c, e⟩
  subst hu
  obtain ⟨n, hn⟩ : ∃ n, Hid (nextR E p = n) := ⟨_, Lib.hid rfl⟩
  obtain ⟨l, hl⟩ : ∃ n, Hid (E.length = n) := ⟨_, Lib.hid rfl⟩
  have hl2 : l ≤ 2000000 := by obtain ⟨_, _, _, _, h3, _⟩ := h; rw [← hl.out]; exact h3
  rw [hn.out] at sn
  rw [hl.out] at sn sa sp ⊢
  clear h
  go_enter Tryz.func20, Tryz.ntmps20
  go_upto_region 1 with fail
  generalize ((w.alloc (.cells #[.int .i64 ck, .int .i64 ckey, .int .i64 cv] 27)).alloc (.cells #[.int .i64 0, .int .i64 0, .int .i64 0, .int .i64 0, .int .i64 0, .int .i64 0, .int .i64 0, .int .i64 0, .slice none 0 0] 30)) = w1 at A0 R0 D0 ⊢
  go_wp2_with fail
  refine (sn _ D0.out).mono ?_
  rintro e w2 ⟨rfl, B⟩
  have A1 := Lib.hid (bblk B (lt_of_heap A0.out) A0.out)
  have R1 := Lib.hid (bblk B (lt_of_heap R0.out) R0.out)
  have D1 := Lib.hid (bstep D0.out B)
  clear B A0 R0 D0 sn
  by_cases hneg : n < 0
  · have hQ := Lib.hid (prop_num (k := ck) (key := ckey) (v := cv) (show nextR E p < 0 by rw [hn.out]; exact hneg))
    clear A1 sa sp
    have hPP := Lib.hid (pm_fail D1.out (Nat.le_succ _) R1.out)
    obtain ⟨⟨z0, z1, z2, z3, z4, z5, z6, z7, z8⟩, ⟨f0, f1, f2, f3, f4, f5, f6, f7, f8⟩, zl⟩ := nine_all R1.out
    go_wp2_with fail
    refine bodyPost_ret (en_resSp _ _ _ _ _ _ _ _ _ _ _ _ _ _ _ rfl rfl rfl hPP.out.2) rfl ?_
    rw [hQ.out]
    exact hPP.out.1
  · obtain ⟨c0, c1, c2, _, _, cl⟩ := blk3 A1.out
    have hneg' : ¬ n < 0 := hneg
    go_wp2_with fail
    refine (svalid_any ck ckey cv _).mono ?_
    rintro e w3 ⟨rfl, B⟩
    have A2 := Lib.hid (bblk B (lt_of_heap A1.out) A1.out)
    have R2 := Lib.hid (bblk B (lt_of_heap R1.out) R1.out)
    have D2 := Lib.hid (bstep D1.out B)
    clear B A1 R1 D1 c0 c1 c2 cl
    obtain ⟨q, hq⟩ : ∃ q, Hid (cvB ck ckey cv = q) := ⟨_, Lib.hid rfl⟩
    rw [hq.out]
    cases q
    · have hQ := Lib.hid (prop_cmd (E := E) (p := p) hq.out)
      clear A2 sa sp
      have hPP := Lib.hid (pm_fail D2.out (Nat.le_succ _) R2.out)
      obtain ⟨⟨z0, z1, z2, z3, z4, z5, z6, z7, z8⟩, ⟨f0, f1, f2, f3, f4, f5, f6, f7, f8⟩, zl⟩ := nine_all R2.out
      go_wp2_with fail
      refine bodyPost_ret (en_resSp _ _ _ _ _ _ _ _ _ _ _ _ _ _ _ rfl rfl rfl hPP.out.2) rfl ?_
      rw [hQ.out]
      exact hPP.out.1
    · by_cases h12 : l = 12
      · have hQ := Lib.hid (prop_full (p := p) (k := ck) (key := ckey) (v := cv) (show E.length = 12 by rw [hl.out]; exact h12))
        clear A2 sa sp
        subst h12
        have hPP := Lib.hid (pm_fail D2.out (Nat.le_succ _) R2.out)
        obtain ⟨⟨z0, z1, z2, z3, z4, z5, z6, z7, z8⟩, ⟨f0, f1, f2, f3, f4, f5, f6, f7, f8⟩, zl⟩ := nine_all R2.out
        go_wp2_with fail
        refine bodyPost_ret (en_resSp _ _ _ _ _ _ _ _ _ _ _ _ _ _ _ rfl rfl rfl hPP.out.2) rfl ?_
        rw [hQ.out]
        exact hPP.out.1
      · obtain ⟨hv, hnx, hp, hn50⟩ := next_is (E := E) (p := p) (by rw [hn.out]; omega)
        have h12b : ((l : Int) == 12) = false := by simp; omega
        have hE12 : E.length ≤ 12 := (log_of hv).1
        have hY0 : proE E p ck ckey cv = ⟨(p, n), 0, 1, ck, ckey, cv, topE (clsE E (p, n) ck ckey) + 1, idsE (clsE E (p, n) ck ckey)⟩ := by unfold proE; rw [← hnx, hn.out]
        have htt := top_rank hv (p, n) ck ckey
        have sa2 := sa hv p n
        obtain ⟨t, ht⟩ : ∃ t, Hid (topE (clsE E (p, n) ck ckey) + 1 = t) := ⟨_, Lib.hid rfl⟩
        obtain ⟨C, hC⟩ : ∃ t, Hid (idsE (clsE E (p, n) ck ckey) = t) := ⟨_, Lib.hid rfl⟩
        have hCl : C.length ≤ 12 := by rw [← hC.out]; exact cls_len hv _ _ _
        rw [ht.out, hC.out] at sa2 hY0
        have ht1 : 1 ≤ t ∧ t ≤ 100 := by rw [← ht.out]; omega
        have hY0 := Lib.hid hY0
        have BA := (Below.refl w3.heap.size w3).alloc (Nat.le_refl _) (.cells #[.int .i64 p, .int .i64 n] 25)
        have I4 := Lib.hid (heap_alloc_new w3 (.cells #[.int .i64 p, .int .i64 n] 25))
        obtain ⟨c0, c1, c2, _, _, cl⟩ := blk3 A2.out
        have A3 := Lib.hid (bblk BA (lt_of_heap A2.out) A2.out)
        have R3 := Lib.hid (bblk BA (lt_of_heap R2.out) R2.out)
        have D3 := Lib.hid (bstep D2.out BA)
        clear BA A2 R2 D2 c0 c1 c2 cl hnx
        go_upto_region 5 with fail
        obtain ⟨ib, hib⟩ : ∃ c, Hid (w3.heap.size = c) := ⟨_, Lib.hid rfl⟩
        rw [hib.out] at I4 ⊢
        generalize w3.alloc (.cells #[.int .i64 p, .int .i64 n] 25) = w4 at I4 A3 R3 D3 ⊢
        clear hib
        obtain ⟨c0, c1, c2, _, _, cl⟩ := blk3 A3.out
        obtain ⟨i0, i1, _, _⟩ := blk2 I4.out
        have il := lt_of_heap I4.out
        go_wp2_with fail
        refine (sa2 _ D3.out).mono ?_
        rintro e w5 ⟨⟨v5, rfl, O5⟩, B⟩
        obtain ⟨b5, hb5, O5⟩ := O5.own (by omega)
        have hrb5 : w.heap.size + 1 < b5 := Nat.lt_of_lt_of_le (lt_of_heap R3.out) hb5
        obtain ⟨c5, rfl⟩ : ∃ c, v5 = .slice (some ⟨b5, 0, none⟩) C.length c := by obtain ⟨c, e, _⟩ := O5.shape; exact ⟨_, e⟩
        have A4 := Lib.hid (bblk B (lt_of_heap A3.out) A3.out)
        have I5 := Lib.hid (bblk B (lt_of_heap I4.out) I4.out)
        have R4 := Lib.hid (bblk B (lt_of_heap R3.out) R3.out)
        have D4 := Lib.hid (bstep D3.out B)
        have O5 := Lib.hid O5
        clear B A3 I4 R3 D3 sa sa2 c0 c1 c2 cl i0 i1 il
        by_cases h99 : 99 < t
        · have hQ := Lib.hid (prop_seq (E := E) (p := p) (k := ck) (key := ckey) (v := cv) (by rw [hY0.out]; exact h99))
          clear A4 I5 sp
          have hPP := Lib.hid (pm_fail D4.out (Nat.le_succ _) R4.out)
          obtain ⟨⟨z0, z1, z2, z3, z4, z5, z6, z7, z8⟩, ⟨f0, f1, f2, f3, f4, f5, f6, f7, f8⟩, zl⟩ := nine_all R4.out
          go_wp2_with fail
          refine bodyPost_ret (en_resSp _ _ _ _ _ _ _ _ _ _ _ _ _ _ _ rfl rfl rfl hPP.out.2) rfl ?_
          rw [hQ.out]
          exact hPP.out.1
        · have hQ := Lib.hid (prop_good (E := E) (p := p) (k := ck) (key := ckey) (v := cv) (by rw [hn.out]; omega) hq.out (by rw [hl.out]; exact h12) (by rw [hY0.out]; exact h99))
          obtain ⟨c0, c1, c2, _, _, cl⟩ := blk3 A4.out
          obtain ⟨i0, i1, _, _⟩ := blk2 I5.out
          have il := lt_of_heap I5.out
          obtain ⟨Y, hY⟩ : ∃ Y : En, Hid (proE E p ck ckey cv = Y) := ⟨_, Lib.hid rfl⟩
          rw [hY.out] at hQ hY0
          have BA := (Below.refl w5.heap.size w5).alloc (Nat.le_refl _) (.cells #[.int .i64 p, .int .i64 n, .int .i64 0, .int .i64 1, .int .i64 ck, .int .i64 ckey, .int .i64 cv, .int .i64 t, .slice (some ⟨b5, 0, none⟩) C.length c5] 30)
          have E6 := Lib.hid (heap_alloc_new w5 (.cells #[.int .i64 p, .int .i64 n, .int .i64 0, .int .i64 1, .int .i64 ck, .int .i64 ckey, .int .i64 cv, .int .i64 t, .slice (some ⟨b5, 0, none⟩) C.length c5] 30))
          have R5 := Lib.hid (bblk BA (lt_of_heap R4.out) R4.out)
          have D5 := Lib.hid (bstep D4.out BA)
          have hrb : w.heap.size + 1 < w5.heap.size := lt_of_heap R4.out
          have O6 := Lib.hid (O5.out.up BA O5.out.lt)
          clear BA A4 I5 R4 D4 O5
          go_upto_region 9 with fail
          clear c0 c1 c2 cl i0 i1 il
          obtain ⟨eb, heb⟩ : ∃ c, Hid (w5.heap.size = c) := ⟨_, Lib.hid rfl⟩
          rw [heb.out] at E6 hrb ⊢
          generalize w5.alloc (.cells #[.int .i64 p, .int .i64 n, .int .i64 0, .int .i64 1, .int .i64 ck, .int .i64 ckey, .int .i64 cv, .int .i64 t, .slice (some ⟨b5, 0, none⟩) C.length c5] 30) = w6 at E6 R5 D5 O6 ⊢
          clear heb
          have e1 : Y.id.1 = p := by rw [hY0.out]
          have e2 : Y.id.2 = n := by rw [hY0.out]
          have e3 : Y.bal = 0 := by rw [hY0.out]
          have e4 : Y.st = 1 := by rw [hY0.out]
          have e5 : Y.k = ck := by rw [hY0.out]
          have e6 : Y.key = ckey := by rw [hY0.out]
          have e7 : Y.v = cv := by rw [hY0.out]
          have e8 : Y.seq = t := by rw [hY0.out]
          have e9 : Y.deps = C := by rw [hY0.out]
          have sp6 := fun W (hb : Below w.heap.size w W) (hI : Ids W (.slice (some ⟨b5, 0, none⟩) C.length c5) C) => sp Y (.slice (some ⟨b5, 0, none⟩) C.length c5) W (by rw [← hl.out]; exact hE12) hb (by rw [e9]; exact hI)
          rw [runE_put (log_of hv).2.2] at sp6
          unfold env at sp6
          rw [e1, e2, e3, e4, e5, e6, e7, e8] at sp6
          have R0 := R5
          have H9 := Lib.hid (show (w6.cell? ⟨eb, 0, none⟩ = some (.int .i64 p) ∧ w6.cell? ⟨eb, 1, none⟩ = some (.int .i64 n) ∧ w6.cell? ⟨eb, 2, none⟩ = some (.int .i64 0) ∧ w6.cell? ⟨eb, 3, none⟩ = some (.int .i64 1) ∧ w6.cell? ⟨eb, 4, none⟩ = some (.int .i64 ck) ∧ w6.cell? ⟨eb, 5, none⟩ = some (.int .i64 ckey) ∧ w6.cell? ⟨eb, 6, none⟩ = some (.int .i64 cv) ∧ w6.cell? ⟨eb, 7, none⟩ = some (.int .i64 t) ∧ w6.cell? ⟨eb, 8, none⟩ = some (.slice (some ⟨b5, 0, none⟩) C.length c5)) ∧ Below w.heap.size w w6 from ⟨(nine_all E6.out).1, D5.out⟩)
          clear R5 E6 D5 sp
          generalize hcn : C.length = cn at H9 O6 sp6 ⊢
          go_region_held3 (fun w' => (w'.cell? ⟨eb, 0, none⟩ = some (.int .i64 p) ∧ w'.cell? ⟨eb, 1, none⟩ = some (.int .i64 n) ∧ w'.cell? ⟨eb, 2, none⟩ = some (.int .i64 0) ∧ w'.cell? ⟨eb, 3, none⟩ = some (.int .i64 1) ∧ w'.cell? ⟨eb, 4, none⟩ = some (.int .i64 ck) ∧ w'.cell? ⟨eb, 5, none⟩ = some (.int .i64 ckey) ∧ w'.cell? ⟨eb, 6, none⟩ = some (.int .i64 cv) ∧ w'.cell? ⟨eb, 7, none⟩ = some (.int .i64 t) ∧ w'.cell? ⟨eb, 8, none⟩ = some (.slice (some ⟨b5, 0, none⟩) cn c5)) ∧ Below w.heap.size w w') (first | (with_reducible assumption) | ((with_reducible refine spr_set (c := w.heap.size + 1) (Nat.le_succ _) (by omega) ?_); (with_reducible refine spr_set (c := w.heap.size + 1) (Nat.le_succ _) (by omega) ?_); (with_reducible refine spr_set (c := w.heap.size + 1) (Nat.le_succ _) (by omega) ?_); (with_reducible refine spr_set (c := w.heap.size + 1) (Nat.le_succ _) (by omega) ?_); (with_reducible refine spr_set (c := w.heap.size + 1) (Nat.le_succ _) (by omega) ?_); (with_reducible refine spr_set (c := w.heap.size + 1) (Nat.le_succ _) (by omega) ?_); (with_reducible refine spr_set (c := w.heap.size + 1) (Nat.le_succ _) (by omega) ?_); (with_reducible refine spr_set (c := w.heap.size + 1) (Nat.le_succ _) (by omega) ?_); (with_reducible refine spr_set (c := w.heap.size + 1) (Nat.le_succ _) (by omega) ?_); (with_reducible assumption)) | (with_reducible exact spr_drew H9.out) | (with_reducible exact spr_drew (by assumption)) | (with_reducible exact spr_keep (by assumption) (by assumption)) | (with_reducible exact spr_keep (by assumption) (spr_drew (by assumption))))
            (first | (go_at_call 46; (with_reducible refine (sp6 _ (by assumption : (_ ∧ _ ∧ _ ∧ _ ∧ _ ∧ _ ∧ _ ∧ _ ∧ _) ∧ Below w.heap.size w _).2 (by first | exact O6.out.read | exact (O6.out.up (Below.drew (Below.refl _ _)) O6.out.lt).read)).mono ?_); rintro e w' ⟨⟨v9, rfl, O9⟩, hb⟩; have hz9 := lt_of_heap R0.out; obtain ⟨g9, c9, rfl⟩ := O9.len; have O9 := Lib.hid O9; have K9 := Lib.hid hb; replace R0 := Lib.hid (by first | exact bblk hb (lt_of_heap R0.out) R0.out | exact bblk_d hb (lt_of_heap R0.out) R0.out); obtain ⟨⟨z0, z1, z2, z3, z4, z5, z6, z7, z8⟩, ⟨f0, f1, f2, f3, f4, f5, f6, f7, f8⟩, zl⟩ := nine_all R0.out))
          all_goals
            rename_i H10
            have D10 := Lib.hid (show (_ ∧ _ ∧ _ ∧ _ ∧ _ ∧ _ ∧ _ ∧ _ ∧ _) ∧ Below w.heap.size w _ from H10).2
            have O10 := Lib.hid (((O6.out.up (Below.drew (Below.refl _ _)) O6.out.lt).up K9.out O6.out.lt))
            go_wp2_with fail
            refine bodyPost_ret (en_resSp _ _ _ _ _ _ _ _ _ _ _ _ _ _ _ rfl rfl rfl (put9_at _ _ _ _ _ _ _ _ _ R0.out)) rfl ?_
            rw [hQ.out]
            refine ⟨_, .slice (some ⟨b5, 0, none⟩) cn c5, by unfold env; rw [e1, e2, e3, e4, e5, e6, e7, e8]; rfl, (O9.out.abv (fun c hc => put9_other _ _ _ _ _ _ _ _ _ (by have : w.heap.size + 1 < c := Nat.lt_of_lt_of_le hz9 hc; omega))).wide (Nat.le_of_lt (Nat.lt_of_le_of_lt (Nat.le_succ _) hz9)), ?_, D10.out⟩
            rw [e9]
            exact OwZ.of (O10.out.same (put9_other _ _ _ _ _ _ _ _ _ (by omega))) (by omega)
theorem sprop_any (u : Value) (E : List En) (p ck ckey cv : Int) (w : World) (h : Ens w u E) :
    Calls Tryz.prog 20 #[u, .int .i64 p, .agg #[.int .i64 ck, .int .i64 ckey, .int .i64 cv]] w (PmP (propR E p ck ckey cv) w) :=
  (spropz_any u E p ck ckey cv w h).mono fun _ _ h => pmZ_P h
end Go.Proofs.YtdikcenhakfheaaGreatDoor
