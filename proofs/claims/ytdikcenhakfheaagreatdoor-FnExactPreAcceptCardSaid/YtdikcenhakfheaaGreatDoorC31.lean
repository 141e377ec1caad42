/- Texts laid together. -/
import Derived.Test.YtdikcenhakfheaaGreatDoorC14
import Derived.Test.YtdikcenhakfheaaGreatDoorC30
import Derived.Test.YtdikcenhakfheaaGreatDoorC12
import Derived.Test.YtdikcenhakfheaaGreatDoorC06
import Derived.BigQuiet
import Derived.Deep.DeepCutAuto
/- The model's PreAccept. -/
namespace Go.Proofs.YtdikcenhakfheaaGreatDoor
open Go.RowKit
set_option linter.unusedVariables false

theorem en_resSa (tm : Array Value) (w : World) (b : Nat) (l q : Value) (x0 x1 x2 x3 x4 x5 x6 x7 x8 : Value) (t : TypeId) (h1 : tm[4]? = some l) (h2 : tm[5]? = some (.pointer (some ⟨b, 0, none⟩))) (h3 : tm[6]? = some q) (h : w.heap[b]? = some (.cells #[x0, x1, x2, x3, x4, x5, x6, x7, x8] t (0, 0))) :
    (results Tryz.f10 tm).run Tryz.prog w = .ok (.tuple #[l, .agg #[x0, x1, x2, x3, x4, x5, x6, x7, x8], q]) w := by
  obtain ⟨t0, t1, t2, t3, t4, t5, t6, t7, t8⟩ := nine_cells h
  simp [results, Tryz.results10, go_sem, h1, h2, h3, t0, t1, t2, t3, t4, t5, t6, t7, t8]
/-- Whether the log takes the entry, by where it is. -/
theorem adm_none {E : List En} {a : Pid} {bal : Int} (h : ¬ a ∈ idsE E) : admB E a bal = true := by
  unfold admB
  rw [lfindR_none (fun k hk e => h (mem_idsE.2 ⟨k, hk, e⟩))]; rfl
theorem adm_at {E : List En} {a : Pid} {bal : Int} {k : Nat} (hv : logB E = true) (hk : k < E.length) (e : (E.getD k en0).id = a) : admB E a bal = ((E.getD k en0).st == 1 && decide ((E.getD k en0).bal ≤ bal)) := by
  unfold admB
  rw [lfindR_some hv hk e]; rfl
theorem set7_at {w : World} {b : Nat} {t : TypeId} {y0 y1 y2 y3 y4 y5 y6 y7 y8 : Value} (x : Value) (h : w.heap[b]? = some (.cells #[y0, y1, y2, y3, y4, y5, y6, y7, y8] t (0, 0))) : (w.setCell ⟨b, 7, none⟩ x).heap[b]? = some (.cells #[y0, y1, y2, y3, y4, y5, y6, x, y8] t (0, 0)) := by
  have e := heap_setCell_same _ b 7 _ _ x h
  simp only [List.setIfInBounds_toArray, List.set_cons_zero, List.set_cons_succ] at e
  exact e
theorem set8_at {w : World} {b : Nat} {t : TypeId} {y0 y1 y2 y3 y4 y5 y6 y7 y8 : Value} (x : Value) (h : w.heap[b]? = some (.cells #[y0, y1, y2, y3, y4, y5, y6, y7, y8] t (0, 0))) : (w.setCell ⟨b, 8, none⟩ x).heap[b]? = some (.cells #[y0, y1, y2, y3, y4, y5, y6, y7, x] t (0, 0)) := by
  have e := heap_setCell_same _ b 8 _ _ x h
  simp only [List.setIfInBounds_toArray, List.set_cons_zero, List.set_cons_succ] at e
  exact e

set_option maxRecDepth 100000 in
set_option maxHeartbeats 8000000 in
theorem sprez_any (u ux : Value) (E : List En) (X : En) (w : World) (h : Ens w u E) (hu : Ids w ux X.deps) :
    Calls Tryz.prog 10 #[u, env X ux] w (PmZ (preR E X) w) := by
  obtain ⟨xa, xn, xc, rfl⟩ : ∃ ua un uc, ux = .slice ua un uc := by obtain ⟨a, c, e, _⟩ := hu; exact ⟨a, _, c, e⟩
  have A := Lib.hid ((Below.heap_alloc _ (.cells #[.int .i64 0, .int .i64 0, .int .i64 0, .int .i64 0, .int .i64 0, .int .i64 0, .int .i64 0, .int .i64 0, .slice none 0 0] 30) _ (by simp)).trans (heap_alloc_new w (.cells #[.int .i64 X.id.1, .int .i64 X.id.2, .int .i64 X.bal, .int .i64 X.st, .int .i64 X.k, .int .i64 X.key, .int .i64 X.v, .int .i64 X.seq, .slice xa xn xc] 30)))
  have R := Lib.hid (heap_alloc_at (w.alloc (.cells #[.int .i64 X.id.1, .int .i64 X.id.2, .int .i64 X.bal, .int .i64 X.st, .int .i64 X.k, .int .i64 X.key, .int .i64 X.v, .int .i64 X.seq, .slice xa xn xc] 30)) (.cells #[.int .i64 0, .int .i64 0, .int .i64 0, .int .i64 0, .int .i64 0, .int .i64 0, .int .i64 0, .int .i64 0, .slice none 0 0] 30) (w.heap.size + 1) (by simp))
  have D := Lib.hid (((Below.refl w.heap.size w).alloc (Nat.le_refl _) (.cells #[.int .i64 X.id.1, .int .i64 X.id.2, .int .i64 X.bal, .int .i64 X.st, .int .i64 X.k, .int .i64 X.key, .int .i64 X.v, .int .i64 X.seq, .slice xa xn xc] 30)).alloc (by simp) (.cells #[.int .i64 0, .int .i64 0, .int .i64 0, .int .i64 0, .int .i64 0, .int .i64 0, .int .i64 0, .int .i64 0, .slice none 0 0] 30))
  have sv := fun W (hb : Below w.heap.size w W) => slogv_any u E W (h.up hb (Nat.le_refl _))
  have ev := fun W (hb : Below w.heap.size w W) => sentry_any X (.slice xa xn xc) W (hu.up hb (Nat.le_refl _))
  have sa := fun W (hb : Below w.heap.size w W) => seat_any u E X.id.1 X.id.2 W (h.up hb (Nat.le_refl _))
  have st := fun (hv : logB E = true) W (hb : Below w.heap.size w W) => slat11_any u E X.id.1 X.id.2 X.k X.key X.v W hv (h.up hb (Nat.le_refl _))
  have cp := fun W (hb : Below w.heap.size w W) => copy_at X.id.1 X.id.2 X.bal X.st X.k X.key X.v X.seq X.deps (.slice xa xn xc) W (hu.up hb (Nat.le_refl _))
  have jn := fun (v : Value) (C : List Pid) W (hb : Below w.heap.size w W) (g : Ids W v C) (ha : X.deps.length ≤ 12) (hc : C.length ≤ 12) => l4_any (.slice xa xn xc) v X.deps C W (hu.up hb (Nat.le_refl _)) g ha hc
  have sp := fun Y v W (hm : E.length ≤ 12) (hb : Below w.heap.size w W) (hI : Ids W v Y.deps) => sput11_any u E Y v W hm (h.up hb (Nat.le_refl _)) hI
  obtain ⟨la, lc, hlu, hl1, hl2, hl3⟩ := h
  subst hlu
  have hl3 := Lib.hid hl3
  obtain ⟨l, hl⟩ : ∃ n, Hid (E.length = n) := ⟨_, Lib.hid rfl⟩
  rw [hl.out] at sv sa st sp hl1 hl2 ⊢
  unfold env at ev sp ⊢
  go_enter Tryz.func10, Tryz.ntmps10
  go_upto_region 1 with fail
  generalize (w.alloc (.cells #[.int .i64 X.id.1, .int .i64 X.id.2, .int .i64 X.bal, .int .i64 X.st, .int .i64 X.k, .int .i64 X.key, .int .i64 X.v, .int .i64 X.seq, .slice xa xn xc] 30)).alloc (.cells #[.int .i64 0, .int .i64 0, .int .i64 0, .int .i64 0, .int .i64 0, .int .i64 0, .int .i64 0, .int .i64 0, .slice none 0 0] 30) = w1 at A R D ⊢
  go_wp2_with fail
  refine (sv _ D.out).mono ?_
  rintro e w2 ⟨rfl, B⟩
  replace A := Lib.hid (bblk B (lt_of_heap A.out) A.out)
  replace R := Lib.hid (bblk B (lt_of_heap R.out) R.out)
  replace D := Lib.hid (bstep D.out B)
  clear B sv
  obtain ⟨q, hq⟩ : ∃ q, Hid (logB E = q) := ⟨_, Lib.hid rfl⟩
  rw [hq.out]
  cases q
  · have hQ := Lib.hid (show preR E X = ([], en0, false) from preR_bad (fun hh => by have := hh.1; rw [hq.out] at this; cases this))
    clear A ev sa st cp jn sp
    have hPP := Lib.hid (pm_fail D.out (Nat.le_succ _) R.out)
    obtain ⟨⟨z0, z1, z2, z3, z4, z5, z6, z7, z8⟩, ⟨zf0, zf1, zf2, zf3, zf4, zf5, zf6, zf7, zf8⟩, zl⟩ := nine_all R.out
    go_wp2_with fail
    refine bodyPost_ret (en_resSa _ _ _ _ _ _ _ _ _ _ _ _ _ _ _ rfl rfl rfl hPP.out.2) rfl ?_
    rw [hQ.out]
    exact hPP.out.1
  · obtain ⟨⟨y0, y1, y2, y3, y4, y5, y6, y7, y8⟩, ⟨yf0, yf1, yf2, yf3, yf4, yf5, yf6, yf7, yf8⟩, yl⟩ := nine_all A.out
    go_wp2_with fail
    refine (ev _ D.out).mono ?_
    rintro e w3 ⟨rfl, B⟩
    clear y0 y1 y2 y3 y4 y5 y6 y7 y8 yf0 yf1 yf2 yf3 yf4 yf5 yf6 yf7 yf8 yl
    replace A := Lib.hid (bblk B (lt_of_heap A.out) A.out)
    replace R := Lib.hid (bblk B (lt_of_heap R.out) R.out)
    replace D := Lib.hid (bstep D.out B)
    clear B ev
    obtain ⟨p, hp⟩ : ∃ q, Hid (enB X = q) := ⟨_, Lib.hid rfl⟩
    rw [hp.out]
    cases p
    · have hQ := Lib.hid (show preR E X = ([], en0, false) from preR_bad (fun hh => by have := hh.2.1; rw [hp.out] at this; cases this))
      clear A sa st cp jn sp
      have hPP := Lib.hid (pm_fail D.out (Nat.le_succ _) R.out)
      obtain ⟨⟨z0, z1, z2, z3, z4, z5, z6, z7, z8⟩, ⟨zf0, zf1, zf2, zf3, zf4, zf5, zf6, zf7, zf8⟩, zl⟩ := nine_all R.out
      go_wp2_with fail
      refine bodyPost_ret (en_resSa _ _ _ _ _ _ _ _ _ _ _ _ _ _ _ rfl rfl rfl hPP.out.2) rfl ?_
      rw [hQ.out]
      exact hPP.out.1
    · by_cases hst : X.st = 1
      · have hstb : (X.st == 1) = true := by simp [hst]
        replace hst := Lib.hid hst
        obtain ⟨⟨y0, y1, y2, y3, y4, y5, y6, y7, y8⟩, ⟨yf0, yf1, yf2, yf3, yf4, yf5, yf6, yf7, yf8⟩, yl⟩ := nine_all A.out
        go_wp2_with fail
        refine (sa _ D.out).mono ?_
        rintro e w4 ⟨⟨z, rfl, hz⟩, B⟩
        clear y0 y1 y2 y3 y4 y5 y6 y7 y8 yf0 yf1 yf2 yf3 yf4 yf5 yf6 yf7 yf8 yl
        replace A := Lib.hid (bblk B (lt_of_heap A.out) A.out)
        replace R := Lib.hid (bblk B (lt_of_heap R.out) R.out)
        replace D := Lib.hid (bstep D.out B)
        clear B sa
        have hz := Lib.hid hz
        obtain ⟨ad, had⟩ : ∃ q, Hid (admB E X.id X.bal = q) := ⟨_, Lib.hid rfl⟩
        clear hstb
        go_upto_region 4 with fail
        go_cut [50] from 31 to 49 (fun s50 wx => Hid (s50 = .bool (!ad) ∧ wx.heap[w.heap.size]? = some (.cells #[.int .i64 X.id.1, .int .i64 X.id.2, .int .i64 X.bal, .int .i64 X.st, .int .i64 X.k, .int .i64 X.key, .int .i64 X.v, .int .i64 X.seq, .slice xa xn xc] 30 (0, 0)) ∧ wx.heap[w.heap.size + 1]? = some (.cells #[.int .i64 0, .int .i64 0, .int .i64 0, .int .i64 0, .int .i64 0, .int .i64 0, .int .i64 0, .int .i64 0, .slice none 0 0] 30 (0, 0)) ∧ Below w.heap.size w wx))
        case first =>
          clear st cp jn sp
          obtain ⟨⟨y0, y1, y2, y3, y4, y5, y6, y7, y8⟩, ⟨yf0, yf1, yf2, yf3, yf4, yf5, yf6, yf7, yf8⟩, yl⟩ := nine_all A.out
          rcases hz.out with ⟨rfl, hno⟩ | ⟨k, rfl, hk, hid⟩
          · obtain rfl : true = ad := by rw [← had.out]; exact (adm_none hno).symm
            clear hz hno had
            go_upto_region 4 with fail
            go_quiet (fail)
            go_wp2_with fail
            go_meet
            exact Lib.hid ⟨rfl, A.out, R.out, bdrewN D.out _⟩
          · obtain ⟨b, off, U, hla, hA⟩ := hl3.out.resolve_left (by omega)
            subst hla
            have hX := (hA.up D.out (Nat.le_refl _)).at_ k hk
            have hbl := (hA.up D.out (Nat.le_refl _)).lt
            have hkl : k < l := by rw [← hl.out]; exact hk
            obtain ⟨Z, hZ⟩ : ∃ Z, Hid (E.getD k en0 = Z) := ⟨_, Lib.hid rfl⟩
            have hes := (enB_of ((log_of hq.out).2.1 (E.getD k en0) (by rw [List.getD_eq_getElem?_getD, List.getElem?_eq_getElem hk, Option.getD_some]; exact List.getElem_mem _))).2.2.2.2.2.1.1
            have ha := adm_at (bal := X.bal) hq.out hk hid
            rw [show ((X.id.1, X.id.2) : Pid) = X.id from rfl, had.out, hZ.out] at ha
            rw [hZ.out] at hX hes
            have e2 := hX.c2
            have e3 := hX.c3
            clear hz hA hX hid hZ had hl3 hk
            obtain ⟨zb, hzb⟩ : ∃ q, decide (X.bal < Z.bal) = q := ⟨_, rfl⟩
            obtain ⟨zs, hzs⟩ : ∃ q, decide (1 < Z.st) = q := ⟨_, rfl⟩
            have hn : (zb || zs) = !ad := by
              rw [ha, ← hzb, ← hzs]
              by_cases g1 : X.bal < Z.bal
              · have g2 : ¬ Z.bal ≤ X.bal := by omega
                simp [g1, g2]
              · have g2 : Z.bal ≤ X.bal := by omega
                by_cases g3 : 1 < Z.st
                · have g4 : (Z.st == 1) = false := by simp; omega
                  simp [g1, g2, g3, g4]
                · have g4 : (Z.st == 1) = true := by simp; omega
                  simp [g1, g2, g3, g4]
            clear ha hes
            cases zb
            · cases zs
              · obtain rfl : ad = true := by simpa using hn
                clear hn
                go_upto_region 4 with fail
                go_quiet (fail)
                go_wp2_with fail
                go_meet
                exact Lib.hid ⟨rfl, A.out, R.out, bdrewN D.out _⟩
              · obtain rfl : ad = false := by simpa using hn
                clear hn
                go_upto_region 4 with fail
                go_quiet (fail)
                go_wp2_with fail
                go_meet
                exact Lib.hid ⟨rfl, A.out, R.out, bdrewN D.out _⟩
            · obtain rfl : ad = false := by simpa using hn
              clear hn
              go_upto_region 4 with fail
              go_quiet (fail)
              go_wp2_with fail
              go_meet
              exact Lib.hid ⟨rfl, A.out, R.out, bdrewN D.out _⟩
        case rest =>
          obtain ⟨hs50, hA5, hR5, hD5⟩ := hcut.out
          subst hs50
          clear hcut A R D hz
          have A := Lib.hid hA5
          have R := Lib.hid hR5
          have D := Lib.hid hD5
          clear hA5 hR5 hD5
          cases ad
          · have hQ := Lib.hid (show preR E X = ([], en0, false) from preR_bad (fun hh => by have := hh.2.2.2; rw [had.out] at this; cases this))
            clear A st cp jn sp
            have hPP := Lib.hid (pm_fail D.out (Nat.le_succ _) R.out)
            obtain ⟨⟨z0, z1, z2, z3, z4, z5, z6, z7, z8⟩, ⟨zf0, zf1, zf2, zf3, zf4, zf5, zf6, zf7, zf8⟩, zl⟩ := nine_all R.out
            go_wp2_with fail
            refine bodyPost_ret (en_resSa _ _ _ _ _ _ _ _ _ _ _ _ _ _ _ rfl rfl rfl hPP.out.2) rfl ?_
            rw [hQ.out]
            exact hPP.out.1
          · have hX := Lib.hid (enB_of hp.out)
            have hQ := Lib.hid (show preR E X = PpR E (preE E X) from if_pos ⟨hq.out, hp.out, hst.out, had.out⟩)
            have hE12 : E.length ≤ 12 := (log_of hq.out).1
            have hXl : X.deps.length ≤ 12 := (srt_of hX.out.2.2.1).1
            have st2 := st hq.out
            obtain ⟨t, ht⟩ : ∃ t, Hid (topE (clsE E X.id X.k X.key) + 1 = t) := ⟨_, Lib.hid rfl⟩
            obtain ⟨C, hC⟩ : ∃ t, Hid (idsE (clsE E X.id X.k X.key) = t) := ⟨_, Lib.hid rfl⟩
            have hCl : C.length ≤ 12 := by rw [← hC.out]; exact cls_len hq.out _ _ _
            have htt := top_rank hq.out X.id X.k X.key
            have ht1 : 1 ≤ t ∧ t ≤ 100 := by rw [← ht.out]; omega
            have hsq := hX.out.2.1
            have hY0 : preE E X = { X with seq := max X.seq t, deps := joinP X.deps C } := by unfold preE; rw [ht.out, hC.out]
            have hY0 := Lib.hid hY0
            rw [show ((X.id.1, X.id.2) : Pid) = X.id from rfl, ht.out, hC.out] at st2
            clear st htt had
            obtain ⟨⟨y0, y1, y2, y3, y4, y5, y6, y7, y8⟩, ⟨yf0, yf1, yf2, yf3, yf4, yf5, yf6, yf7, yf8⟩, yl⟩ := nine_all A.out
            go_wp2_with fail
            refine (st2 _ D.out).mono ?_
            rintro e w5 ⟨⟨v5, rfl, O5⟩, B⟩
            obtain ⟨b5, hb5, O5⟩ := O5.own (by omega)
            obtain ⟨c5, rfl⟩ : ∃ c, v5 = .slice (some ⟨b5, 0, none⟩) C.length c := by obtain ⟨c, e, _⟩ := O5.shape; exact ⟨_, e⟩
            have O5 := Lib.hid O5
            clear y0 y1 y2 y3 y4 y5 y6 y7 y8 yf0 yf1 yf2 yf3 yf4 yf5 yf6 yf7 yf8 yl
            replace A := Lib.hid (bblk B (lt_of_heap A.out) A.out)
            replace R := Lib.hid (bblk B (lt_of_heap R.out) R.out)
            replace D := Lib.hid (bstep D.out B)
            clear B st2
            obtain ⟨⟨y0, y1, y2, y3, y4, y5, y6, y7, y8⟩, ⟨yf0, yf1, yf2, yf3, yf4, yf5, yf6, yf7, yf8⟩, yl⟩ := nine_all A.out
            go_wp2_with fail
            refine (cp _ D.out).mono ?_
            rintro e w6 ⟨⟨u6, rfl, hrow⟩, B⟩
            clear y0 y1 y2 y3 y4 y5 y6 y7 y8 yf0 yf1 yf2 yf3 yf4 yf5 yf6 yf7 yf8 yl
            obtain ⟨b6, hb6, O6⟩ := hrow.own (by omega)
            obtain ⟨c6, rfl⟩ : ∃ c, u6 = .slice (some ⟨b6, 0, none⟩) X.deps.length c := by obtain ⟨c, e, _⟩ := O6.shape; exact ⟨_, e⟩
            have BA := bstep B ((Below.refl w6.heap.size w6).alloc (Nat.le_refl _) (.cells #[.int .i64 X.id.1, .int .i64 X.id.2, .int .i64 X.bal, .int .i64 X.st, .int .i64 X.k, .int .i64 X.key, .int .i64 X.v, .int .i64 X.seq, .slice (some ⟨b6, 0, none⟩) X.deps.length c6] 30))
            have G := Lib.hid (heap_alloc_new w6 (.cells #[.int .i64 X.id.1, .int .i64 X.id.2, .int .i64 X.bal, .int .i64 X.st, .int .i64 X.k, .int .i64 X.key, .int .i64 X.v, .int .i64 X.seq, .slice (some ⟨b6, 0, none⟩) X.deps.length c6] 30))
            replace A := Lib.hid (bblk BA (lt_of_heap A.out) A.out)
            have hr6 : w.heap.size + 1 < w6.heap.size := Nat.lt_of_lt_of_le (lt_of_heap R.out) B.size
            have hb56 : b5 < w6.heap.size := Nat.lt_of_lt_of_le O5.out.lt B.size
            replace R := Lib.hid (bblk BA (lt_of_heap R.out) R.out)
            replace D := Lib.hid (bstep D.out BA)
            replace O5 := Lib.hid (O5.out.up BA O5.out.lt)
            clear B BA cp hrow O6
            go_upto_region 8 with fail
            obtain ⟨xb, hxb⟩ : ∃ c, Hid (w6.heap.size = c) := ⟨_, Lib.hid rfl⟩
            rw [hxb.out] at G hr6 hb56 ⊢
            generalize w6.alloc (.cells #[.int .i64 X.id.1, .int .i64 X.id.2, .int .i64 X.bal, .int .i64 X.st, .int .i64 X.k, .int .i64 X.key, .int .i64 X.v, .int .i64 X.seq, .slice (some ⟨b6, 0, none⟩) X.deps.length c6] 30) = w7 at A R D O5 G ⊢
            clear hxb hb6
            obtain ⟨⟨y0, y1, y2, y3, y4, y5, y6, y7, y8⟩, ⟨yf0, yf1, yf2, yf3, yf4, yf5, yf6, yf7, yf8⟩, yl⟩ := nine_all A.out
            obtain ⟨⟨g0, g1, g2, g3, g4, g5, g6, g7, g8⟩, ⟨gf0, gf1, gf2, gf3, gf4, gf5, gf6, gf7, gf8⟩, gl⟩ := nine_all G.out
            obtain ⟨s, hs⟩ : ∃ s, Hid (max X.seq t = s) := ⟨_, Lib.hid rfl⟩
            rw [hs.out] at hY0
            have G8 := Lib.hid (set7_at (.int .i64 s) G.out)
            have o7 : ∀ c, c ≠ xb → (w7.setCell ⟨xb, 7, none⟩ (.int .i64 s)).heap[c]? = w7.heap[c]? := fun c hc => heap_setCell_other _ _ _ _ hc
            have A8 := Lib.hid ((o7 _ (by omega)).trans A.out)
            have R8 := Lib.hid ((o7 _ (by omega)).trans R.out)
            have O8 := Lib.hid (O5.out.same (o7 b5 (by omega)))
            have D8 := Lib.hid (D.out.setCell (p := ⟨xb, 7, none⟩) (by show w.heap.size ≤ xb; omega) (.int .i64 s))
            clear o7
            go_cut [] from 54 to 68 (fun wx => Hid (wx = w7.setCell ⟨xb, 7, none⟩ (.int .i64 s)))
            case first =>
              clear jn sp
              go_wp2_with fail
              all_goals
                go_meet
                first
                  | (have e : s = t := by have := hs.out; omega); (rw [e]; exact Lib.hid rfl)
                  | (have e : s = X.seq := by have := hs.out; omega); (rw [e]; exact Lib.hid rfl)
            case rest =>
              have hcut := hcut.out
              subst hcut
              clear A R D O5 G y0 y1 y2 y3 y4 y5 y6 y7 y8 yf0 yf1 yf2 yf3 yf4 yf5 yf6 yf7 yf8 yl g0 g1 g2 g3 g4 g5 g6 g7 g8 gf0 gf1 gf2 gf3 gf4 gf5 gf6 gf7 gf8 gl
              generalize w7.setCell ⟨xb, 7, none⟩ (.int .i64 s) = w8 at G8 A8 R8 O8 D8 ⊢
              have jn2 := fun W hb g => jn (.slice (some ⟨b5, 0, none⟩) C.length c5) C W hb g hXl hCl
              obtain ⟨⟨y0, y1, y2, y3, y4, y5, y6, y7, y8⟩, ⟨yf0, yf1, yf2, yf3, yf4, yf5, yf6, yf7, yf8⟩, yl⟩ := nine_all A8.out
              go_wp2_with fail
              refine (jn2 _ D8.out O8.out.read).mono ?_
              rintro e w9 ⟨b9, u9, hb9, rfl, O9, B⟩
              obtain ⟨J, hJ⟩ : ∃ J, Hid (joinP X.deps C = J) := ⟨_, Lib.hid rfl⟩
              rw [hJ.out] at O9 hY0
              obtain ⟨c9, rfl⟩ : ∃ c, u9 = .slice (some ⟨b9, 0, none⟩) J.length c := by obtain ⟨c, e, _⟩ := O9.shape; exact ⟨_, e⟩
              have hxw : xb < w9.heap.size := Nat.lt_of_lt_of_le (lt_of_heap G8.out) B.size
              have hx9 : xb < b9 := Nat.lt_of_lt_of_le (lt_of_heap G8.out) hb9
              have G9 := Lib.hid (set8_at (.slice (some ⟨b9, 0, none⟩) J.length c9) (bblk B (lt_of_heap G8.out) G8.out))
              have o9 : ∀ c, c ≠ xb → (w9.setCell ⟨xb, 8, none⟩ (.slice (some ⟨b9, 0, none⟩) J.length c9)).heap[c]? = w9.heap[c]? := fun c hc => heap_setCell_other _ _ _ _ hc
              have R9 := Lib.hid ((o9 _ (by omega)).trans (bblk B (lt_of_heap R8.out) R8.out))
              have P9 := Lib.hid (O9.same (o9 b9 (by omega)))
              have D9 := Lib.hid ((bstep D8.out B).setCell (p := ⟨xb, 8, none⟩) (by show w.heap.size ≤ xb; omega) (.slice (some ⟨b9, 0, none⟩) J.length c9))
              have gx := bblk B (lt_of_heap G8.out) G8.out
              clear y0 y1 y2 y3 y4 y5 y6 y7 y8 yf0 yf1 yf2 yf3 yf4 yf5 yf6 yf7 yf8 yl
              obtain ⟨⟨g0, g1, g2, g3, g4, g5, g6, g7, g8⟩, ⟨gf0, gf1, gf2, gf3, gf4, gf5, gf6, gf7, gf8⟩, gl⟩ := nine_all gx
              clear jn jn2 o9 A8 R8 O8 D8 G8 O9 B gx
              go_upto_region 10 with fail
              clear g0 g1 g2 g3 g4 g5 g6 g7 g8 gf0 gf1 gf2 gf3 gf4 gf5 gf6 gf7 gf8 gl
              generalize w9.setCell ⟨xb, 8, none⟩ (.slice (some ⟨b9, 0, none⟩) J.length c9) = w10 at G9 R9 P9 D9 ⊢
              obtain ⟨Y, hY⟩ : ∃ Y : En, Hid (preE E X = Y) := ⟨_, Lib.hid rfl⟩
              rw [hY.out] at hQ hY0
              have e1 : Y.id = X.id := by rw [hY0.out]
              have e3 : Y.bal = X.bal := by rw [hY0.out]
              have e4 : Y.st = X.st := by rw [hY0.out]
              have e5 : Y.k = X.k := by rw [hY0.out]
              have e6 : Y.key = X.key := by rw [hY0.out]
              have e7 : Y.v = X.v := by rw [hY0.out]
              have e8 : Y.seq = s := by rw [hY0.out]
              have e9 : Y.deps = J := by rw [hY0.out]
              rw [← e1, ← e3, ← e4, ← e5, ← e6, ← e7, ← e8, ← e9] at G9
              rw [← e9] at P9 ⊢
              have sp2 := sp Y (.slice (some ⟨b9, 0, none⟩) Y.deps.length c9) w10 (by rw [← hl.out]; exact hE12) D9.out P9.out.read
              rw [runE_put (log_of hq.out).2.2] at sp2
              have ev2 := fun W (H : Ids W (.slice (some ⟨b9, 0, none⟩) Y.deps.length c9) Y.deps) => sentry_any Y (.slice (some ⟨b9, 0, none⟩) Y.deps.length c9) W H
              unfold env at ev2
              clear sp e1 e3 e4 e5 e6 e7 e8 e9 hY0 hY hX
              obtain ⟨⟨g0, g1, g2, g3, g4, g5, g6, g7, g8⟩, ⟨gf0, gf1, gf2, gf3, gf4, gf5, gf6, gf7, gf8⟩, gl⟩ := nine_all G9.out
              go_wp2_with fail
              refine sp2.mono ?_
              rintro e w11 ⟨⟨v11, rfl, L11⟩, B⟩
              obtain ⟨g11, c11, rfl⟩ := L11.len
              have hw10 : xb < w10.heap.size := gl
              have hb910 := P9.out.lt
              have hr10 := lt_of_heap R9.out
              have hw10b : w.heap.size ≤ w10.heap.size := by omega
              clear g0 g1 g2 g3 g4 g5 g6 g7 g8 gf0 gf1 gf2 gf3 gf4 gf5 gf6 gf7 gf8 gl
              have G11 := Lib.hid (bblk B (lt_of_heap G9.out) G9.out)
              have R11 := Lib.hid (bblk B (lt_of_heap R9.out) R9.out)
              have P11 := Lib.hid (P9.out.up B P9.out.lt)
              have D11 := Lib.hid (bstep D9.out B)
              have L11 := Lib.hid L11
              clear B sp2 G9 R9 P9 D9
              obtain ⟨⟨g0, g1, g2, g3, g4, g5, g6, g7, g8⟩, ⟨gf0, gf1, gf2, gf3, gf4, gf5, gf6, gf7, gf8⟩, gl⟩ := nine_all G11.out
              go_wp2_with fail
              refine (ev2 _ P11.out.read).mono ?_
              rintro e w12 ⟨rfl, B⟩
              clear g0 g1 g2 g3 g4 g5 g6 g7 g8 gf0 gf1 gf2 gf3 gf4 gf5 gf6 gf7 gf8 gl
              replace G11 := Lib.hid (bblk B (lt_of_heap G11.out) G11.out)
              replace R11 := Lib.hid (bblk B (lt_of_heap R11.out) R11.out)
              replace P11 := Lib.hid (P11.out.up B P11.out.lt)
              replace D11 := Lib.hid (bstep D11.out B)
              replace L11 := Lib.hid (L11.out.up B)
              clear B ev2
              obtain ⟨yb, hyb⟩ : ∃ q, Hid (enB Y = q) := ⟨_, Lib.hid rfl⟩
              rw [hyb.out]
              obtain ⟨m, hm⟩ : ∃ m, Hid ((putE Y E).length = m) := ⟨_, Lib.hid rfl⟩
              rw [hm.out] at L11 ⊢
              cases yb
              · replace hQ := Lib.hid (hQ.out.trans (ppR_bad hyb.out))
                clear G11 P11 L11
                have hPP := Lib.hid (pm_fail D11.out (Nat.le_succ _) R11.out)
                obtain ⟨⟨z0, z1, z2, z3, z4, z5, z6, z7, z8⟩, ⟨zf0, zf1, zf2, zf3, zf4, zf5, zf6, zf7, zf8⟩, zl⟩ := nine_all R11.out
                go_wp2_with fail
                refine bodyPost_ret (en_resSa _ _ _ _ _ _ _ _ _ _ _ _ _ _ _ rfl rfl rfl hPP.out.2) rfl ?_
                rw [hQ.out]
                exact hPP.out.1
              · by_cases h12 : m ≤ 12
                · replace hQ := Lib.hid (hQ.out.trans (ppR_good hyb.out (by rw [hm.out]; exact h12)))
                  have hg : ¬ 12 < m := by omega
                  obtain ⟨⟨g0, g1, g2, g3, g4, g5, g6, g7, g8⟩, ⟨gf0, gf1, gf2, gf3, gf4, gf5, gf6, gf7, gf8⟩, gl⟩ := nine_all G11.out
                  obtain ⟨⟨z0, z1, z2, z3, z4, z5, z6, z7, z8⟩, ⟨zf0, zf1, zf2, zf3, zf4, zf5, zf6, zf7, zf8⟩, zl⟩ := nine_all R11.out
                  go_upto_region 13 with fail
                  go_region
                  all_goals
                    have Z13 := Lib.hid (drew_heap (put9_at (.int .i64 Y.id.1) (.int .i64 Y.id.2) (.int .i64 Y.bal) (.int .i64 Y.st) (.int .i64 Y.k) (.int .i64 Y.key) (.int .i64 Y.v) (.int .i64 Y.seq) (.slice (some ⟨b9, 0, none⟩) Y.deps.length c9) R11.out))
                    have o13 := fun c (hc : c ≠ w.heap.size + 1) => put9_other (w := w12) (b := w.heap.size + 1) (c := c) (.int .i64 Y.id.1) (.int .i64 Y.id.2) (.int .i64 Y.bal) (.int .i64 Y.st) (.int .i64 Y.k) (.int .i64 Y.key) (.int .i64 Y.v) (.int .i64 Y.seq) (.slice (some ⟨b9, 0, none⟩) Y.deps.length c9) hc
                    have B13 := Lib.hid (Below.drew (D11.out.trans (put9_below (w := w12) (b := w.heap.size + 1) (.int .i64 Y.id.1) (.int .i64 Y.id.2) (.int .i64 Y.bal) (.int .i64 Y.st) (.int .i64 Y.k) (.int .i64 Y.key) (.int .i64 Y.v) (.int .i64 Y.seq) (.slice (some ⟨b9, 0, none⟩) Y.deps.length c9) (Nat.le_succ _))))
                    have hlt : w.heap.size + 1 < b9 := by omega
                    have L13 := Lib.hid ((L11.out.abv (fun c (hc : w10.heap.size ≤ c) => o13 c (by have := hr10; omega))).up (Below.drew (Below.refl _ _)))
                    have P13 := Lib.hid ((P11.out.same (o13 b9 (by omega))).up (Below.drew (Below.refl _ _)) (by have := P11.out.lt; simpa using this))
                    clear o13
                    go_wp2_with fail
                    refine bodyPost_ret (en_resSa _ _ _ _ _ _ _ _ _ _ _ _ _ _ _ rfl rfl rfl Z13.out) rfl ?_
                    rw [hQ.out]
                    refine ⟨_, .slice (some ⟨b9, 0, none⟩) Y.deps.length c9, rfl, ?_, OwZ.of P13.out (by omega), B13.out⟩
                    exact L13.out.wide hw10b
                · replace hQ := Lib.hid (hQ.out.trans (ppR_long (by rw [hm.out]; exact h12)))
                  have hg : 12 < m := by omega
                  clear G11 P11 L11
                  have hPP := Lib.hid (pm_fail D11.out (Nat.le_succ _) R11.out)
                  obtain ⟨⟨z0, z1, z2, z3, z4, z5, z6, z7, z8⟩, ⟨zf0, zf1, zf2, zf3, zf4, zf5, zf6, zf7, zf8⟩, zl⟩ := nine_all R11.out
                  go_wp2_with fail
                  refine bodyPost_ret (en_resSa _ _ _ _ _ _ _ _ _ _ _ _ _ _ _ rfl rfl rfl hPP.out.2) rfl ?_
                  rw [hQ.out]
                  exact hPP.out.1
      · have hstb : (X.st == 1) = false := by simpa using hst
        have hQ := Lib.hid (show preR E X = ([], en0, false) from preR_bad (fun hh => by exact hst hh.2.2.1))
        clear sa st cp jn sp
        obtain ⟨⟨y0, y1, y2, y3, y4, y5, y6, y7, y8⟩, ⟨yf0, yf1, yf2, yf3, yf4, yf5, yf6, yf7, yf8⟩, yl⟩ := nine_all A.out
        have hPP := Lib.hid (pm_fail D.out (Nat.le_succ _) R.out)
        obtain ⟨⟨z0, z1, z2, z3, z4, z5, z6, z7, z8⟩, ⟨zf0, zf1, zf2, zf3, zf4, zf5, zf6, zf7, zf8⟩, zl⟩ := nine_all R.out
        go_wp2_with fail
        refine bodyPost_ret (en_resSa _ _ _ _ _ _ _ _ _ _ _ _ _ _ _ rfl rfl rfl hPP.out.2) rfl ?_
        rw [hQ.out]
        exact hPP.out.1
theorem spre_any (u ux : Value) (E : List En) (X : En) (w : World) (h : Ens w u E) (hu : Ids w ux X.deps) :
    Calls Tryz.prog 10 #[u, env X ux] w (PmP (preR E X) w) := (sprez_any u ux E X w h hu).mono fun _ _ h => pmZ_P h
end Go.Proofs.YtdikcenhakfheaaGreatDoor
