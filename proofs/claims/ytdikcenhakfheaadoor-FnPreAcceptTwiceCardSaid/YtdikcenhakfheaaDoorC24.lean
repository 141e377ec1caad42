/- Texts laid together. -/
import Derived.Test.YtdikcenhakfheaaDoorC20
import Derived.Test.YtdikcenhakfheaaDoorC09
import Derived.Test.YtdikcenhakfheaaDoorC22
import Derived.Deep.RegionWith
import Derived.Test.YtdikcenhakfheaaDoorC23
import Derived.Test.YtdikcenhakfheaaDoorC01
/- Draws of logs and ids: l91In, DrawLogFind. -/
namespace Go.Proofs.YtdikcenhakfheaaDoor
open Go.RowKit
set_option linter.unusedVariables false

theorem in_resI (tm : Array Value) (w : World) (b : Nat) (v x y : Value) (t : TypeId) (h1 : tm[2]? = some v) (h2 : tm[3]? = some (.pointer (some ⟨b, 0, none⟩))) (h : w.heap[b]? = some (.cells #[x, y] t (0, 0))) :
    (results Tryd.f10 tm).run Tryd.prog w = .ok (.tuple #[v, .agg #[x, y]]) w := by
  obtain ⟨t0, t1, _, _⟩ := blk2 h
  simp [results, Tryd.results10, go_sem, h1, h2, t0, t1]
theorem put2_at {w : World} {b : Nat} {t : TypeId} {y0 y1 : Value} (x0 x1 : Value) (h : w.heap[b]? = some (.cells #[y0, y1] t (0, 0))) :
    ((w.setCell ⟨b, 0, none⟩ x0).setCell ⟨b, 1, none⟩ x1).heap[b]? = some (.cells #[x0, x1] t (0, 0)) := by
  have e := heap_setCell_same _ b 1 _ _ x1 (heap_setCell_same _ b 0 _ _ x0 h)
  simp only [List.setIfInBounds_toArray, List.set_cons_zero, List.set_cons_succ] at e
  exact e
theorem EnO.own {w : World} {B b o : Nat} {v : Value} {E : List En} (h : EnO w B v E) (hb : b < B) (u : Value) : EnO (w.setCell ⟨b, o, none⟩ u) B v E := by
  obtain ⟨g, cap, cur, t, rfl, h0, hg, h1, h2, h3⟩ := h
  refine ⟨g, cap, cur, t, rfl, h0, (heap_setCell_other _ _ _ _ (by show g ≠ b; omega)).trans hg, h1, h2, fun i hi => ?_⟩
  obtain ⟨c, u', q1, q2, hc, ho⟩ := h3 i hi
  exact ⟨c, u', q1, q2, hc, ho.same (heap_setCell_other _ _ _ _ (by show c ≠ b; omega))⟩
theorem EnO.cell01 {w : World} {B : Nat} {E : List En} {g n cap : Nat} (h : EnO w B (.slice (some ⟨g, 0, none⟩) n cap) E) {k : Nat} (hk : k < E.length) : w.cell? ⟨g, k * 9, none⟩ = some (.int .i64 (E.getD k en0).id.1) ∧ w.cell? ⟨g, k * 9 + 1, none⟩ = some (.int .i64 (E.getD k en0).id.2) ∧ g < w.heap.size := by
  obtain ⟨g', cap', cur, t, e, h0, hg, h1, h2, h3⟩ := h
  injection e with e1 e2 e3; injection e1 with e1; injection e1 with e1
  subst e1
  obtain ⟨_, _, _, _, hc, _⟩ := h3 k hk
  exact ⟨(cell_of_cells hg).trans (hc 0 (by omega)), (cell_of_cells hg).trans (hc 1 (by omega)), lt_of_heap hg⟩
theorem inR_small {x y : Int} (h1 : -100 ≤ x) (h2 : x ≤ 100) (h3 : -100 ≤ y) (h4 : y ≤ 100) : inR (x, y) := ⟨WalkArith.wf_i64 (by dsimp only; omega), WalkArith.wf_i64 (by dsimp only; omega)⟩

/-- What l91In leaves. -/
def DinP (r n : Nat) (w : World) (e : Ending) (w' : World) : Prop :=
  ∃ v E x y, e = .returned (.tuple #[v, .agg #[.int .i64 x, .int .i64 y]]) ∧ EnO w' (w.heap.size + 1) v E ∧ E.length ≤ 12 ∧ inR (x, y) ∧ Rd w' r (n + 800) ∧ Keep w.heap.size r w w'

set_option maxRecDepth 100000 in
set_option maxHeartbeats 4000000 in
theorem din_any (r n : Nat) (w : World) (hrd : Rd w r n) (hn : n ≤ 500000000) :
    Calls Tryd.prog 10 #[.pointer (some ⟨r, 0, none⟩)] w (DinP r n w) := by
  have hrl := hrd.lt
  have A := Lib.hid (heap_alloc_new w (.cells #[.int .i64 0, .int .i64 0] 25))
  have K := Lib.hid ((Keep.refl w.heap.size r w).alloc (Nat.le_refl _) (.cells #[.int .i64 0, .int .i64 0] 25))
  have R := Lib.hid (hrd.alloc (.cells #[.int .i64 0, .int .i64 0] 25))
  clear hrd
  go_enter Tryd.func10, Tryd.ntmps10
  go_wp2_with fail
  refine (dlog_any r n _ R.out (by omega)).mono ?_
  rintro e w1 ⟨v, E, rfl, O, hl, hok, hr', hk'⟩
  rw [show (w.alloc (.cells #[.int .i64 0, .int .i64 0] 25)).heap.size = w.heap.size + 1 by simp] at O hk'
  have hal := lt_of_heap A.out
  replace A := Lib.hid ((hk'.block w.heap.size (by omega) (by omega)).trans A.out)
  replace K := Lib.hid (K.out.trans (hk'.mono (Nat.le_succ _)))
  replace R := Lib.hid hr'
  obtain ⟨g, cap, hv⟩ := O.len
  subst hv
  have O := Lib.hid O
  have hok := Lib.hid hok
  have hgl := (show g < w1.heap.size from by obtain ⟨g', _, _, _, e, _, hg, _⟩ := O.out; injection e with e1; injection e1 with e1; injection e1 with e1; subst e1; exact lt_of_heap hg)
  obtain ⟨ln, hln⟩ : ∃ x, Hid (E.length = x) := ⟨_, Lib.hid rfl⟩
  rw [hln.out] at O hl ⊢
  clear hr' hk' hal
  by_cases h0 : ln = 0
  · subst h0
    go_wp2_with fail
    refine (idd_any r _ _ R.out (by omega)).mono ?_
    rintro e w2 ⟨x, y, rfl, hx, hy, hr', hk'⟩
    have hs := K.out.size
    replace O := Lib.hid (O.out.keep hk' (by omega))
    replace A := Lib.hid ((hk'.block w.heap.size (lt_of_heap A.out) (by omega)).trans A.out)
    replace K := Lib.hid (K.out.trans (hk'.mono hs))
    replace R := Lib.hid hr'
    obtain ⟨a0, a1, f0, f1⟩ := blk2 A.out
    have hal := lt_of_heap A.out
    clear hk' hr'
    go_wp2_with fail
    refine bodyPost_ret (in_resI _ _ _ _ _ _ _ rfl rfl (put2_at _ _ A.out)) rfl ⟨_, E, x, y, rfl, (O.out.own (by omega) _).own (by omega) _, by rw [hln.out]; exact hl, inR_small (by omega) (by omega) (by omega) (by omega), ((R.out.setCell (p := ⟨w.heap.size, 0, none⟩) hrl _).setCell (p := ⟨w.heap.size, 1, none⟩) hrl _).more (by omega), (K.out.setCell (p := ⟨w.heap.size, 0, none⟩) (Nat.le_refl _) _).setCell (p := ⟨w.heap.size, 1, none⟩) (Nat.le_refl _) _⟩
  · have h0' : 0 < ln := by omega
    have h0b : ((ln : Int) == 0) = false := by simp [h0]
    go_wp2_with fail
    refine (pick_any 5 r _ _ R.out (by omega)).mono ?_
    rintro e w2 ⟨z, rfl, z0, z1', hr', hk'⟩
    have hs := K.out.size
    replace O := Lib.hid (O.out.keep hk' (by omega))
    replace A := Lib.hid ((hk'.block w.heap.size (lt_of_heap A.out) (by omega)).trans A.out)
    replace K := Lib.hid (K.out.trans (hk'.mono hs))
    replace R := Lib.hid hr'
    clear hk' hr' hs z1'
    by_cases hz : z = 0
    · subst hz
      go_wp2_with fail
      refine (idd_any r _ _ R.out (by omega)).mono ?_
      rintro e w3 ⟨x, y, rfl, hx, hy, hr', hk'⟩
      have hs := K.out.size
      replace O := Lib.hid (O.out.keep hk' (by omega))
      replace A := Lib.hid ((hk'.block w.heap.size (lt_of_heap A.out) (by omega)).trans A.out)
      replace K := Lib.hid (K.out.trans (hk'.mono hs))
      replace R := Lib.hid hr'
      obtain ⟨a0, a1, f0, f1⟩ := blk2 A.out
      have hal := lt_of_heap A.out
      clear hk' hr'
      go_wp2_with fail
      refine bodyPost_ret (in_resI _ _ _ _ _ _ _ rfl rfl (put2_at _ _ A.out)) rfl ⟨_, E, x, y, rfl, (O.out.own (by omega) _).own (by omega) _, by rw [hln.out]; exact hl, inR_small (by omega) (by omega) (by omega) (by omega), ((R.out.setCell (p := ⟨w.heap.size, 0, none⟩) hrl _).setCell (p := ⟨w.heap.size, 1, none⟩) hrl _).more (by omega), (K.out.setCell (p := ⟨w.heap.size, 0, none⟩) (Nat.le_refl _) _).setCell (p := ⟨w.heap.size, 1, none⟩) (Nat.le_refl _) _⟩
    · have hzb : (z == 0) = false := by simpa using hz
      obtain ⟨a0, a1, f0, f1⟩ := blk2 A.out
      have hal := lt_of_heap A.out
      go_wp2_with fail
      go_region_with (go_at_call 11; (with_reducible refine (pick_any _ r _ _ (R.out.kept (Below.drew (Below.refl _ _))) (by omega)).mono ?_); rintro e w3 ⟨j, rfl, j0, j1', hr', hk'⟩; have j1 := j1' (by omega); have hs := K.out.size; have O3 := Lib.hid ((O.out.up (Below.drew (Below.refl _ _))).keep hk' (by omega)); have A3 := Lib.hid ((hk'.block w.heap.size hal (by omega)).trans (show _ = _ from A.out)); have K3 := Lib.hid (Keep.trans (Keep.trans K.out (Keep.of_below (Below.drew (Below.refl _ _)))) (hk'.mono hs)); have R3 := Lib.hid hr'; obtain ⟨j, rfl⟩ := Int.eq_ofNat_of_zero_le j0; obtain ⟨q0, q1, qb⟩ := O3.out.cell01 (k := j) (by rw [hln.out]; omega); obtain ⟨b0, b1, e0, e1⟩ := blk2 A3.out; have hal3 := lt_of_heap A3.out; clear hk' hr' j1' a0 a1 f0 f1)
      all_goals
        have hokj := hok.out j (by rw [hln.out]; omega)
        have hin := inR_ok hokj
        go_wp2_with fail
        refine bodyPost_ret (in_resI _ _ _ _ _ _ _ rfl rfl (put2_at _ _ A3.out)) rfl ⟨_, E, _, _, rfl, (O3.out.own (by omega) _).own (by omega) _, by rw [hln.out]; exact hl, hin, ((R3.out.setCell (p := ⟨w.heap.size, 0, none⟩) hrl _).setCell (p := ⟨w.heap.size, 1, none⟩) hrl _).more (by omega), (K3.out.setCell (p := ⟨w.heap.size, 0, none⟩) (Nat.le_refl _) _).setCell (p := ⟨w.heap.size, 1, none⟩) (Nat.le_refl _) _⟩
end Go.Proofs.YtdikcenhakfheaaDoor

/- The draw of a log and of an entry: DrawPreAccept. -/
namespace Go.Proofs.YtdikcenhakfheaaDoor
open Go.RowKit
set_option linter.unusedVariables false

theorem EnO.abovA {w w' : World} {B : Nat} {v : Value} {E : List En} (h : EnO w B v E) (hk : ∀ b, B ≤ b → w'.heap[b]? = w.heap[b]?) : EnO w' B v E := by
  obtain ⟨g, cap, cur, t, rfl, h0, hg, h1, h2, h3⟩ := h
  refine ⟨g, cap, cur, t, rfl, h0, (hk g h0).trans hg, h1, h2, fun i hi => ?_⟩
  obtain ⟨c, u', q1, q2, hc, ho⟩ := h3 i hi
  exact ⟨c, u', q1, q2, hc, ho.same (hk c q1)⟩
theorem drewA_heap {w : World} {b : Nat} {o : Obj} (h : w.heap[b]? = some o) : w.drew.heap[b]? = some o := h
theorem set3_at {w : World} {b : Nat} {t : TypeId} {y0 y1 y2 y3 y4 y5 y6 y7 y8 : Value} (x : Value) (h : w.heap[b]? = some (.cells #[y0, y1, y2, y3, y4, y5, y6, y7, y8] t (0, 0))) : (w.setCell ⟨b, 3, none⟩ x).heap[b]? = some (.cells #[y0, y1, y2, x, y4, y5, y6, y7, y8] t (0, 0)) := by
  have e := heap_setCell_same _ b 3 _ _ x h
  simp only [List.setIfInBounds_toArray, List.set_cons_zero, List.set_cons_succ] at e
  exact e
/-- What a draw of a log and of an entry leaves. -/
def DpaP (w : World) (e : Ending) (w' : World) : Prop :=
  ∃ v E X u b, e = .returned (.tuple #[v, env X u]) ∧ EnO w' w.heap.size v E ∧ E.length ≤ 12 ∧ inR X.id ∧ w.heap.size ≤ b ∧ OwnP w' b u X.deps ∧ X.deps.length ≤ 3 ∧ Below w.heap.size w w'
theorem en_resDa (tm : Array Value) (w : World) (b : Nat) (v x0 x1 x2 x3 x4 x5 x6 x7 x8 : Value) (t : TypeId) (h1 : tm[2]? = some v) (h2 : tm[3]? = some (.pointer (some ⟨b, 0, none⟩))) (h : w.heap[b]? = some (.cells #[x0, x1, x2, x3, x4, x5, x6, x7, x8] t (0, 0))) :
    (results Tryd.f4 tm).run Tryd.prog w = .ok (.tuple #[v, .agg #[x0, x1, x2, x3, x4, x5, x6, x7, x8]]) w := by
  obtain ⟨t0, t1, t2, t3, t4, t5, t6, t7, t8⟩ := nine_cells h
  simp [results, Tryd.results4, go_sem, h1, h2, t0, t1, t2, t3, t4, t5, t6, t7, t8]
set_option maxRecDepth 100000 in
set_option maxHeartbeats 8000000 in
theorem dpa_any (a : Option Addr) (len cap : Nat) (w : World) (hc : CodeIn w a len cap) (hcap : cap ≤ maxLen) :
    Calls Tryd.prog 4 #[.slice a len cap] w (DpaP w) := by
  have al := (Below.refl w.heap.size w).alloc (Nat.le_refl _) (.cells #[.int .i64 0, .int .i64 0, .int .i64 0, .int .i64 0, .int .i64 0, .int .i64 0, .int .i64 0, .int .i64 0, .slice none 0 0] 30)
  have hc := Lib.hid (hc.up al)
  have al := Lib.hid al
  have A := Lib.hid (heap_alloc_new w (.cells #[.int .i64 0, .int .i64 0, .int .i64 0, .int .i64 0, .int .i64 0, .int .i64 0, .int .i64 0, .int .i64 0, .slice none 0 0] 30))
  go_enter Tryd.func4, Tryd.ntmps4
  go_wp2_with fail
  refine (open_any a len cap _ hc.out hcap).mono ?_
  rintro e w1 ⟨r, rfl, hr0, hr', hb'⟩
  have s1 : w.heap.size + 1 ≤ w1.heap.size := by simpa using hb'.size
  have hr0' : w.heap.size + 1 ≤ r := by simpa using hr0
  replace A := Lib.hid ((hb'.block w.heap.size (by simp)).trans A.out)
  have D1 : Hid (Below w.heap.size w w1) := Lib.hid (al.out.trans (hb'.mono (by simp)))
  have hr1 := Lib.hid hr'
  have hrl := hr'.lt
  clear hr' hb' hc al hr0
  go_wp2_with fail
  refine (din_any r 0 _ hr1.out (by omega)).mono ?_
  rintro e w2 ⟨v, E, x, y, rfl, O, hl, ha, hr', hk⟩
  have s2 := hk.size
  have D2 := Lib.hid (D1.out.trans ((hk.mono (by omega)).below (by omega)))
  replace A := Lib.hid ((hk.block w.heap.size (by omega) (by omega)).trans A.out)
  have ha := Lib.hid ha
  obtain ⟨g, cap', hv⟩ := O.len
  subst hv
  have O := Lib.hid O
  have R := Lib.hid (hr'.alloc (.cells #[.int .i64 x, .int .i64 y] 25))
  have K := Lib.hid ((Keep.refl w2.heap.size r w2).alloc (Nat.le_refl _) (.cells #[.int .i64 x, .int .i64 y] 25))
  have BX := Lib.hid (heap_alloc_new w2 (.cells #[.int .i64 x, .int .i64 y] 25))
  clear hk hr' D1 hr1
  go_wp2_with fail
  refine (pick_any 3 r _ _ R.out (by omega)).mono ?_
  rintro e w3 ⟨z, rfl, z0, z1', hr', hk'⟩
  have hs := K.out.size
  replace BX := Lib.hid ((hk'.block w2.heap.size (lt_of_heap BX.out) (by omega)).trans BX.out)
  replace K := Lib.hid (K.out.trans (hk'.mono hs))
  replace R := Lib.hid hr'
  obtain ⟨a0, a1, f0, f1⟩ := blk2 BX.out
  have hbl := lt_of_heap BX.out
  clear hk' hr' z1' hs
  by_cases hz : z = 0
  · subst hz
    go_wp2_with fail
    refine (entry_any r _ x y _ R.out (by omega)).mono ?_
    rintro e w7 ⟨b, X, u, hb, rfl, hid, hO, hd, hr', hk'⟩
    have hs := K.out.size
    obtain ⟨ua, un, uc, rfl⟩ : ∃ ua un uc, u = .slice ua un uc := by obtain ⟨c, e, _⟩ := hO.shape; exact ⟨_, _, _, e⟩
    replace K := Lib.hid (K.out.trans (hk'.mono hs))
    have hsz := K.out.size
    replace K := Lib.hid (K.out.alloc hsz (.cells #[.int .i64 X.id.1, .int .i64 X.id.2, .int .i64 X.bal, .int .i64 X.st, .int .i64 X.k, .int .i64 X.key, .int .i64 X.v, .int .i64 X.seq, .slice ua un uc] 30))
    have R7 := Lib.hid (hr'.alloc (.cells #[.int .i64 X.id.1, .int .i64 X.id.2, .int .i64 X.bal, .int .i64 X.st, .int .i64 X.k, .int .i64 X.key, .int .i64 X.v, .int .i64 X.seq, .slice ua un uc] 30))
    have G := Lib.hid (heap_alloc_new w7 (.cells #[.int .i64 X.id.1, .int .i64 X.id.2, .int .i64 X.bal, .int .i64 X.st, .int .i64 X.k, .int .i64 X.key, .int .i64 X.v, .int .i64 X.seq, .slice ua un uc] 30))
    have hbe : b < w7.heap.size := hO.lt
    have hO := Lib.hid (hO.up ((Below.refl w7.heap.size w7).alloc (Nat.le_refl _) (.cells #[.int .i64 X.id.1, .int .i64 X.id.2, .int .i64 X.bal, .int .i64 X.st, .int .i64 X.k, .int .i64 X.key, .int .i64 X.v, .int .i64 X.seq, .slice ua un uc] 30)) hO.lt)
    have hin : Hid (inR X.id) := Lib.hid (by rw [hid]; exact ha.out)
    have hrx : w2.heap.size + 1 ≤ b := by have := hs; omega
    replace hid := Lib.hid hid
    clear hk' hr' R a0 a1
    unfold env
    go_upto_region 6 with fail
    obtain ⟨eb, heb⟩ : ∃ c, Hid (w7.heap.size = c) := ⟨_, Lib.hid rfl⟩
    rw [heb.out] at G hbe hsz ⊢
    generalize w7.alloc (.cells #[.int .i64 X.id.1, .int .i64 X.id.2, .int .i64 X.bal, .int .i64 X.st, .int .i64 X.k, .int .i64 X.key, .int .i64 X.v, .int .i64 X.seq, .slice ua un uc] 30) = w8 at K R7 G hO ⊢
    clear heb
    go_wp2_with fail
    refine (pick_any 5 r _ _ R7.out (by omega)).mono ?_
    rintro e w9 ⟨q, rfl, q0, q1', hr', hk'⟩
    have hs8 := K.out.size
    replace G := Lib.hid ((hk'.block eb (lt_of_heap G.out) (by omega)).trans G.out)
    replace hO := Lib.hid (hO.out.same (hk'.block b hO.out.lt (by omega)))
    replace K := Lib.hid (K.out.trans (hk'.mono hs8))
    clear hk' hr' q1' R7 hs8
    have hsz9 := K.out.size
    have A9 := Lib.hid ((K.out.block w.heap.size (by omega) (by omega)).trans A.out)
    clear A
    obtain ⟨⟨y0, y1, y2, y3, y4, y5, y6, y7, y8⟩, ⟨g0, g1, g2, g3, g4, g5, g6, g7, g8⟩, ys⟩ := nine_all G.out
    by_cases hq : q = 0
    · subst hq
      obtain ⟨⟨x0, x1, x2, x3, x4, x5, x6, x7, x8⟩, ⟨e0, e1, e2, e3, e4, e5, e6, e7, e8⟩, xs⟩ := nine_all A9.out
      go_upto_region 8 with fail
      go_region
      all_goals
        have P9 := Lib.hid (drewA_heap (put9_at (.int .i64 X.id.1) (.int .i64 X.id.2) (.int .i64 X.bal) (.int .i64 (X.st)) (.int .i64 X.k) (.int .i64 X.key) (.int .i64 X.v) (.int .i64 X.seq) (.slice ua un uc) A9.out))
        go_wp2_with fail
        refine bodyPost_ret (en_resDa _ _ _ _ _ _ _ _ _ _ _ _ _ _ rfl rfl P9.out) rfl ⟨_, E, X, .slice ua un uc, b, rfl, ?_, hl, hin.out, by omega, (hO.out.same (put9_other _ _ _ _ _ _ _ _ _ (by omega))).up (Below.drew (Below.refl _ _)) (by have := hO.out.lt; simpa using this), hd, ?_⟩
        · exact (((O.out.keep K.out (by omega)).abovA (fun c hc => put9_other _ _ _ _ _ _ _ _ _ (by omega))).wide (by omega)).up (Below.drew (Below.refl _ _))
        · exact Below.drew ((D2.out.trans ((K.out.mono (by omega)).below (B := w.heap.size) (by omega))).trans (put9_below _ _ _ _ _ _ _ _ _ (Nat.le_refl _)))
    · have hq0 : 0 < q := by omega
      replace G := Lib.hid (set3_at (.int .i64 1) G.out)
      replace hO := Lib.hid (hO.out.same (show (w9.setCell ⟨eb, 3, none⟩ (.int .i64 1)).heap[b]? = w9.heap[b]? from heap_setCell_other _ _ _ _ (by show b ≠ eb; omega)))
      replace K := Lib.hid (K.out.setCell (p := ⟨eb, 3, none⟩) (by show w2.heap.size ≤ eb; omega) (.int .i64 1))
      replace A9 := Lib.hid ((show (w9.setCell ⟨eb, 3, none⟩ (.int .i64 1)).heap[w.heap.size]? = w9.heap[w.heap.size]? from heap_setCell_other _ _ _ _ (by show w.heap.size ≠ eb; omega)).trans A9.out)
      go_upto_region 8 with fail
      clear y0 y1 y2 y3 y4 y5 y6 y7 y8 g0 g1 g2 g3 g4 g5 g6 g7 g8 ys
      generalize w9.setCell ⟨eb, 3, none⟩ (.int .i64 1) = w10 at K G hO A9 ⊢
      obtain ⟨⟨y0, y1, y2, y3, y4, y5, y6, y7, y8⟩, ⟨g0, g1, g2, g3, g4, g5, g6, g7, g8⟩, ys⟩ := nine_all G.out
      have hsz10 := K.out.size
      obtain ⟨⟨x0, x1, x2, x3, x4, x5, x6, x7, x8⟩, ⟨e0, e1, e2, e3, e4, e5, e6, e7, e8⟩, xs⟩ := nine_all A9.out
      go_upto_region 8 with fail
      go_region
      all_goals
        have P9 := Lib.hid (drewA_heap (put9_at (.int .i64 X.id.1) (.int .i64 X.id.2) (.int .i64 X.bal) (.int .i64 (1)) (.int .i64 X.k) (.int .i64 X.key) (.int .i64 X.v) (.int .i64 X.seq) (.slice ua un uc) A9.out))
        go_wp2_with fail
        refine bodyPost_ret (en_resDa _ _ _ _ _ _ _ _ _ _ _ _ _ _ rfl rfl P9.out) rfl ⟨_, E, { X with st := 1 }, .slice ua un uc, b, rfl, ?_, hl, hin.out, by omega, (hO.out.same (put9_other _ _ _ _ _ _ _ _ _ (by omega))).up (Below.drew (Below.refl _ _)) (by have := hO.out.lt; simpa using this), hd, ?_⟩
        · exact (((O.out.keep K.out (by omega)).abovA (fun c hc => put9_other _ _ _ _ _ _ _ _ _ (by omega))).wide (by omega)).up (Below.drew (Below.refl _ _))
        · exact Below.drew ((D2.out.trans ((K.out.mono (by omega)).below (B := w.heap.size) (by omega))).trans (put9_below _ _ _ _ _ _ _ _ _ (Nat.le_refl _)))
  · have hz0 : 0 < z := by omega
    go_wp2_with fail
    refine (pick_any 4 r _ _ R.out (by omega)).mono ?_
    rintro e w4 ⟨t, rfl, t0, t1', hr', hk'⟩
    have t1 := t1' (by omega)
    have hs := K.out.size
    replace BX := Lib.hid ((hk'.block w2.heap.size hbl (by omega)).trans BX.out)
    replace K := Lib.hid (((K.out.trans (hk'.mono hs)).setCell (p := ⟨w2.heap.size, 0, none⟩) (Nat.le_refl _) (.int .i64 3)).setCell (p := ⟨w2.heap.size, 1, none⟩) (Nat.le_refl _) (.int .i64 (1 + t)))
    replace R := Lib.hid ((hr'.setCell (p := ⟨w2.heap.size, 0, none⟩) (by show r < w2.heap.size; omega) (.int .i64 3)).setCell (p := ⟨w2.heap.size, 1, none⟩) (by show r < w2.heap.size; omega) (.int .i64 (1 + t)))
    clear a0 a1 f0 f1 hbl hk' hr' hs t1'
    obtain ⟨a0, a1, f0, f1⟩ := blk2 BX.out
    have hbl := lt_of_heap BX.out
    replace BX := Lib.hid (put2_at (.int .i64 3) (.int .i64 (1 + t)) BX.out)
    go_upto_region 5 with fail
    clear a0 a1 f0 f1
    obtain ⟨a0, a1, f0, f1⟩ := blk2 BX.out
    replace hbl := lt_of_heap BX.out
    generalize (w4.setCell ⟨w2.heap.size, 0, none⟩ (.int .i64 3)).setCell ⟨w2.heap.size, 1, none⟩ (.int .i64 (1 + t)) = w5 at K R BX a0 a1 f0 f1 hbl ⊢
    go_wp2_with fail
    refine (entry_any r _ 3 (1 + t) _ R.out (by omega)).mono ?_
    rintro e w7 ⟨b, X, u, hb, rfl, hid, hO, hd, hr', hk'⟩
    have hs := K.out.size
    obtain ⟨ua, un, uc, rfl⟩ : ∃ ua un uc, u = .slice ua un uc := by obtain ⟨c, e, _⟩ := hO.shape; exact ⟨_, _, _, e⟩
    replace K := Lib.hid (K.out.trans (hk'.mono hs))
    have hsz := K.out.size
    replace K := Lib.hid (K.out.alloc hsz (.cells #[.int .i64 X.id.1, .int .i64 X.id.2, .int .i64 X.bal, .int .i64 X.st, .int .i64 X.k, .int .i64 X.key, .int .i64 X.v, .int .i64 X.seq, .slice ua un uc] 30))
    have R7 := Lib.hid (hr'.alloc (.cells #[.int .i64 X.id.1, .int .i64 X.id.2, .int .i64 X.bal, .int .i64 X.st, .int .i64 X.k, .int .i64 X.key, .int .i64 X.v, .int .i64 X.seq, .slice ua un uc] 30))
    have G := Lib.hid (heap_alloc_new w7 (.cells #[.int .i64 X.id.1, .int .i64 X.id.2, .int .i64 X.bal, .int .i64 X.st, .int .i64 X.k, .int .i64 X.key, .int .i64 X.v, .int .i64 X.seq, .slice ua un uc] 30))
    have hbe : b < w7.heap.size := hO.lt
    have hO := Lib.hid (hO.up ((Below.refl w7.heap.size w7).alloc (Nat.le_refl _) (.cells #[.int .i64 X.id.1, .int .i64 X.id.2, .int .i64 X.bal, .int .i64 X.st, .int .i64 X.k, .int .i64 X.key, .int .i64 X.v, .int .i64 X.seq, .slice ua un uc] 30)) hO.lt)
    have hin : Hid (inR X.id) := Lib.hid (by rw [hid]; exact inR_small (by omega) (by omega) (by omega) (by omega))
    have hrx : w2.heap.size + 1 ≤ b := by have := hs; omega
    replace hid := Lib.hid hid
    clear hk' hr' R a0 a1
    unfold env
    go_upto_region 6 with fail
    obtain ⟨eb, heb⟩ : ∃ c, Hid (w7.heap.size = c) := ⟨_, Lib.hid rfl⟩
    rw [heb.out] at G hbe hsz ⊢
    generalize w7.alloc (.cells #[.int .i64 X.id.1, .int .i64 X.id.2, .int .i64 X.bal, .int .i64 X.st, .int .i64 X.k, .int .i64 X.key, .int .i64 X.v, .int .i64 X.seq, .slice ua un uc] 30) = w8 at K R7 G hO ⊢
    clear heb
    go_wp2_with fail
    refine (pick_any 5 r _ _ R7.out (by omega)).mono ?_
    rintro e w9 ⟨q, rfl, q0, q1', hr', hk'⟩
    have hs8 := K.out.size
    replace G := Lib.hid ((hk'.block eb (lt_of_heap G.out) (by omega)).trans G.out)
    replace hO := Lib.hid (hO.out.same (hk'.block b hO.out.lt (by omega)))
    replace K := Lib.hid (K.out.trans (hk'.mono hs8))
    clear hk' hr' q1' R7 hs8
    have hsz9 := K.out.size
    have A9 := Lib.hid ((K.out.block w.heap.size (by omega) (by omega)).trans A.out)
    clear A
    obtain ⟨⟨y0, y1, y2, y3, y4, y5, y6, y7, y8⟩, ⟨g0, g1, g2, g3, g4, g5, g6, g7, g8⟩, ys⟩ := nine_all G.out
    by_cases hq : q = 0
    · subst hq
      obtain ⟨⟨x0, x1, x2, x3, x4, x5, x6, x7, x8⟩, ⟨e0, e1, e2, e3, e4, e5, e6, e7, e8⟩, xs⟩ := nine_all A9.out
      go_upto_region 8 with fail
      go_region
      all_goals
        have P9 := Lib.hid (drewA_heap (put9_at (.int .i64 X.id.1) (.int .i64 X.id.2) (.int .i64 X.bal) (.int .i64 (X.st)) (.int .i64 X.k) (.int .i64 X.key) (.int .i64 X.v) (.int .i64 X.seq) (.slice ua un uc) A9.out))
        go_wp2_with fail
        refine bodyPost_ret (en_resDa _ _ _ _ _ _ _ _ _ _ _ _ _ _ rfl rfl P9.out) rfl ⟨_, E, X, .slice ua un uc, b, rfl, ?_, hl, hin.out, by omega, (hO.out.same (put9_other _ _ _ _ _ _ _ _ _ (by omega))).up (Below.drew (Below.refl _ _)) (by have := hO.out.lt; simpa using this), hd, ?_⟩
        · exact (((O.out.keep K.out (by omega)).abovA (fun c hc => put9_other _ _ _ _ _ _ _ _ _ (by omega))).wide (by omega)).up (Below.drew (Below.refl _ _))
        · exact Below.drew ((D2.out.trans ((K.out.mono (by omega)).below (B := w.heap.size) (by omega))).trans (put9_below _ _ _ _ _ _ _ _ _ (Nat.le_refl _)))
    · have hq0 : 0 < q := by omega
      replace G := Lib.hid (set3_at (.int .i64 1) G.out)
      replace hO := Lib.hid (hO.out.same (show (w9.setCell ⟨eb, 3, none⟩ (.int .i64 1)).heap[b]? = w9.heap[b]? from heap_setCell_other _ _ _ _ (by show b ≠ eb; omega)))
      replace K := Lib.hid (K.out.setCell (p := ⟨eb, 3, none⟩) (by show w2.heap.size ≤ eb; omega) (.int .i64 1))
      replace A9 := Lib.hid ((show (w9.setCell ⟨eb, 3, none⟩ (.int .i64 1)).heap[w.heap.size]? = w9.heap[w.heap.size]? from heap_setCell_other _ _ _ _ (by show w.heap.size ≠ eb; omega)).trans A9.out)
      go_upto_region 8 with fail
      clear y0 y1 y2 y3 y4 y5 y6 y7 y8 g0 g1 g2 g3 g4 g5 g6 g7 g8 ys
      generalize w9.setCell ⟨eb, 3, none⟩ (.int .i64 1) = w10 at K G hO A9 ⊢
      obtain ⟨⟨y0, y1, y2, y3, y4, y5, y6, y7, y8⟩, ⟨g0, g1, g2, g3, g4, g5, g6, g7, g8⟩, ys⟩ := nine_all G.out
      have hsz10 := K.out.size
      obtain ⟨⟨x0, x1, x2, x3, x4, x5, x6, x7, x8⟩, ⟨e0, e1, e2, e3, e4, e5, e6, e7, e8⟩, xs⟩ := nine_all A9.out
      go_upto_region 8 with fail
      go_region
      all_goals
        have P9 := Lib.hid (drewA_heap (put9_at (.int .i64 X.id.1) (.int .i64 X.id.2) (.int .i64 X.bal) (.int .i64 (1)) (.int .i64 X.k) (.int .i64 X.key) (.int .i64 X.v) (.int .i64 X.seq) (.slice ua un uc) A9.out))
        go_wp2_with fail
        refine bodyPost_ret (en_resDa _ _ _ _ _ _ _ _ _ _ _ _ _ _ rfl rfl P9.out) rfl ⟨_, E, { X with st := 1 }, .slice ua un uc, b, rfl, ?_, hl, hin.out, by omega, (hO.out.same (put9_other _ _ _ _ _ _ _ _ _ (by omega))).up (Below.drew (Below.refl _ _)) (by have := hO.out.lt; simpa using this), hd, ?_⟩
        · exact (((O.out.keep K.out (by omega)).abovA (fun c hc => put9_other _ _ _ _ _ _ _ _ _ (by omega))).wide (by omega)).up (Below.drew (Below.refl _ _))
        · exact Below.drew ((D2.out.trans ((K.out.mono (by omega)).below (B := w.heap.size) (by omega))).trans (put9_below _ _ _ _ _ _ _ _ _ (Nat.le_refl _)))
end Go.Proofs.YtdikcenhakfheaaDoor
