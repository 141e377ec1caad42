/- Texts laid together. -/
import Derived.Test.YtpckhghcjedblaaDoorC15
import Derived.Test.YtpckhghcjedblaaDoorC08
import Derived.Test.YtpckhghcjedblaaDoorC17
import Derived.Deep.RegionWith
import Derived.Test.YtpckhghcjedblaaDoorC10
import Derived.Test.YtpckhghcjedblaaDoorC20
import Derived.Test.YtpckhghcjedblaaDoorC05
import Derived.Deep.DeepCutAuto
import Derived.IntWalk
import Derived.Test.YtpckhghcjedblaaDoorC21
import Derived.Test.YtpckhghcjedblaaDoorC11
import Derived.Test.YtpckhghcjedblaaDoorC22
import Derived.Deep.RegionHeld3
/- Draws of logs and ids: l91In, DrawLogFind. -/
namespace Go.Proofs.YtpckhghcjedblaaDoor
open Go.RowKit
set_option linter.unusedVariables false

theorem in_resI (tm : Array Value) (w : World) (b : Nat) (v x y : Value) (t : TypeId) (h1 : tm[2]? = some v) (h2 : tm[3]? = some (.pointer (some ⟨b, 0, none⟩))) (h : w.heap[b]? = some (.cells #[x, y] t (0, 0))) :
    (results Tryd.f26 tm).run Tryd.prog w = .ok (.tuple #[v, .agg #[x, y]]) w := by
  obtain ⟨t0, t1, _, _⟩ := blk2 h
  simp [results, Tryd.results26, go_sem, h1, h2, t0, t1]
theorem put2_at {w : World} {b : Nat} {t : TypeId} {y0 y1 : Value} (x0 x1 : Value) (h : w.heap[b]? = some (.cells #[y0, y1] t (0, 0))) :
    ((w.setCell ⟨b, 0, none⟩ x0).setCell ⟨b, 1, none⟩ x1).heap[b]? = some (.cells #[x0, x1] t (0, 0)) := by
  have e := heap_setCell_same _ b 1 _ _ x1 (heap_setCell_same _ b 0 _ _ x0 h)
  simp only [List.setIfInBounds_toArray, List.set_cons_zero, List.set_cons_succ] at e
  exact e
theorem EnO.own {w : World} {B b o : Nat} {v : Value} {E : List En} (h : EnO w B v E) (hb : b < B) (u : Value) : EnO (w.setCell ⟨b, o, none⟩ u) B v E := by
  obtain ⟨g, cap, cur, t, rfl, h0, hg, h1, h2, h3⟩ := h
  refine ⟨g, cap, cur, t, rfl, h0, (heap_setCell_other _ _ _ _ (by show g ≠ b; omega)).trans hg, h1, h2, fun i hi => ?_⟩
  obtain ⟨c, u', q1, q2, hc, ho⟩ := h3 i hi
  exact ⟨c, u', q1, q2, hc, ho.same (heap_setCell_other _ _ _ _ (by show c ≠ b; omega))⟩
theorem EnO.cell01 {w : World} {B : Nat} {E : List En} {g n cap : Nat} (h : EnO w B (.slice (some ⟨g, 0, none⟩) n cap) E) {k : Nat} (hk : k < E.length) : w.cell? ⟨g, k * 9, none⟩ = some (.int .i64 (E.getD k en0).id.1) ∧ w.cell? ⟨g, k * 9 + 1, none⟩ = some (.int .i64 (E.getD k en0).id.2) ∧ g < w.heap.size := by
  obtain ⟨g', cap', cur, t, e, h0, hg, h1, h2, h3⟩ := h
  injection e with e1 e2 e3; injection e1 with e1; injection e1 with e1
  subst e1
  obtain ⟨_, _, _, _, hc, _⟩ := h3 k hk
  exact ⟨(cell_of_cells hg).trans (hc 0 (by omega)), (cell_of_cells hg).trans (hc 1 (by omega)), lt_of_heap hg⟩
theorem inR_small {x y : Int} (h1 : -100 ≤ x) (h2 : x ≤ 100) (h3 : -100 ≤ y) (h4 : y ≤ 100) : inR (x, y) := ⟨WalkArith.wf_i64 (by dsimp only; omega), WalkArith.wf_i64 (by dsimp only; omega)⟩

/-- What l91In leaves. -/
def DinP (r n : Nat) (w : World) (e : Ending) (w' : World) : Prop :=
  ∃ v E x y, e = .returned (.tuple #[v, .agg #[.int .i64 x, .int .i64 y]]) ∧ EnO w' (w.heap.size + 1) v E ∧ E.length ≤ 12 ∧ inR (x, y) ∧ Rd w' r (n + 800) ∧ Keep w.heap.size r w w'

set_option maxRecDepth 100000 in
set_option maxHeartbeats 4000000 in
theorem din_any (r n : Nat) (w : World) (hrd : Rd w r n) (hn : n ≤ 500000000) :
    Calls Tryd.prog 26 #[.pointer (some ⟨r, 0, none⟩)] w (DinP r n w) := by
  have hrl := hrd.lt
  have A := Lib.hid (heap_alloc_new w (.cells #[.int .i64 0, .int .i64 0] 25))
  have K := Lib.hid ((Keep.refl w.heap.size r w).alloc (Nat.le_refl _) (.cells #[.int .i64 0, .int .i64 0] 25))
  have R := Lib.hid (hrd.alloc (.cells #[.int .i64 0, .int .i64 0] 25))
  clear hrd
  go_enter Tryd.func26, Tryd.ntmps26
  go_wp2_with fail
  refine (dlog_any r n _ R.out (by omega)).mono ?_
  rintro e w1 ⟨v, E, rfl, O, hl, hok, hr', hk'⟩
  rw [show (w.alloc (.cells #[.int .i64 0, .int .i64 0] 25)).heap.size = w.heap.size + 1 by simp] at O hk'
  have hal := lt_of_heap A.out
  replace A := Lib.hid ((hk'.block w.heap.size (by omega) (by omega)).trans A.out)
  replace K := Lib.hid (K.out.trans (hk'.mono (Nat.le_succ _)))
  replace R := Lib.hid hr'
  obtain ⟨g, cap, hv⟩ := O.len
  subst hv
  have O := Lib.hid O
  have hok := Lib.hid hok
  have hgl := (show g < w1.heap.size from by obtain ⟨g', _, _, _, e, _, hg, _⟩ := O.out; injection e with e1; injection e1 with e1; injection e1 with e1; subst e1; exact lt_of_heap hg)
  obtain ⟨ln, hln⟩ : ∃ x, Hid (E.length = x) := ⟨_, Lib.hid rfl⟩
  rw [hln.out] at O hl ⊢
  clear hr' hk' hal
  by_cases h0 : ln = 0
  · subst h0
    go_wp2_with fail
    refine (idd_any r _ _ R.out (by omega)).mono ?_
    rintro e w2 ⟨x, y, rfl, hx, hy, hr', hk'⟩
    have hs := K.out.size
    replace O := Lib.hid (O.out.keep hk' (by omega))
    replace A := Lib.hid ((hk'.block w.heap.size (lt_of_heap A.out) (by omega)).trans A.out)
    replace K := Lib.hid (K.out.trans (hk'.mono hs))
    replace R := Lib.hid hr'
    obtain ⟨a0, a1, f0, f1⟩ := blk2 A.out
    have hal := lt_of_heap A.out
    clear hk' hr'
    go_wp2_with fail
    refine bodyPost_ret (in_resI _ _ _ _ _ _ _ rfl rfl (put2_at _ _ A.out)) rfl ⟨_, E, x, y, rfl, (O.out.own (by omega) _).own (by omega) _, by rw [hln.out]; exact hl, inR_small (by omega) (by omega) (by omega) (by omega), ((R.out.setCell (p := ⟨w.heap.size, 0, none⟩) hrl _).setCell (p := ⟨w.heap.size, 1, none⟩) hrl _).more (by omega), (K.out.setCell (p := ⟨w.heap.size, 0, none⟩) (Nat.le_refl _) _).setCell (p := ⟨w.heap.size, 1, none⟩) (Nat.le_refl _) _⟩
  · have h0' : 0 < ln := by omega
    have h0b : ((ln : Int) == 0) = false := by simp [h0]
    go_wp2_with fail
    refine (pick_any 5 r _ _ R.out (by omega)).mono ?_
    rintro e w2 ⟨z, rfl, z0, z1', hr', hk'⟩
    have hs := K.out.size
    replace O := Lib.hid (O.out.keep hk' (by omega))
    replace A := Lib.hid ((hk'.block w.heap.size (lt_of_heap A.out) (by omega)).trans A.out)
    replace K := Lib.hid (K.out.trans (hk'.mono hs))
    replace R := Lib.hid hr'
    clear hk' hr' hs z1'
    by_cases hz : z = 0
    · subst hz
      go_wp2_with fail
      refine (idd_any r _ _ R.out (by omega)).mono ?_
      rintro e w3 ⟨x, y, rfl, hx, hy, hr', hk'⟩
      have hs := K.out.size
      replace O := Lib.hid (O.out.keep hk' (by omega))
      replace A := Lib.hid ((hk'.block w.heap.size (lt_of_heap A.out) (by omega)).trans A.out)
      replace K := Lib.hid (K.out.trans (hk'.mono hs))
      replace R := Lib.hid hr'
      obtain ⟨a0, a1, f0, f1⟩ := blk2 A.out
      have hal := lt_of_heap A.out
      clear hk' hr'
      go_wp2_with fail
      refine bodyPost_ret (in_resI _ _ _ _ _ _ _ rfl rfl (put2_at _ _ A.out)) rfl ⟨_, E, x, y, rfl, (O.out.own (by omega) _).own (by omega) _, by rw [hln.out]; exact hl, inR_small (by omega) (by omega) (by omega) (by omega), ((R.out.setCell (p := ⟨w.heap.size, 0, none⟩) hrl _).setCell (p := ⟨w.heap.size, 1, none⟩) hrl _).more (by omega), (K.out.setCell (p := ⟨w.heap.size, 0, none⟩) (Nat.le_refl _) _).setCell (p := ⟨w.heap.size, 1, none⟩) (Nat.le_refl _) _⟩
    · have hzb : (z == 0) = false := by simpa using hz
      obtain ⟨a0, a1, f0, f1⟩ := blk2 A.out
      have hal := lt_of_heap A.out
      go_wp2_with fail
      go_region_with (go_at_call 45; (with_reducible refine (pick_any _ r _ _ (R.out.kept (Below.drew (Below.refl _ _))) (by omega)).mono ?_); rintro e w3 ⟨j, rfl, j0, j1', hr', hk'⟩; have j1 := j1' (by omega); have hs := K.out.size; have O3 := Lib.hid ((O.out.up (Below.drew (Below.refl _ _))).keep hk' (by omega)); have A3 := Lib.hid ((hk'.block w.heap.size hal (by omega)).trans (show _ = _ from A.out)); have K3 := Lib.hid (Keep.trans (Keep.trans K.out (Keep.of_below (Below.drew (Below.refl _ _)))) (hk'.mono hs)); have R3 := Lib.hid hr'; obtain ⟨j, rfl⟩ := Int.eq_ofNat_of_zero_le j0; obtain ⟨q0, q1, qb⟩ := O3.out.cell01 (k := j) (by rw [hln.out]; omega); obtain ⟨b0, b1, e0, e1⟩ := blk2 A3.out; have hal3 := lt_of_heap A3.out; clear hk' hr' j1' a0 a1 f0 f1)
      all_goals
        have hokj := hok.out j (by rw [hln.out]; omega)
        have hin := inR_ok hokj
        go_wp2_with fail
        refine bodyPost_ret (in_resI _ _ _ _ _ _ _ rfl rfl (put2_at _ _ A3.out)) rfl ⟨_, E, _, _, rfl, (O3.out.own (by omega) _).own (by omega) _, by rw [hln.out]; exact hl, hin, ((R3.out.setCell (p := ⟨w.heap.size, 0, none⟩) hrl _).setCell (p := ⟨w.heap.size, 1, none⟩) hrl _).more (by omega), (K3.out.setCell (p := ⟨w.heap.size, 0, none⟩) (Nat.le_refl _) _).setCell (p := ⟨w.heap.size, 1, none⟩) (Nat.le_refl _) _⟩
end Go.Proofs.YtpckhghcjedblaaDoor

/- DrawLogAttrs. -/
namespace Go.Proofs.YtpckhghcjedblaaDoor
open Go.RowKit
set_option linter.unusedVariables false

/-- What DrawLogAttrs leaves. -/
def DlaP (w : World) (e : Ending) (w' : World) : Prop :=
  ∃ v E x y k key c, e = .returned (.tuple #[v, .agg #[.int .i64 x, .int .i64 y], .agg #[.int .i64 k, .int .i64 key, .int .i64 c]]) ∧ EnO w' w.heap.size v E ∧ E.length ≤ 12 ∧ inR (x, y) ∧ Below w.heap.size w w'

theorem dla_step {w W w3 : World} {r C B : Nat} {x y : Int} {v : Value} {E : List En} (hA : W.heap[w.heap.size]? = some (.cells #[.int .i64 0, .int .i64 0] 25 (0, 0))) (hB : W.heap[w.heap.size + 1]? = some (.cells #[.int .i64 0, .int .i64 0, .int .i64 0] 27 (0, 0)))
    (hC : W.heap[C]? = some (.cells #[.int .i64 x, .int .i64 y] 25 (0, 0))) (hr0 : w.heap.size + 2 ≤ r) (hrC : r < C) (hrB : r < B) (O : EnO W B v E) (D : Below w.heap.size w W) (hk : Keep W.drew.heap.size r W.drew w3) :
    w3.heap[w.heap.size]? = some (.cells #[.int .i64 0, .int .i64 0] 25 (0, 0)) ∧ w3.heap[w.heap.size + 1]? = some (.cells #[.int .i64 0, .int .i64 0, .int .i64 0] 27 (0, 0)) ∧ w3.heap[C]? = some (.cells #[.int .i64 x, .int .i64 y] 25 (0, 0)) ∧ Hid (EnO w3 B v E) ∧ Hid (Below w.heap.size w w3) := by
  have lC := lt_of_heap hC
  have O' : EnO W.drew B v E := O.up (Below.drew (Below.refl _ _))
  exact ⟨(hk.block _ (show w.heap.size < W.heap.size by omega) (by omega)).trans hA, (hk.block _ (show w.heap.size + 1 < W.heap.size by omega) (by omega)).trans hB, (hk.block _ lC (by omega)).trans hC, Lib.hid (O'.keep hk hrB), Lib.hid (D.drew.trans ((hk.mono (show w.heap.size ≤ W.heap.size by omega)).below (by omega)))⟩

set_option maxRecDepth 100000 in
set_option maxHeartbeats 4000000 in
theorem dla_any (a : Option Addr) (len cap : Nat) (w : World) (hc : CodeIn w a len cap) (hcap : cap ≤ maxLen) :
    Calls Tryd.prog 8 #[.slice a len cap] w (DlaP w) := by
  have al := ((Below.refl w.heap.size w).alloc (Nat.le_refl _) (.cells #[.int .i64 0, .int .i64 0] 25)).alloc (by simp) (.cells #[.int .i64 0, .int .i64 0, .int .i64 0] 27)
  have hc := Lib.hid (hc.up al)
  have al := Lib.hid al
  have A := Lib.hid ((Below.heap_alloc _ (.cells #[.int .i64 0, .int .i64 0, .int .i64 0] 27) _ (by simp)).trans (heap_alloc_new w (.cells #[.int .i64 0, .int .i64 0] 25)))
  have Bc := Lib.hid (heap_alloc_at (w.alloc (.cells #[.int .i64 0, .int .i64 0] 25)) (.cells #[.int .i64 0, .int .i64 0, .int .i64 0] 27) (w.heap.size + 1) (by simp))
  go_enter Tryd.func8, Tryd.ntmps8
  go_wp2_with fail
  refine (open_any a len cap _ hc.out hcap).mono ?_
  rintro e w1 ⟨r, rfl, hr0, hr', hb'⟩
  have s1 : w.heap.size + 2 ≤ w1.heap.size := by simpa using hb'.size
  have hr0' : w.heap.size + 2 ≤ r := by simpa using hr0
  replace A := Lib.hid ((hb'.block w.heap.size (by simp; omega)).trans A.out)
  replace Bc := Lib.hid ((hb'.block (w.heap.size + 1) (by simp)).trans Bc.out)
  have D1 : Hid (Below w.heap.size w w1) := Lib.hid (al.out.trans (hb'.mono (by simp; omega)))
  have hr1 := Lib.hid hr'
  have hrl := hr'.lt
  clear hr' hb' hc al hr0
  go_wp2_with fail
  refine (din_any r 0 _ hr1.out (by omega)).mono ?_
  rintro e w2 ⟨v, E, x, y, rfl, O, hl, ha, hr2, hk⟩
  have s2 := hk.size
  have D2 := D1.out.trans ((hk.mono (show w.heap.size ≤ w1.heap.size by omega)).below (by omega))
  obtain ⟨W, hW⟩ : ∃ W, W = w2.alloc (.cells #[.int .i64 x, .int .i64 y] 25) := ⟨_, rfl⟩
  have BA : Below w2.heap.size w2 W := by subst hW; exact (Below.refl _ _).alloc (Nat.le_refl _) _
  have sW : W.heap.size = w2.heap.size + 1 := by subst hW; simp
  have PA := Lib.hid ((BA.block _ (by omega)).trans ((hk.block w.heap.size (by omega) (by omega)).trans A.out))
  have PB := Lib.hid ((BA.block _ (by omega)).trans ((hk.block (w.heap.size + 1) (by omega) (by omega)).trans Bc.out))
  have PC : Hid (W.heap[w2.heap.size]? = some (.cells #[.int .i64 x, .int .i64 y] 25 (0, 0))) := Lib.hid (by subst hW; exact heap_alloc_new w2 _)
  have D3 := Lib.hid (D2.trans (BA.mono (show w.heap.size ≤ w2.heap.size by omega)))
  have O3 := Lib.hid (O.up BA)
  have hr3 : Hid (Rd W r 800) := Lib.hid (by subst hW; exact hr2.alloc _)
  have ha := Lib.hid ha
  clear hk A Bc D1 D2 hr1 hr2 BA O
  go_upto_region 3 with fail
  rw [← hW]
  obtain ⟨c0, c1, _, _⟩ := blk2 PC.out
  have hrC : r < w2.heap.size := by omega
  have hrB : r < w1.heap.size + 1 := by omega
  clear hW
  go_region_with (go_at_call 27; (with_reducible refine (cmd_any r 800 _ (hr3.out.kept (Below.drew (Below.refl _ _))) (by omega)).mono ?_); rintro e w3 ⟨k, key, c, rfl, _, _, _, _, hk3⟩; obtain ⟨A3, B3, C3, O4, D4⟩ := dla_step PA.out PB.out PC.out hr0' hrC hrB O3.out D3.out hk3; obtain ⟨a0, a1, f0, f1⟩ := blk2 A3; obtain ⟨b0, b1, b2, g0, g1, g2⟩ := blk3 B3; obtain ⟨c0, c1, _, _⟩ := blk2 C3; have hal := lt_of_heap A3; have hbl := lt_of_heap B3; clear hk3 PA PB PC D3 O3 hr3 A3 B3 C3)
  all_goals
    go_wp2_with fail
    exact bodyPost_ret (v := .tuple #[v, .agg #[.int .i64 x, .int .i64 y], .agg #[.int .i64 k, .int .i64 key, .int .i64 c]]) (by simp [results, Tryd.results8, go_sem, a0, a1, b0, b1, b2]) rfl ⟨v, E, x, y, k, key, c, rfl, by have X := O4.out; clear O4; refine EnO.wide (B := w1.heap.size + 1) ?_ (by omega); repeat (first | with_reducible exact X | with_reducible refine EnO.own ?_ (by first | omega | (simp; omega)) _), hl, ha.out, by have X := D4.out; clear D4; repeat (first | with_reducible exact X | with_reducible refine Below.drew ?_ | with_reducible refine Below.setCell ?_ (by first | (simp; done) | (simp; omega)) _ | with_reducible refine Below.alloc ?_ (by simp; omega) _)⟩
end Go.Proofs.YtpckhghcjedblaaDoor

/- What LogAttrs' laws rest on. -/
namespace Go.Proofs.YtpckhghcjedblaaDoor
open Go.RowKit
set_option linter.unusedVariables false

theorem latt_true {E : List En} {a : Pid} {k key v t : Int} {S : List Pid} (h : lattR E a k key v = (t, S, true)) : logB E = true ∧ okP a = true ∧ cvB k key v = true ∧ topE (clsE E a k key) + 1 ≤ 99 ∧ t = topE (clsE E a k key) + 1 ∧ S = idsE (clsE E a k key) := by
  unfold lattR at h
  split at h
  · rename_i h1
    injection h with e1 h
    injection h with e2 _
    exact ⟨h1.1, h1.2.1, h1.2.2.1, h1.2.2.2, e1.symm, e2.symm⟩
  · injection h with _ h
    injection h with _ h
    cases h
theorem latt_good {E : List En} {a : Pid} {k key v : Int} (h1 : logB E = true) (h2 : okP a = true) (h3 : cvB k key v = true) (h4 : topE (clsE E a k key) + 1 ≤ 99) : lattR E a k key v = (topE (clsE E a k key) + 1, idsE (clsE E a k key), true) := lattR_good h1 h2 h3 h4
theorem cls_has {E : List En} (hv : logB E = true) {j : Nat} (hj : j < E.length) (a : Pid) (k key : Int) : hasP (idsE (clsE E a k key)) (E.getD j en0).id = clsF a k key (E.getD j en0) := by
  rw [Bool.eq_iff_iff]
  unfold hasP
  rw [decide_eq_true_iff]
  constructor
  · intro h
    obtain ⟨z, hz, e⟩ := List.mem_map.1 h
    obtain ⟨h1, h2⟩ := List.mem_filter.1 hz
    obtain ⟨i, hi, rfl⟩ := mem_enD h1
    obtain rfl := log_inj hv hi hj e
    exact h2
  · intro h
    exact List.mem_map.2 ⟨_, List.mem_filter.2 ⟨enD_mem hj, h⟩, rfl⟩
/-- What does nothing clashes with nothing. -/
theorem cls_none (E : List En) (a : Pid) : clsE E a 3 0 = [] := by
  unfold clsE
  rw [List.filter_eq_nil_iff]
  intro z _
  rw [← kc2 (k := z.k) (key := z.key) (key' := 0) (rfl : (3 : Int) = 3)]
  simp
theorem latt_none {E : List En} {a : Pid} (h1 : logB E = true) (h2 : okP a = true) : lattR E a 3 0 0 = (1, [], true) := by
  have := lattR_good (E := E) (a := a) (k := 3) (key := 0) (v := 0) h1 h2 (by decide) (by rw [cls_none]; decide)
  rw [this, cls_none]; rfl
end Go.Proofs.YtpckhghcjedblaaDoor

/- The walk of FnAttrsNone. -/
namespace Go.Proofs.YtpckhghcjedblaaDoor
open Go.RowKit
set_option linter.unusedVariables false

set_option maxRecDepth 100000 in
set_option maxHeartbeats 16000000 in
theorem fnAttrsNone_walk (a : Option Addr) (len cap : Nat) (w : World) (hc : CodeIn w a len cap) (hcap : cap ≤ maxLen) (hT : TabIn w) :
    Calls Tryd.prog 6 #[.slice a len cap] w fun e w' => e = .returned (.bool true) ∧ Below w.heap.size w w' := by
  have hm : cap ≤ 9223372036854775807 := by simpa [maxLen] using hcap
  have hlc := hc.1
  by_cases hl : 1048576 < len
  · clear hcap hc hT
    go_enter Tryd.func6, Tryd.ntmps6
    go_wp2_with fail
    go_ret
    exact ⟨rfl, Below.refl _ _⟩
  · have dl := dla_any a len cap w hc hcap
    clear hc hcap
    go_enter Tryd.func6, Tryd.ntmps6
    go_wp2_with fail
    refine dl.mono ?_
    rintro e w1 ⟨v, E, x, y, k, key, c, rfl, O, hE12, ha, B⟩
    have N1 := O.read
    obtain ⟨va, vc, hv⟩ : ∃ a cap, v = .slice a E.length cap := by obtain ⟨a, c, e, _⟩ := N1; exact ⟨a, c, e⟩
    subst hv
    have BA := ((Below.refl w1.heap.size w1).alloc (Nat.le_refl _) (.cells #[.int .i64 x, .int .i64 y] 25)).alloc (by simp) (.cells #[.int .i64 k, .int .i64 key, .int .i64 c] 27)
    have A1 : (((w1.alloc (.cells #[.int .i64 x, .int .i64 y] 25)).alloc (.cells #[.int .i64 k, .int .i64 key, .int .i64 c] 27))).heap[w1.heap.size]? = some (.cells #[.int .i64 x, .int .i64 y] 25 (0, 0)) := (Below.heap_alloc _ _ _ (by simp)).trans (heap_alloc_new w1 _)
    have C1 : (((w1.alloc (.cells #[.int .i64 x, .int .i64 y] 25)).alloc (.cells #[.int .i64 k, .int .i64 key, .int .i64 c] 27))).heap[w1.heap.size + 1]? = some (.cells #[.int .i64 k, .int .i64 key, .int .i64 c] 27 (0, 0)) := heap_alloc_at _ _ _ (by simp)
    have D1 := Lib.hid (bstep B BA)
    have T1 := Lib.hid (TabIn.up (TabIn.up hT B (Nat.le_refl _)) BA (Nat.le_refl _))
    have N1 := Lib.hid (N1.up BA (Nat.le_refl _))
    have A1 := Lib.hid A1
    have C1 := Lib.hid C1
    clear B BA O dl hT
    go_upto_region 4 with fail
    obtain ⟨ib, hib⟩ : ∃ c, Hid (w1.heap.size = c) := ⟨_, Lib.hid rfl⟩
    rw [hib.out] at A1 C1 ⊢
    generalize (w1.alloc (.cells #[.int .i64 x, .int .i64 y] 25)).alloc (.cells #[.int .i64 k, .int .i64 key, .int .i64 c] 27) = W1 at A1 C1 D1 T1 N1 ⊢
    clear hib
    have il := ilatt_any (.slice va E.length vc) E x y k key c W1 T1.out N1.out
    have sl := fun W (hb : Below W1.heap.size W1 W) => slatt_any (.slice va E.length vc) E x y k key c W (N1.out.up hb (Nat.le_refl _))
    unfold LatP at il sl
    obtain ⟨⟨t, S, q⟩, hR⟩ : ∃ r, Hid (lattR E (x, y) k key c = r) := ⟨_, Lib.hid rfl⟩
    rw [hR.out] at il sl
    dsimp only at il sl
    obtain ⟨a0, a1, _, _⟩ := blk2 A1.out
    obtain ⟨c0, c1, c2, _, _, _⟩ := blk3 C1.out
    have hal := lt_of_heap A1.out
    have hcl := lt_of_heap C1.out
    go_wp2_with fail
    refine il.mono ?_
    rintro e w2 ⟨⟨u2, rfl, b2, hb2, P2⟩, B⟩
    have A2 := Lib.hid (bblk B hal A1.out)
    have C2 := Lib.hid (bblk B hcl C1.out)
    have P2 := Lib.hid P2.read
    have F2 := Lib.hid B
    clear B il a0 a1 c0 c1 c2 hal hcl A1 C1 hb2
    obtain ⟨a0, a1, _, _⟩ := blk2 A2.out
    obtain ⟨c0, c1, c2, _, _, _⟩ := blk3 C2.out
    have hal := lt_of_heap A2.out
    have hcl := lt_of_heap C2.out
    obtain ⟨da, dc, hu⟩ : ∃ a cap, u2 = .slice a S.length cap := by obtain ⟨a, c, e, _⟩ := P2.out; exact ⟨a, c, e⟩
    subst hu
    go_wp2_with fail
    refine (sl _ F2.out).mono ?_
    rintro e w3 ⟨⟨u3, rfl, b3, hb3, P3⟩, B⟩
    have A3 := Lib.hid (bblk B hal A2.out)
    have C3 := Lib.hid (bblk B hcl C2.out)
    have P3 := Lib.hid P3.read
    replace P2 := Lib.hid (P2.out.up B (Nat.le_refl _))
    have F3 := Lib.hid (bstep F2.out B)
    clear B sl a0 a1 c0 c1 c2 hal hcl A2 C2 hb3 F2
    have sg := fun W (hb : Below w3.heap.size w3 W) => sameg_any _ _ S S W (P2.out.up hb (Nat.le_refl _)) (P3.out.up hb (Nat.le_refl _))
    simp only [decide_true] at sg
    cases q
    · go_wp2_with fail
      refine (sg _ (Below.refl _ _)).mono ?_
      rintro e w4 ⟨rfl, B⟩
      have F4 := Lib.hid B
      clear B
      go_wp2_with fail
      refine (sg _ F4.out).mono ?_
      rintro e w5 ⟨rfl, B⟩
      have D := Lib.hid (bstep D1.out (bstep F3.out (bstep F4.out B)))
      clear B
      go_wp2_with fail
      go_ret
      exact ⟨rfl, D.out⟩
    · obtain ⟨hlv, hok, hcv, htop, ht, hS⟩ := latt_true hR.out
      replace hlv := Lib.hid hlv
      replace hok := Lib.hid hok
      replace hcv := Lib.hid hcv
      replace hS := Lib.hid hS
      replace ht := Lib.hid ht
      replace htop := Lib.hid htop
      go_wp2_with fail
      refine (sg _ (Below.refl _ _)).mono ?_
      rintro e w4 ⟨rfl, B⟩
      have A4 := Lib.hid (bblk B (lt_of_heap A3.out) A3.out)
      have C4 := Lib.hid (bblk B (lt_of_heap C3.out) C3.out)
      have P4 := Lib.hid (P2.out.up B (Nat.le_refl _))
      have D4 := Lib.hid (bstep D1.out (bstep F3.out B))
      have N4 := Lib.hid (N1.out.up (bstep F3.out B) (Nat.le_refl _))
      have T4 := Lib.hid (TabIn.up T1.out (bstep F3.out B) (Nat.le_refl _))
      clear B A3 C3 P2 P3 F3 sg D1 N1 T1 hR
      obtain ⟨a0, a1, _, _⟩ := blk2 A4.out
      have hal := lt_of_heap A4.out
      have i3 := ilatt_any (.slice va E.length vc) E x y 3 0 0 w4 T4.out N4.out
      unfold LatP at i3
      rw [latt_none hlv.out hok.out] at i3
      dsimp only at i3
      clear hS ht htop
      go_wp2_with fail
      refine i3.mono ?_
      rintro e w5 ⟨⟨u5, rfl, b5, hb5, P5⟩, B⟩
      obtain ⟨ea, ec, hu⟩ : ∃ a cap, u5 = .slice a 0 cap := by obtain ⟨a, c, e, _⟩ := P5.read; exact ⟨a, c, e⟩
      subst hu
      have D5 := Lib.hid (bstep D4.out B)
      clear B P5 hb5 i3 a0 a1 hal
      go_wp2_with fail
      go_ret
      exact ⟨rfl, D5.out⟩
end Go.Proofs.YtpckhghcjedblaaDoor

/- The walk of FnAttrsSeq. -/
namespace Go.Proofs.YtpckhghcjedblaaDoor
open Go.RowKit
set_option linter.unusedVariables false

set_option maxRecDepth 100000 in
set_option maxHeartbeats 16000000 in
theorem fnAttrsSeq_walk (a : Option Addr) (len cap : Nat) (w : World) (hc : CodeIn w a len cap) (hcap : cap ≤ maxLen) (hT : TabIn w) :
    Calls Tryd.prog 4 #[.slice a len cap] w fun e w' => e = .returned (.bool true) ∧ Below w.heap.size w w' := by
  have hm : cap ≤ 9223372036854775807 := by simpa [maxLen] using hcap
  have hlc := hc.1
  by_cases hl : 1048576 < len
  · clear hcap hc hT
    go_enter Tryd.func4, Tryd.ntmps4
    go_wp2_with fail
    go_ret
    exact ⟨rfl, Below.refl _ _⟩
  · have dl := dla_any a len cap w hc hcap
    clear hc hcap
    go_enter Tryd.func4, Tryd.ntmps4
    go_wp2_with fail
    refine dl.mono ?_
    rintro e w1 ⟨v, E, x, y, k, key, c, rfl, O, hE12, ha, B⟩
    have N1 := O.read
    obtain ⟨va, vc, hv⟩ : ∃ a cap, v = .slice a E.length cap := by obtain ⟨a, c, e, _⟩ := N1; exact ⟨a, c, e⟩
    subst hv
    have BA := ((Below.refl w1.heap.size w1).alloc (Nat.le_refl _) (.cells #[.int .i64 x, .int .i64 y] 25)).alloc (by simp) (.cells #[.int .i64 k, .int .i64 key, .int .i64 c] 27)
    have A1 : (((w1.alloc (.cells #[.int .i64 x, .int .i64 y] 25)).alloc (.cells #[.int .i64 k, .int .i64 key, .int .i64 c] 27))).heap[w1.heap.size]? = some (.cells #[.int .i64 x, .int .i64 y] 25 (0, 0)) := (Below.heap_alloc _ _ _ (by simp)).trans (heap_alloc_new w1 _)
    have C1 : (((w1.alloc (.cells #[.int .i64 x, .int .i64 y] 25)).alloc (.cells #[.int .i64 k, .int .i64 key, .int .i64 c] 27))).heap[w1.heap.size + 1]? = some (.cells #[.int .i64 k, .int .i64 key, .int .i64 c] 27 (0, 0)) := heap_alloc_at _ _ _ (by simp)
    have D1 := Lib.hid (bstep B BA)
    have T1 := Lib.hid (TabIn.up (TabIn.up hT B (Nat.le_refl _)) BA (Nat.le_refl _))
    have N1 := Lib.hid (N1.up BA (Nat.le_refl _))
    have A1 := Lib.hid A1
    have C1 := Lib.hid C1
    clear B BA O dl hT
    go_upto_region 4 with fail
    obtain ⟨ib, hib⟩ : ∃ c, Hid (w1.heap.size = c) := ⟨_, Lib.hid rfl⟩
    rw [hib.out] at A1 C1 ⊢
    generalize (w1.alloc (.cells #[.int .i64 x, .int .i64 y] 25)).alloc (.cells #[.int .i64 k, .int .i64 key, .int .i64 c] 27) = W1 at A1 C1 D1 T1 N1 ⊢
    clear hib
    have il := ilatt_any (.slice va E.length vc) E x y k key c W1 T1.out N1.out
    have sl := fun W (hb : Below W1.heap.size W1 W) => slatt_any (.slice va E.length vc) E x y k key c W (N1.out.up hb (Nat.le_refl _))
    unfold LatP at il sl
    obtain ⟨⟨t, S, q⟩, hR⟩ : ∃ r, Hid (lattR E (x, y) k key c = r) := ⟨_, Lib.hid rfl⟩
    rw [hR.out] at il sl
    dsimp only at il sl
    obtain ⟨a0, a1, _, _⟩ := blk2 A1.out
    obtain ⟨c0, c1, c2, _, _, _⟩ := blk3 C1.out
    have hal := lt_of_heap A1.out
    have hcl := lt_of_heap C1.out
    go_wp2_with fail
    refine il.mono ?_
    rintro e w2 ⟨⟨u2, rfl, b2, hb2, P2⟩, B⟩
    have A2 := Lib.hid (bblk B hal A1.out)
    have C2 := Lib.hid (bblk B hcl C1.out)
    have P2 := Lib.hid P2.read
    have F2 := Lib.hid B
    clear B il a0 a1 c0 c1 c2 hal hcl A1 C1 hb2
    obtain ⟨a0, a1, _, _⟩ := blk2 A2.out
    obtain ⟨c0, c1, c2, _, _, _⟩ := blk3 C2.out
    have hal := lt_of_heap A2.out
    have hcl := lt_of_heap C2.out
    obtain ⟨da, dc, hu⟩ : ∃ a cap, u2 = .slice a S.length cap := by obtain ⟨a, c, e, _⟩ := P2.out; exact ⟨a, c, e⟩
    subst hu
    go_wp2_with fail
    refine (sl _ F2.out).mono ?_
    rintro e w3 ⟨⟨u3, rfl, b3, hb3, P3⟩, B⟩
    have A3 := Lib.hid (bblk B hal A2.out)
    have C3 := Lib.hid (bblk B hcl C2.out)
    have P3 := Lib.hid P3.read
    replace P2 := Lib.hid (P2.out.up B (Nat.le_refl _))
    have F3 := Lib.hid (bstep F2.out B)
    clear B sl a0 a1 c0 c1 c2 hal hcl A2 C2 hb3 F2
    have sg := fun W (hb : Below w3.heap.size w3 W) => sameg_any _ _ S S W (P2.out.up hb (Nat.le_refl _)) (P3.out.up hb (Nat.le_refl _))
    simp only [decide_true] at sg
    cases q
    · go_wp2_with fail
      refine (sg _ (Below.refl _ _)).mono ?_
      rintro e w4 ⟨rfl, B⟩
      have F4 := Lib.hid B
      clear B
      go_wp2_with fail
      refine (sg _ F4.out).mono ?_
      rintro e w5 ⟨rfl, B⟩
      have D := Lib.hid (bstep D1.out (bstep F3.out (bstep F4.out B)))
      clear B
      go_wp2_with fail
      go_ret
      exact ⟨rfl, D.out⟩
    · obtain ⟨hlv, hok, hcv, htop, ht, hS⟩ := latt_true hR.out
      replace hlv := Lib.hid hlv
      replace hok := Lib.hid hok
      replace hcv := Lib.hid hcv
      replace hS := Lib.hid hS
      replace ht := Lib.hid ht
      replace htop := Lib.hid htop
      go_wp2_with fail
      refine (sg _ (Below.refl _ _)).mono ?_
      rintro e w4 ⟨rfl, B⟩
      have A4 := Lib.hid (bblk B (lt_of_heap A3.out) A3.out)
      have C4 := Lib.hid (bblk B (lt_of_heap C3.out) C3.out)
      have P4 := Lib.hid (P2.out.up B (Nat.le_refl _))
      have D4 := Lib.hid (bstep D1.out (bstep F3.out B))
      have N4 := Lib.hid (N1.out.up (bstep F3.out B) (Nat.le_refl _))
      have T4 := Lib.hid (TabIn.up T1.out (bstep F3.out B) (Nat.le_refl _))
      clear B A3 C3 P2 P3 F3 sg D1 N1 T1 hR
      clear T4 A4 C4
      obtain ⟨n, hn⟩ : ∃ n, Hid (E.length = n) := ⟨_, Lib.hid rfl⟩
      have hq := Lib.hid (show ∀ i, i < E.length → clsF (x, y) k key (E.getD i en0) = true → (E.getD i en0).seq < t from fun i hi hf => by
        have h1 := topF_le (v := fun z => z.seq) (enD_mem hi) hf
        have ht := ht.out
        rw [topE_cls] at ht
        omega)
      have hfin := Lib.hid (show t = 1 ∨ ∃ i, i < E.length ∧ clsF (x, y) k key (E.getD i en0) = true ∧ (E.getD i en0).seq + 1 = t from by
        have ht := ht.out
        rw [topE_cls] at ht
        rcases topF_is (f := clsF (x, y) k key) (v := fun z => z.seq) (E := E) with e | ⟨z, e1, e2, e3⟩
        · left; omega
        · obtain ⟨i, hi, rfl⟩ := mem_enD e1
          exact .inr ⟨i, hi, e2, by omega⟩)
      rw [hn.out] at N4 hE12 ⊢
      have E0 := Lib.hid (Below.refl w4.heap.size w4)
      have ht99 : t ≤ 99 := by have := ht.out; have := htop.out; omega
      have htp : 1 ≤ t := by have := top_rank hlv.out (x, y) k key; have := ht.out; omega
      clear ht htop
      go_wp2_with fail
      go_loopw [12, 13] (fun sv i wr => ∃ (j : Nat) (sb : Bool), j ≤ n ∧ i = .int .i64 j ∧ sv = .bool sb ∧ Hid ((t = 1 → sb = true) ∧ ∀ i, i < j → clsF (x, y) k key (E.getD i en0) = true → (E.getD i en0).seq + 1 = t → sb = true) ∧ Hid (Below w4.heap.size w4 wr)) (fun _ i _ => n - (intOf i).toNat)
      case atStart => exact ⟨0, t == 1, Nat.zero_le _, rfl, rfl, Lib.hid ⟨fun h => by simpa using h, fun i hi => absurd hi (Nat.not_lt_zero _)⟩, E0⟩
      case round =>
        clear E0
        obtain ⟨j, sb, hj, rfl, rfl, hI, D⟩ := hrel
        by_cases hlt : j < n
        · have hjE : j < E.length := by rw [hn.out]; exact hlt
          have hhas := cls_has hlv.out hjE (x, y) k key
          rw [← hS.out] at hhas
          have hzc := log_cmd hlv.out hjE
          have hrk := log_rank hlv.out hjE
          obtain ⟨b, off, U, hvb, hA⟩ : ∃ b off U, va = some ⟨b, off, none⟩ ∧ EnsAt w4 b off E U := by
            obtain ⟨a', c', e', h1, h2, h3⟩ := N4.out
            rw [hn.out] at e' h3
            injection e' with e1 e2 e3
            rcases h3 with h3 | ⟨b, off, U, e4, hA⟩
            · omega
            · exact ⟨b, off, U, e1.trans e4, hA⟩
          subst hvb
          obtain ⟨z, hz⟩ : ∃ z, Hid (E.getD j en0 = z) := ⟨_, Lib.hid rfl⟩
          rw [hz.out] at hhas hzc hrk
          have xat : ∀ W, Below w4.heap.size w4 W → EnAt W b (off + j * 9) z (U j) := fun W hb => by
            have := (hA.up hb (Nat.le_refl _)).at_ j hjE
            rw [hz.out] at this; exact this
          obtain ⟨ua, un, uc, hU⟩ : ∃ ua un uc, U j = .slice ua un uc := by obtain ⟨a, c, e, _⟩ := (xat _ (Below.refl _ _)).ids; exact ⟨a, _, c, e⟩
          rw [hU] at xat
          have hbl : ∀ W, Below w4.heap.size w4 W → b < W.heap.size := fun W hb => (hA.up hb (Nat.le_refl _)).lt
          obtain ⟨⟨p, r⟩, bal, st, zk, zkey, zv, s, L⟩ := z
          dsimp only at hhas hzc hrk
          have lh := fun W (hb : Below w4.heap.size w4 W) => lhas_any _ S p r W (P4.out.up hb (Nat.le_refl _))
          rw [hhas] at lh
          clear hA hU hhas hzc
          obtain ⟨q0, q1, q2, q3, q4, q5, q6, q7, q8, _⟩ := xat _ D.out
          have qb := hbl _ D.out
          go_wp2_with fail
          refine (lh _ D.out).mono ?_
          rintro e wy ⟨rfl, B⟩
          have D2 := Lib.hid (bstep D.out B)
          clear B q0 q1 q2 q3 q4 q5 q6 q7 q8 qb lh
          obtain ⟨q0, q1, q2, q3, q4, q5, q6, q7, q8, _⟩ := xat _ D2.out
          have qb := hbl _ D2.out
          cases hF : clsF (x, y) k key ⟨(p, r), bal, st, zk, zkey, zv, s, L⟩ with
          | false =>
            have I2 := Lib.hid (show (t = 1 → sb = true) ∧ ∀ i, i < j + 1 → clsF (x, y) k key (E.getD i en0) = true → (E.getD i en0).seq + 1 = t → sb = true from ⟨hI.out.1, fun i hi hf he => by
              rcases Nat.lt_succ_iff_lt_or_eq.1 hi with h | rfl
              · exact hI.out.2 i h hf he
              · rw [hz.out, hF] at hf; cases hf⟩)
            clear hI hz hq xat hbl
            go_wp2_with fail
            refine ⟨⟨j + 1, sb, by omega, by go_num, rfl, I2, D2⟩, ?_⟩
            simp [intOf]; omega
          | true =>
            have hlt2 : s < t := by have := hq.out j hjE (by rw [hz.out]; exact hF); rw [hz.out] at this; exact this
            have hge : ¬ t ≤ s := by omega
            cases sb
            · by_cases he : s + 1 = t
              · have he' : (s + 1 == t) = true := by simpa using he
                clear hI hz hq xat hbl he
                go_wp2_with fail
                refine ⟨⟨j + 1, true, by omega, by go_num, rfl, Lib.hid ⟨fun _ => rfl, fun _ _ _ _ => rfl⟩, D2⟩, ?_⟩
                simp [intOf]; omega
              · have he' : (s + 1 == t) = false := by simpa using he
                have I2 := Lib.hid (show (t = 1 → false = true) ∧ ∀ i, i < j + 1 → clsF (x, y) k key (E.getD i en0) = true → (E.getD i en0).seq + 1 = t → false = true from ⟨hI.out.1, fun i hi hf he2 => by
                  rcases Nat.lt_succ_iff_lt_or_eq.1 hi with h | rfl
                  · exact hI.out.2 i h hf he2
                  · rw [hz.out] at he2; exact absurd he2 he⟩)
                clear hI hz hq xat hbl
                go_wp2_with fail
                refine ⟨⟨j + 1, false, by omega, by go_num, rfl, I2, D2⟩, ?_⟩
                simp [intOf]; omega
            · clear hI hz hq xat hbl
              go_wp2_with fail
              refine ⟨⟨j + 1, true, by omega, by go_num, rfl, Lib.hid ⟨fun _ => rfl, fun _ _ _ _ => rfl⟩, D2⟩, ?_⟩
              simp [intOf]; omega
        · obtain rfl : j = n := by omega
          obtain rfl : sb = true := by
            rcases hfin.out with h | ⟨i, hi, h1, h2⟩
            · exact hI.out.1 h
            · exact hI.out.2 i (by rw [← hn.out]; exact hi) h1 h2
          have D5 := Lib.hid (bstep D4.out D.out)
          clear hI hfin hq
          go_wp2_with fail
          go_ret
          exact ⟨rfl, D5.out⟩
end Go.Proofs.YtpckhghcjedblaaDoor

/- The walk of FnExactLogAttrs. -/
namespace Go.Proofs.YtpckhghcjedblaaDoor
open Go.RowKit
set_option linter.unusedVariables false

theorem LEs.upa {w w' : World} {B : Nat} {a : Option Addr} {len cap : Nat} (h : LEs w a len cap) (hb : Below B w w') (hB : w.heap.size ≤ B) : LEs w' a len cap := by
  obtain ⟨h1, h2, h3⟩ := h
  refine ⟨h1, h2, ?_⟩
  rcases h3 with h3 | ⟨b, off, rfl, hl, hc⟩
  · exact .inl h3
  · refine .inr ⟨b, off, rfl, Nat.lt_of_lt_of_le hl hb.size, fun i hi => ?_⟩
    obtain ⟨x, ua, un, uc, e0, e1, e2, e3, e4, e5, e6, e7, e8, e9, e10⟩ := hc i hi
    have hcc : ∀ o, w'.cell? ⟨b, o, none⟩ = w.cell? ⟨b, o, none⟩ := fun o => hb.cell (p := ⟨b, o, none⟩) (Nat.lt_of_lt_of_le hl hB)
    exact ⟨x, ua, un, uc, by rw [hcc]; exact e0, by rw [hcc]; exact e1, by rw [hcc]; exact e2, by rw [hcc]; exact e3, by rw [hcc]; exact e4, by rw [hcc]; exact e5, by rw [hcc]; exact e6, by rw [hcc]; exact e7, by rw [hcc]; exact e8, e9, e10.imp id fun ⟨C, hC⟩ => ⟨C, hC.up hb hB⟩⟩
theorem xla_keep {w1 wc w' : World} {ib : Nat} {x y k key c : Int} (hb : Below wc.heap.size wc w') (h : (wc.cell? ⟨ib, 0, none⟩ = some (.int .i64 x) ∧ wc.cell? ⟨ib, 1, none⟩ = some (.int .i64 y) ∧ wc.cell? ⟨ib + 1, 0, none⟩ = some (.int .i64 k) ∧ wc.cell? ⟨ib + 1, 1, none⟩ = some (.int .i64 key) ∧ wc.cell? ⟨ib + 1, 2, none⟩ = some (.int .i64 c)) ∧ Below w1.heap.size w1 wc) : (w'.cell? ⟨ib, 0, none⟩ = some (.int .i64 x) ∧ w'.cell? ⟨ib, 1, none⟩ = some (.int .i64 y) ∧ w'.cell? ⟨ib + 1, 0, none⟩ = some (.int .i64 k) ∧ w'.cell? ⟨ib + 1, 1, none⟩ = some (.int .i64 key) ∧ w'.cell? ⟨ib + 1, 2, none⟩ = some (.int .i64 c)) ∧ Below w1.heap.size w1 w' :=
  ⟨⟨cell_later hb h.1.1, cell_later hb h.1.2.1, cell_later hb h.1.2.2.1, cell_later hb h.1.2.2.2.1, cell_later hb h.1.2.2.2.2⟩, h.2.trans (hb.mono h.2.size)⟩
theorem eno_d {w w' : World} {B : Nat} {v : Value} {E : List En} (h : EnO w B v E) (hb : Below w.drew.heap.size w.drew w') : EnO w' B v E := (h.up (Below.drew (Below.refl _ _))).up hb
theorem own_d {w w' : World} {b : Nat} {v : Value} {C : List Pid} (h : OwnP w b v C) (hb : Below w.drew.heap.size w.drew w') : OwnP w' b v C := h.same (hb.block _ h.lt)
theorem mke_d {w w' : World} {B N g n : Nat} {L : Nat → Nat × Nat × Nat} (h : MkE w B N g n L) (hb : Below w.drew.heap.size w.drew w') : MkE w' B N g n L := (h.up (Below.drew (Below.refl _ _))).up hb
theorem bel_d {w0 w w' : World} (h : Below w0.heap.size w0 w) (hb : Below w.drew.heap.size w.drew w') : Below w0.heap.size w0 w' := bstep h.drew hb
theorem xla_drew {w1 wc : World} {ib : Nat} {x y k key c : Int} (h : (wc.cell? ⟨ib, 0, none⟩ = some (.int .i64 x) ∧ wc.cell? ⟨ib, 1, none⟩ = some (.int .i64 y) ∧ wc.cell? ⟨ib + 1, 0, none⟩ = some (.int .i64 k) ∧ wc.cell? ⟨ib + 1, 1, none⟩ = some (.int .i64 key) ∧ wc.cell? ⟨ib + 1, 2, none⟩ = some (.int .i64 c)) ∧ Below w1.heap.size w1 wc) : (wc.drew.cell? ⟨ib, 0, none⟩ = some (.int .i64 x) ∧ wc.drew.cell? ⟨ib, 1, none⟩ = some (.int .i64 y) ∧ wc.drew.cell? ⟨ib + 1, 0, none⟩ = some (.int .i64 k) ∧ wc.drew.cell? ⟨ib + 1, 1, none⟩ = some (.int .i64 key) ∧ wc.drew.cell? ⟨ib + 1, 2, none⟩ = some (.int .i64 c)) ∧ Below w1.heap.size w1 wc.drew := ⟨h.1, h.2.drew⟩
theorem xla_mark {w1 wc w' : World} {ib B N : Nat} {x y k key c : Int} (hx : Exc (fun b => B ≤ b ∧ b < N) wc w') (hi : ib + 1 < w1.heap.size) (hB : w1.heap.size ≤ B) (h : (wc.cell? ⟨ib, 0, none⟩ = some (.int .i64 x) ∧ wc.cell? ⟨ib, 1, none⟩ = some (.int .i64 y) ∧ wc.cell? ⟨ib + 1, 0, none⟩ = some (.int .i64 k) ∧ wc.cell? ⟨ib + 1, 1, none⟩ = some (.int .i64 key) ∧ wc.cell? ⟨ib + 1, 2, none⟩ = some (.int .i64 c)) ∧ Below w1.heap.size w1 wc) : (w'.cell? ⟨ib, 0, none⟩ = some (.int .i64 x) ∧ w'.cell? ⟨ib, 1, none⟩ = some (.int .i64 y) ∧ w'.cell? ⟨ib + 1, 0, none⟩ = some (.int .i64 k) ∧ w'.cell? ⟨ib + 1, 1, none⟩ = some (.int .i64 key) ∧ w'.cell? ⟨ib + 1, 2, none⟩ = some (.int .i64 c)) ∧ Below w1.heap.size w1 w' := by
  have hs := h.2.size
  have kb : ∀ b, b < w1.heap.size → w'.heap[b]? = wc.heap[b]? := fun b hb => hx.block b (Nat.lt_of_lt_of_le hb hs) (fun e => by omega)
  have kc : ∀ b o, b < w1.heap.size → w'.cell? ⟨b, o, none⟩ = wc.cell? ⟨b, o, none⟩ := fun b o hb => World.cell?_of_block (a := ⟨b, o, none⟩) (kb b hb)
  exact ⟨⟨(kc _ _ (by omega)).trans h.1.1, (kc _ _ (by omega)).trans h.1.2.1, (kc _ _ (by omega)).trans h.1.2.2.1, (kc _ _ (by omega)).trans h.1.2.2.2.1, (kc _ _ (by omega)).trans h.1.2.2.2.2⟩, h.2.trans (hx.to (B := w1.heap.size) hs (fun b e => by omega))⟩
theorem xla_own {w1 wc w' : World} {ib r : Nat} {x y k key c : Int} (hk : Keep wc.heap.size r wc w') (hi : ib + 1 < w1.heap.size) (hr : w1.heap.size ≤ r) (h : (wc.cell? ⟨ib, 0, none⟩ = some (.int .i64 x) ∧ wc.cell? ⟨ib, 1, none⟩ = some (.int .i64 y) ∧ wc.cell? ⟨ib + 1, 0, none⟩ = some (.int .i64 k) ∧ wc.cell? ⟨ib + 1, 1, none⟩ = some (.int .i64 key) ∧ wc.cell? ⟨ib + 1, 2, none⟩ = some (.int .i64 c)) ∧ Below w1.heap.size w1 wc) : (w'.cell? ⟨ib, 0, none⟩ = some (.int .i64 x) ∧ w'.cell? ⟨ib, 1, none⟩ = some (.int .i64 y) ∧ w'.cell? ⟨ib + 1, 0, none⟩ = some (.int .i64 k) ∧ w'.cell? ⟨ib + 1, 1, none⟩ = some (.int .i64 key) ∧ w'.cell? ⟨ib + 1, 2, none⟩ = some (.int .i64 c)) ∧ Below w1.heap.size w1 w' := by
  have hs := h.2.size
  have kc : ∀ b o, b < w1.heap.size → w'.cell? ⟨b, o, none⟩ = wc.cell? ⟨b, o, none⟩ := fun b o hb => World.cell?_of_block (a := ⟨b, o, none⟩) (hk.block b (Nat.lt_of_lt_of_le hb hs) (by omega))
  exact ⟨⟨(kc _ _ (by omega)).trans h.1.1, (kc _ _ (by omega)).trans h.1.2.1, (kc _ _ (by omega)).trans h.1.2.2.1, (kc _ _ (by omega)).trans h.1.2.2.2.1, (kc _ _ (by omega)).trans h.1.2.2.2.2⟩, h.2.trans ((hk.mono hs).below hr)⟩

set_option maxRecDepth 100000 in
set_option maxHeartbeats 16000000 in
theorem exLogAttrs_any (a : Option Addr) (len cap : Nat) (x y k key c : Int) (w : World) (h : LEs w a len cap) (hT : TabIn w) :
    Calls Tryd.prog 7 #[.slice a len cap, .agg #[.int .i64 x, .int .i64 y], .agg #[.int .i64 k, .int .i64 key, .int .i64 c]] w fun e w' => e = .returned (.bool true) ∧ Below w.heap.size w w' := by
  have D0 := ((Below.refl w.heap.size w).alloc (Nat.le_refl _) (.cells #[.int .i64 x, .int .i64 y] 42)).alloc (by simp) (.cells #[.int .i64 k, .int .i64 key, .int .i64 c] 43)
  have sz := szEs_any a len cap _ (h.upa D0 (Nat.le_refl _))
  have A0 := Lib.hid ((Below.heap_alloc _ (.cells #[.int .i64 k, .int .i64 key, .int .i64 c] 43) _ (by simp)).trans (heap_alloc_new w (.cells #[.int .i64 x, .int .i64 y] 42)))
  have C0 := Lib.hid (heap_alloc_at (w.alloc (.cells #[.int .i64 x, .int .i64 y] 42)) (.cells #[.int .i64 k, .int .i64 key, .int .i64 c] 43) (w.heap.size + 1) (by simp))
  have D0 := Lib.hid D0
  have hT := Lib.hid hT
  clear h
  go_enter Tryd.func7, Tryd.ntmps7
  go_wp2_with fail
  refine sz.mono ?_
  rintro e w1 ⟨⟨z, rfl, hz⟩, B⟩
  have D1 := Lib.hid (bstep D0.out B)
  have A1 := bblk B (by simp) A0.out
  have C1 := bblk B (by simp) C0.out
  obtain ⟨a0, a1, _, _⟩ := blk2 A1
  obtain ⟨c0, c1, c2, _, _, _⟩ := blk3 C1
  have hcl := lt_of_heap C1
  rcases hz with rfl | ⟨hz0, E, hEl, hE⟩
  · clear B sz D0 A0 C0 A1 C1
    go_wp2_with fail
    go_ret
    exact ⟨rfl, D1.out⟩
  · have hz1 : ¬ z < 0 := by omega
    have hE := Lib.hid (hE.up B (Nat.le_refl _))
    obtain ⟨⟨t, S, fl⟩, hR⟩ : ∃ r, lattR E (x, y) k key c = r := ⟨_, rfl⟩
    have te := fun W (hb : Below w1.heap.size w1 W) => toEs_any _ E W (hE.out.up hb (Nat.le_refl _))
    have sl := fun u W (H : Ens W u E) => slatt_any u E x y k key c W H
    have il := fun u W (H : Ens W u E) (hT : TabIn W) => ilatt_any u E x y k key c W hT H
    unfold LatP at sl il
    unfold EnsCPost at te
    rw [hR] at sl il
    dsimp only at sl il
    obtain ⟨ib, hib⟩ : ∃ ib, Hid (w.heap.size = ib) := ⟨_, Lib.hid rfl⟩
    rw [hib.out] at a0 a1 c0 c1 c2 hcl ⊢
    have H0 := Lib.hid (show (w1.cell? ⟨ib, 0, none⟩ = some (.int .i64 x) ∧ w1.cell? ⟨ib, 1, none⟩ = some (.int .i64 y) ∧ w1.cell? ⟨ib + 1, 0, none⟩ = some (.int .i64 k) ∧ w1.cell? ⟨ib + 1, 1, none⟩ = some (.int .i64 key) ∧ w1.cell? ⟨ib + 1, 2, none⟩ = some (.int .i64 c)) ∧ Below w1.heap.size w1 w1 from ⟨⟨a0, a1, c0, c1, c2⟩, Below.refl _ _⟩)
    clear B sz D0 A0 C0 A1 C1 hE hR hEl a0 a1 c0 c1 c2
    go_upto_region 5 with fail
    go_region_held3 (fun w' => (w'.cell? ⟨ib, 0, none⟩ = some (.int .i64 x) ∧ w'.cell? ⟨ib, 1, none⟩ = some (.int .i64 y) ∧ w'.cell? ⟨ib + 1, 0, none⟩ = some (.int .i64 k) ∧ w'.cell? ⟨ib + 1, 1, none⟩ = some (.int .i64 key) ∧ w'.cell? ⟨ib + 1, 2, none⟩ = some (.int .i64 c)) ∧ Below w1.heap.size w1 w') (first | exact xla_drew H0.out | exact xla_keep (by assumption) (by assumption))
      (first | (go_at_call 17; (with_reducible refine (te _ (by assumption : (_ ∧ _ ∧ _ ∧ _ ∧ _) ∧ Below w1.heap.size w1 _).2).mono ?_); rintro e w' ⟨u2, rfl, O2, hb⟩; have O2 := Lib.hid O2) | (go_at_call 18; (with_reducible refine (toId_any x y _).mono ?_); rintro e w' ⟨rfl, hb⟩; replace O2 := Lib.hid (by first | exact O2.out.up hb | exact eno_d O2.out hb); skip) | (go_at_call 19; (with_reducible refine (toCmd_any k key c _).mono ?_); rintro e w' ⟨rfl, hb⟩; replace O2 := Lib.hid (by first | exact O2.out.up hb | exact eno_d O2.out hb); skip) | (go_at_call 10; have hz3 := ((by assumption : (_ ∧ _ ∧ _ ∧ _ ∧ _) ∧ Below w1.heap.size w1 _).2).size; (with_reducible refine (sl _ _ O2.out.read).mono ?_); rintro e w' ⟨⟨u3, rfl, b3, hb3, P3⟩, hb⟩; have O2q := O2; clear O2; have P3 := Lib.hid P3))
    rename_i H3
    have H3 := Lib.hid (show (_ ∧ _ ∧ _ ∧ _ ∧ _) ∧ Below w1.heap.size w1 _ from H3)
    clear O2q H0
    go_upto_region 6 with fail
    have hz6 := H3.out.2.size
    have lt3 := P3.out.lt
    go_wp2_with fail
    refine (te _ H3.out.2).mono ?_
    rintro e w6 ⟨u6, rfl, O6, B⟩
    have M6 := Lib.hid O6.mk
    obtain ⟨gx, cx, Lx, rfl, hm1, hm2, hm3⟩ := M6.out
    replace H3 := Lib.hid (xla_keep B H3.out)
    replace P3 := Lib.hid (P3.out.up B lt3)
    have O6 := Lib.hid O6
    obtain ⟨S6, hS6⟩ : ∃ n, Hid (w6.heap.size = n) := ⟨_, Lib.hid rfl⟩
    have hs6 := B.size
    rw [hS6.out] at hm3 hs6
    have hm3 := Lib.hid hm3
    clear B M6
    have G6 := Lib.hid (Below.refl w6.heap.size w6)
    go_upto_region 7 with fail
    go_region_held3 (fun w' => (w'.cell? ⟨ib, 0, none⟩ = some (.int .i64 x) ∧ w'.cell? ⟨ib, 1, none⟩ = some (.int .i64 y) ∧ w'.cell? ⟨ib + 1, 0, none⟩ = some (.int .i64 k) ∧ w'.cell? ⟨ib + 1, 1, none⟩ = some (.int .i64 key) ∧ w'.cell? ⟨ib + 1, 2, none⟩ = some (.int .i64 c)) ∧ Below w1.heap.size w1 w') (first | exact xla_drew H3.out | exact xla_keep (by assumption) (by assumption))
      (first | (go_at_call 18; (with_reducible refine (toId_any x y _).mono ?_); rintro e w' ⟨rfl, hb⟩; replace O6 := Lib.hid (by first | exact O6.out.up hb | exact eno_d O6.out hb); replace P3 := Lib.hid (by first | exact P3.out.up hb P3.out.lt | exact own_d P3.out hb); replace hm3 := Lib.hid (by first | exact hm3.out.up hb | exact mke_d hm3.out hb); replace G6 := Lib.hid (by first | exact bstep G6.out hb | exact bel_d G6.out hb); skip) | (go_at_call 19; (with_reducible refine (toCmd_any k key c _).mono ?_); rintro e w' ⟨rfl, hb⟩; replace O6 := Lib.hid (by first | exact O6.out.up hb | exact eno_d O6.out hb); replace P3 := Lib.hid (by first | exact P3.out.up hb P3.out.lt | exact own_d P3.out hb); replace hm3 := Lib.hid (by first | exact hm3.out.up hb | exact mke_d hm3.out hb); replace G6 := Lib.hid (by first | exact bstep G6.out hb | exact bel_d G6.out hb); skip) | (go_at_call 9; have hz7 := ((by assumption : (_ ∧ _ ∧ _ ∧ _ ∧ _) ∧ Below w1.heap.size w1 _).2).size; have hzz7 := G6.out.size; rw [hS6.out] at hzz7; (with_reducible refine (il _ _ O6.out.read (hT.out.up (D1.out.trans (((by assumption : (_ ∧ _ ∧ _ ∧ _ ∧ _) ∧ Below w1.heap.size w1 _).2).mono D1.out.size)) (Nat.le_refl _))).mono ?_); rintro e w' ⟨⟨u7, rfl, b7, hb7, P7⟩, hb⟩; replace O6 := Lib.hid (by first | exact O6.out.up hb | exact eno_d O6.out hb); replace P3 := Lib.hid (by first | exact P3.out.up hb P3.out.lt | exact own_d P3.out hb); replace hm3 := Lib.hid (by first | exact hm3.out.up hb | exact mke_d hm3.out hb); replace G6 := Lib.hid (by first | exact bstep G6.out hb | exact bel_d G6.out hb); have P7 := Lib.hid P7))
    rename_i H7
    have H7 := Lib.hid (show (_ ∧ _ ∧ _ ∧ _ ∧ _) ∧ Below w1.heap.size w1 _ from H7)
    have g67 : S6 ≤ b7 := Nat.le_trans hzz7 hb7
    have g17 : w1.heap.size ≤ b7 := Nat.le_trans hz7 hb7
    go_wp2_with fail
    refine (eqP_any _ _ S _ P7.out.read P3.out.read).mono ?_
    rintro e w8 ⟨rfl, B⟩
    replace P3 := Lib.hid (P3.out.up B P3.out.lt)
    replace P7 := Lib.hid (P7.out.up B P7.out.lt)
    replace O6 := Lib.hid (O6.out.up B)
    replace hm3 := Lib.hid (hm3.out.up B)
    replace H7 := Lib.hid (xla_keep B H7.out)
    clear B
    go_wp2_with fail
    refine (te _ H7.out.2).mono ?_
    rintro e w9 ⟨u9, rfl, O9, B⟩
    replace P3 := Lib.hid (P3.out.up B P3.out.lt)
    replace P7 := Lib.hid (P7.out.up B P7.out.lt)
    replace O6 := Lib.hid (O6.out.up B)
    replace hm3 := Lib.hid (hm3.out.up B)
    replace H7 := Lib.hid (xla_keep B H7.out)
    have O9 := Lib.hid O9
    clear B
    go_wp2_with fail
    refine (eqEs_any _ _ E _ O6.out.read O9.out.read).mono ?_
    rintro e w10 ⟨rfl, B⟩
    replace P3 := Lib.hid (P3.out.up B P3.out.lt)
    replace P7 := Lib.hid (P7.out.up B P7.out.lt)
    replace hm3 := Lib.hid (hm3.out.up B)
    replace H7 := Lib.hid (xla_keep B H7.out)
    clear B O6 O9
    have mk := markEs_any _ _ gx E.length cx Lx _ hm1 hm3.out
    go_wp2_with fail
    refine mk.mono ?_
    rintro e w11 ⟨zk, rfl, hzk, XX⟩
    have hzk2 : ¬ zk < 0 := by omega
    replace P3 := Lib.hid (P3.out.same (XX.block _ P3.out.lt (by omega)))
    replace P7 := Lib.hid (P7.out.same (XX.block _ P7.out.lt (by omega)))
    replace H7 := Lib.hid (xla_mark XX hcl (by omega) H7.out)
    clear XX mk hm3
    go_wp2_with fail
    refine (eqP_any _ _ S _ P7.out.read P3.out.read).mono ?_
    rintro e w12 ⟨rfl, B⟩
    replace P3 := Lib.hid (P3.out.up B P3.out.lt)
    replace P7 := Lib.hid (P7.out.up B P7.out.lt)
    replace H7 := Lib.hid (xla_keep B H7.out)
    clear B
    have hSl := P7.out.cap_le
    obtain ⟨ns, hns⟩ : ∃ n, Hid (S.length = n) := ⟨_, Lib.hid rfl⟩
    rw [hns.out] at hSl
    go_wp2_with fail
    refine (markP_any b7 _ S 1 _ P7.out (by omega) (by omega)).mono ?_
    rintro e w13 ⟨rfl, M, hM, hMk, OM, hk⟩
    replace P3 := Lib.hid (P3.out.same (hk.block _ P3.out.lt (by omega)))
    replace H7 := Lib.hid (xla_own hk hcl g17 H7.out)
    replace P7 := Lib.hid OM
    have hMk := Lib.hid hMk
    have hM := Lib.hid hM
    clear hk OM
    rw [hns.out]
    go_wp2_with fail
    refine (heldP_any _ 1 M _ hMk.out P7.out.read (by omega) (by omega)).mono ?_
    rw [hM.out, hns.out]
    rintro e w14 ⟨rfl, B⟩
    replace P3 := Lib.hid (P3.out.up B P3.out.lt)
    replace P7 := Lib.hid (P7.out.up B P7.out.lt)
    replace H7 := Lib.hid (xla_keep B H7.out)
    clear B
    go_upto_region 24 with fail
    go_region_held3 (fun w' => (w'.cell? ⟨ib, 0, none⟩ = some (.int .i64 x) ∧ w'.cell? ⟨ib, 1, none⟩ = some (.int .i64 y) ∧ w'.cell? ⟨ib + 1, 0, none⟩ = some (.int .i64 k) ∧ w'.cell? ⟨ib + 1, 1, none⟩ = some (.int .i64 key) ∧ w'.cell? ⟨ib + 1, 2, none⟩ = some (.int .i64 c)) ∧ Below w1.heap.size w1 w') (first | exact xla_drew H7.out | exact xla_keep (by assumption) (by assumption))
      (first | (go_at_call 17; (with_reducible refine (te _ (by assumption : (_ ∧ _ ∧ _ ∧ _ ∧ _) ∧ Below w1.heap.size w1 _).2).mono ?_); rintro e w' ⟨u2, rfl, O2, hb⟩; have O2 := Lib.hid O2; replace P3 := Lib.hid (by first | exact P3.out.up hb P3.out.lt | exact own_d P3.out hb); replace P7 := Lib.hid (by first | exact P7.out.up hb P7.out.lt | exact own_d P7.out hb); skip) | (go_at_call 18; (with_reducible refine (toId_any x y _).mono ?_); rintro e w' ⟨rfl, hb⟩; replace O2 := Lib.hid (by first | exact O2.out.up hb | exact eno_d O2.out hb); replace P3 := Lib.hid (by first | exact P3.out.up hb P3.out.lt | exact own_d P3.out hb); replace P7 := Lib.hid (by first | exact P7.out.up hb P7.out.lt | exact own_d P7.out hb); skip) | (go_at_call 19; (with_reducible refine (toCmd_any k key c _).mono ?_); rintro e w' ⟨rfl, hb⟩; replace O2 := Lib.hid (by first | exact O2.out.up hb | exact eno_d O2.out hb); replace P3 := Lib.hid (by first | exact P3.out.up hb P3.out.lt | exact own_d P3.out hb); replace P7 := Lib.hid (by first | exact P7.out.up hb P7.out.lt | exact own_d P7.out hb); skip) | (go_at_call 9; have hz5 := ((by assumption : (_ ∧ _ ∧ _ ∧ _ ∧ _) ∧ Below w1.heap.size w1 _).2).size; (with_reducible refine (il _ _ O2.out.read (hT.out.up (D1.out.trans (((by assumption : (_ ∧ _ ∧ _ ∧ _ ∧ _) ∧ Below w1.heap.size w1 _).2).mono D1.out.size)) (Nat.le_refl _))).mono ?_); rintro e w' ⟨⟨u5, rfl, b5, hb5, P5⟩, hb⟩; have O2q := O2; clear O2; replace P3 := Lib.hid (by first | exact P3.out.up hb P3.out.lt | exact own_d P3.out hb); replace P7 := Lib.hid (by first | exact P7.out.up hb P7.out.lt | exact own_d P7.out hb); have P5 := Lib.hid P5))
    rename_i H5
    have H5 := Lib.hid (show (_ ∧ _ ∧ _ ∧ _ ∧ _) ∧ Below w1.heap.size w1 _ from H5)
    clear O2q H7
    go_wp2_with fail
    refine (eqP_any _ _ S _ P5.out.read P3.out.read).mono ?_
    rintro e w15 ⟨rfl, B⟩
    replace P7 := Lib.hid (P7.out.up B P7.out.lt)
    replace H5 := Lib.hid (xla_keep B H5.out)
    clear B P3 P5
    go_wp2_with fail
    refine (heldP_any _ 1 M _ hMk.out P7.out.read (by omega) (by omega)).mono ?_
    rw [hM.out, hns.out]
    rintro e w16 ⟨rfl, B⟩
    replace H5 := Lib.hid (xla_keep B H5.out)
    have D9 := Lib.hid (D1.out.trans (H5.out.2.mono D1.out.size))
    clear B P7 H5
    go_wp2_with fail
    go_ret
    exact ⟨rfl, D9.out⟩
end Go.Proofs.YtpckhghcjedblaaDoor
