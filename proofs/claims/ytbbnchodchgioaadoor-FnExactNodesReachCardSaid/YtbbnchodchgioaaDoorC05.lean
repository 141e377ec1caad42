/- Texts laid together. -/
import Derived.Test.YtbbnchodchgioaaDoorC04
import Derived.Test.YtbbnchodchgioaaDoorC01
import Derived.Test.YtbbnchodchgioaaDoorC06
import Derived.Test.YtbbnchodchgioaaDoorC07
import Derived.Deep.RegionHeld3
import Derived.Deep.RegionWith
import Derived.Test.YtbbnchodchgioaaDoorC10
import Derived.Deep.RegionLaw
/- Draws of nodes and an id: l91Of, DrawNodesReach, DrawNodesGroup, DrawNodesReady. -/
namespace Go.Proofs.YtbbnchodchgioaaDoor
open Go.RowKit
set_option linter.unusedVariables false

/-- Another block is turned, twice. -/
theorem NdO.up2 {w : World} {B b : Nat} {v : Value} {N : List Nd} (h : NdO w B v N) (hb : b < B) (x y : Value) : NdO ((w.setCell ⟨b, 0, none⟩ x).setCell ⟨b, 1, none⟩ y) B v N := by
  have oth : ∀ c, B ≤ c → ((w.setCell ⟨b, 0, none⟩ x).setCell ⟨b, 1, none⟩ y).heap[c]? = w.heap[c]? := fun c hc => by
    rw [heap_setCell_other _ _ _ _ (by show c ≠ b; omega), heap_setCell_other _ _ _ _ (by show c ≠ b; omega)]
  obtain ⟨g, cap, cur, t, rfl, h0, hg, h1, h2, h3⟩ := h
  refine ⟨g, cap, cur, t, rfl, h0, (oth g h0).trans hg, h1, h2, fun i hi => ?_⟩
  obtain ⟨c0, c1, c2, b', u, q1, q2, c3, ho⟩ := h3 i hi
  exact ⟨c0, c1, c2, b', u, q1, q2, c3, ho.same (oth b' q1)⟩
theorem NdO.base {w : World} {B B' : Nat} {v : Value} {N : List Nd} (h : NdO w B v N) (hB : B' ≤ B) : NdO w B' v N := by
  obtain ⟨g, cap, cur, t, rfl, h0, hg, h1, h2, h3⟩ := h
  refine ⟨g, cap, cur, t, rfl, Nat.le_trans hB h0, hg, h1, h2, fun i hi => ?_⟩
  obtain ⟨c0, c1, c2, b', u, q1, q2, c3, ho⟩ := h3 i hi
  exact ⟨c0, c1, c2, b', u, Nat.le_trans hB q1, q2, c3, ho⟩
/-- What l91Of leaves. -/
def NofPost (r n : Nat) (w : World) (e : Ending) (w' : World) : Prop :=
  ∃ v N p q, e = .returned (.tuple #[v, .agg #[.int .i64 p, .int .i64 q]]) ∧ NdO w' w.heap.size v N ∧ 0 < N.length ∧ N.length ≤ 8 ∧ Keep w.heap.size r w w'

set_option maxRecDepth 100000 in
set_option maxHeartbeats 4000000 in
theorem nof_any (r n : Nat) (w : World) (hrd : Rd w r n) (hn : n ≤ 700000000) :
    Calls Tryd.prog 39 #[.pointer (some ⟨r, 0, none⟩)] w (NofPost r n w) := by
  have hrl := hrd.lt
  have al := (Below.refl w.heap.size w).alloc (Nat.le_refl _) (.cells #[.int .i64 0, .int .i64 0] 25)
  have hrd := Lib.hid (hrd.alloc (.cells #[.int .i64 0, .int .i64 0] 25))
  go_enter Tryd.func39, Tryd.ntmps39
  go_wp2_with fail
  refine (nodes_any r n _ hrd.out (by omega)).mono ?_
  rintro e w1 ⟨v, N, rfl, hN, hp, hl, hr1, hk1⟩
  have s1 : w.heap.size + 1 ≤ w1.heap.size := by simpa using hk1.size
  have K1 := Lib.hid ((Keep.of_below (r := r) al).trans (hk1.mono (by simp)))
  have A1 := (hk1.block w.heap.size (by simp) (by omega)).trans (heap_alloc_new w _)
  obtain ⟨g, vc, rfl, hg0, hgl, hgc, _, _⟩ := hN.at_
  have hN := Lib.hid hN
  have A1 := Lib.hid A1
  have hr1 := Lib.hid hr1
  clear hk1 al hrd
  obtain ⟨nn, hnn⟩ : ∃ n, Hid (N.length = n) := ⟨_, Lib.hid rfl⟩
  rw [hnn.out] at hp hl hgc hN ⊢
  go_wp2_with fail
  refine (pick_any 8 r _ _ hr1.out (by omega)).mono ?_
  rintro e w2 ⟨x, rfl, x0, x1', hr2, hk2⟩
  have s2 := hk2.size
  have K2 := Lib.hid (K1.out.trans (hk2.mono (by omega)))
  have A2 := Lib.hid ((hk2.block w.heap.size (by omega) (by omega)).trans A1.out)
  have N2 := Lib.hid (hN.out.keep hk2 (by simp; omega))
  have hr2 := Lib.hid hr2
  clear hk2 K1 A1 hN hr1 x1'
  by_cases z0 : x = 0
  · subst z0
    go_wp2_with fail
    refine (idd_any r _ _ hr2.out (by omega)).mono ?_
    rintro e w3 ⟨p, q, rfl, _, _, hr3, hk3⟩
    have s3 := hk3.size
    have A3 := (hk3.block w.heap.size (by omega) (by omega)).trans A2.out
    have N3 := N2.out.keep hk3 (by simp; omega)
    have K3 := K2.out.trans (hk3.mono (by omega))
    obtain ⟨a0, a1, f0, f1⟩ := blk2 A3
    have hl3 := lt_of_heap A3
    have N4 := Lib.hid (N3.read.up (((Below.refl w3.heap.size w3).alloc (Nat.le_refl _) (.cells #[] 25))) (Nat.le_refl _))
    have e1 := heap_setCell_same _ w.heap.size 1 _ _ (.int .i64 q) (heap_setCell_same w3 w.heap.size 0 _ _ (.int .i64 p) A3)
    obtain ⟨b0, b1, _, _⟩ := blk2 (x := .int .i64 p) (y := .int .i64 q) (by simpa using e1)
    have K5 := Lib.hid ((K3.setCell (p := ⟨w.heap.size, 0, none⟩) (Nat.le_refl _) (.int .i64 p)).setCell (p := ⟨w.heap.size, 1, none⟩) (Nat.le_refl _) (.int .i64 q))
    have N5 := Lib.hid ((N3.up2 (b := w.heap.size) (by simp) (.int .i64 p) (.int .i64 q)).base (B' := w.heap.size) (by rw [show (w.alloc (.cells #[.int .i64 0, .int .i64 0] 25)).heap.size = w.heap.size + 1 by simp]; omega))
    clear N4 N3 K3 A3 N2 K2 A2 hr2 hk3 hr3 e1
    go_wp2_with fail
    exact bodyPost_ret (v := .tuple #[.slice (some ⟨g, 0, none⟩) nn vc, .agg #[.int .i64 p, .int .i64 q]]) (by simp [results, Tryd.results39, go_sem, b0, b1]) rfl ⟨_, N, p, q, rfl, N5.out, by rw [hnn.out]; exact hp, by rw [hnn.out]; exact hl, K5.out⟩
  · have z0' : (x == 0) = false := by simpa using z0
    clear z0
    obtain ⟨g', cap', e, _, hgl2, _, hfr, hcs⟩ := N2.out.at_
    injection e with e1 e2 e3
    injection e1 with e1
    injection e1 with e1
    subst e1
    clear e2 e3 hfr
    have zr := Lib.hid (Rd.drewS hr2.out)
    have zn : n + 200 + 1 ≤ 1000000000 := by omega
    clear hcs
    go_wp2_with fail
    go_region_with (go_at_call 64; (with_reducible refine (pick_any nn r _ _ zr.out zn).mono ?_); rintro e w4 ⟨y, rfl, y0, y1', hr4, hk4⟩; have y1 := y1' (by omega); obtain ⟨kk, rfl⟩ := Int.eq_ofNat_of_zero_le y0; have hkk : kk < nn := (by omega); have hk5 : Keep w2.heap.size r w2 w4 := (Keep.refl _ _ _).drewS.trans hk4; have s4 := hk5.size; have N4 := N2.out.keep hk5 (by simp; omega); obtain ⟨g', cap', e, _, hgl4, _, _, hcs⟩ := N4.at_; injection e with e1 e2 e3; injection e1 with e1; injection e1 with e1; subst e1; clear e2 e3; obtain ⟨c0, c1, _, _⟩ := hcs kk (by rw [hnn.out]; exact hkk); generalize (N.getD kk nd0).id.1 = p at c0; generalize (N.getD kk nd0).id.2 = q at c1; have A4 := (hk5.block w.heap.size (by omega) (by omega)).trans A2.out; obtain ⟨a0, a1, f0, f1⟩ := blk2 A4; have hl4 := lt_of_heap A4; have K4 := Lib.hid (K2.out.trans (hk5.mono (by omega))); have A4 := Lib.hid A4; have N4 := Lib.hid N4; clear hk4 hk5 hr4 y1' hcs zr N2 A2 K2 hr2 y0)
    all_goals
      have e1 := heap_setCell_same _ w.heap.size 1 _ _ (.int .i64 q) (heap_setCell_same w4 w.heap.size 0 _ _ (.int .i64 p) A4.out)
      obtain ⟨b0, b1, _, _⟩ := blk2 (x := .int .i64 p) (y := .int .i64 q) (by simpa using e1)
      have K5 := Lib.hid ((K4.out.setCell (p := ⟨w.heap.size, 0, none⟩) (Nat.le_refl _) (.int .i64 p)).setCell (p := ⟨w.heap.size, 1, none⟩) (Nat.le_refl _) (.int .i64 q))
      have N5 := Lib.hid ((N4.out.up2 (b := w.heap.size) (by simp) (.int .i64 p) (.int .i64 q)).base (B' := w.heap.size) (by rw [show (w.alloc (.cells #[.int .i64 0, .int .i64 0] 25)).heap.size = w.heap.size + 1 by simp]; omega))
      clear e1
      try simp only [List.getElem_toArray, List.getElem_cons_succ, List.getElem_cons_zero, Act.put, List.setIfInBounds_toArray, List.set_cons_zero, List.set_cons_succ]
      go_wp2_with fail
      exact bodyPost_ret (v := .tuple #[.slice (some ⟨g, 0, none⟩) nn vc, .agg #[.int .i64 p, .int .i64 q]]) (by simp [results, Tryd.results39, go_sem, b0, b1]) rfl ⟨_, N, p, q, rfl, N5.out, by rw [hnn.out]; exact hp, by rw [hnn.out]; exact hl, K5.out⟩
/-- What a draw of nodes and an id leaves. -/
def DnaP (w : World) (e : Ending) (w' : World) : Prop := ∃ v N p q, e = .returned (.tuple #[v, .agg #[.int .i64 p, .int .i64 q]]) ∧ Nds w' v N ∧ 0 < N.length ∧ N.length ≤ 8 ∧ Below w.heap.size w w'

set_option maxRecDepth 100000 in
set_option maxHeartbeats 2000000 in
theorem dnr_any (a : Option Addr) (len cap : Nat) (w : World) (hc : CodeIn w a len cap) (hcap : cap ≤ maxLen) :
    Calls Tryd.prog 14 #[.slice a len cap] w (DnaP w) := by
  have al := (Below.refl w.heap.size w).alloc (Nat.le_refl _) (.cells #[.int .i64 0, .int .i64 0] 25)
  have hc := Lib.hid (hc.up al)
  have hcap := Lib.hid hcap
  have al := Lib.hid al
  have A0 := Lib.hid (heap_alloc_new w (.cells #[.int .i64 0, .int .i64 0] 25))
  go_enter Tryd.func14, Tryd.ntmps14
  go_wp2_with fail
  refine (open_any a len cap _ hc.out hcap.out).mono ?_
  rintro e w1 ⟨r, rfl, hr0, hr', hb'⟩
  have s1 : w.heap.size + 1 ≤ w1.heap.size := by simpa using hb'.size
  have hr0' : w.heap.size + 1 ≤ r := by simpa using hr0
  have A1 := Lib.hid ((hb'.block w.heap.size (by simp)).trans A0.out)
  have D1 : Hid (Below w.heap.size w w1) := Lib.hid (al.out.trans (hb'.mono (by simp)))
  have hr1 := Lib.hid hr'
  clear hr' hb' hc hcap al A0
  go_wp2_with fail
  refine (nof_any r 0 _ hr1.out (by omega)).mono ?_
  rintro e w2 ⟨v, N, p, q, rfl, hN, hp, hl, hk2⟩
  have A2 := (hk2.block w.heap.size (by omega) (by omega)).trans A1.out
  have D2 : Below w.heap.size w w2 := D1.out.trans ((hk2.mono s1).below hr0' |>.mono (by omega))
  obtain ⟨a0, a1, f0, f1⟩ := blk2 A2
  have hl2 := lt_of_heap A2
  have e1 := heap_setCell_same _ w.heap.size 1 _ _ (.int .i64 q) (heap_setCell_same w2 w.heap.size 0 _ _ (.int .i64 p) A2)
  obtain ⟨b0, b1, _, _⟩ := blk2 (x := .int .i64 p) (y := .int .i64 q) (by simpa using e1)
  have D3 := Lib.hid ((D2.setCell (p := ⟨w.heap.size, 0, none⟩) (Nat.le_refl _) (.int .i64 p)).setCell (p := ⟨w.heap.size, 1, none⟩) (Nat.le_refl _) (.int .i64 q))
  have N3 := Lib.hid (hN.up2 (b := w.heap.size) (by omega) (.int .i64 p) (.int .i64 q)).read
  obtain ⟨g, vc, rfl, _, _, _, _, _⟩ := hN.at_
  clear e1 hN D2 A2 hk2 D1 A1 hr1
  go_wp2_with fail
  exact bodyPost_ret (v := .tuple #[.slice (some ⟨g, 0, none⟩) N.length vc, .agg #[.int .i64 p, .int .i64 q]]) (by simp [results, Tryd.results14, go_sem, b0, b1]) rfl ⟨_, N, p, q, rfl, N3.out, hp, hl, D3.out⟩

set_option maxRecDepth 100000 in
set_option maxHeartbeats 2000000 in
theorem dng_any (a : Option Addr) (len cap : Nat) (w : World) (hc : CodeIn w a len cap) (hcap : cap ≤ maxLen) :
    Calls Tryd.prog 20 #[.slice a len cap] w (DnaP w) := by
  have al := (Below.refl w.heap.size w).alloc (Nat.le_refl _) (.cells #[.int .i64 0, .int .i64 0] 25)
  have hc := Lib.hid (hc.up al)
  have hcap := Lib.hid hcap
  have al := Lib.hid al
  have A0 := Lib.hid (heap_alloc_new w (.cells #[.int .i64 0, .int .i64 0] 25))
  go_enter Tryd.func20, Tryd.ntmps20
  go_wp2_with fail
  refine (open_any a len cap _ hc.out hcap.out).mono ?_
  rintro e w1 ⟨r, rfl, hr0, hr', hb'⟩
  have s1 : w.heap.size + 1 ≤ w1.heap.size := by simpa using hb'.size
  have hr0' : w.heap.size + 1 ≤ r := by simpa using hr0
  have A1 := Lib.hid ((hb'.block w.heap.size (by simp)).trans A0.out)
  have D1 : Hid (Below w.heap.size w w1) := Lib.hid (al.out.trans (hb'.mono (by simp)))
  have hr1 := Lib.hid hr'
  clear hr' hb' hc hcap al A0
  go_wp2_with fail
  refine (nof_any r 0 _ hr1.out (by omega)).mono ?_
  rintro e w2 ⟨v, N, p, q, rfl, hN, hp, hl, hk2⟩
  have A2 := (hk2.block w.heap.size (by omega) (by omega)).trans A1.out
  have D2 : Below w.heap.size w w2 := D1.out.trans ((hk2.mono s1).below hr0' |>.mono (by omega))
  obtain ⟨a0, a1, f0, f1⟩ := blk2 A2
  have hl2 := lt_of_heap A2
  have e1 := heap_setCell_same _ w.heap.size 1 _ _ (.int .i64 q) (heap_setCell_same w2 w.heap.size 0 _ _ (.int .i64 p) A2)
  obtain ⟨b0, b1, _, _⟩ := blk2 (x := .int .i64 p) (y := .int .i64 q) (by simpa using e1)
  have D3 := Lib.hid ((D2.setCell (p := ⟨w.heap.size, 0, none⟩) (Nat.le_refl _) (.int .i64 p)).setCell (p := ⟨w.heap.size, 1, none⟩) (Nat.le_refl _) (.int .i64 q))
  have N3 := Lib.hid (hN.up2 (b := w.heap.size) (by omega) (.int .i64 p) (.int .i64 q)).read
  obtain ⟨g, vc, rfl, _, _, _, _, _⟩ := hN.at_
  clear e1 hN D2 A2 hk2 D1 A1 hr1
  go_wp2_with fail
  exact bodyPost_ret (v := .tuple #[.slice (some ⟨g, 0, none⟩) N.length vc, .agg #[.int .i64 p, .int .i64 q]]) (by simp [results, Tryd.results20, go_sem, b0, b1]) rfl ⟨_, N, p, q, rfl, N3.out, hp, hl, D3.out⟩

set_option maxRecDepth 100000 in
set_option maxHeartbeats 2000000 in
theorem dny_any (a : Option Addr) (len cap : Nat) (w : World) (hc : CodeIn w a len cap) (hcap : cap ≤ maxLen) :
    Calls Tryd.prog 23 #[.slice a len cap] w (DnaP w) := by
  have al := (Below.refl w.heap.size w).alloc (Nat.le_refl _) (.cells #[.int .i64 0, .int .i64 0] 25)
  have hc := Lib.hid (hc.up al)
  have hcap := Lib.hid hcap
  have al := Lib.hid al
  have A0 := Lib.hid (heap_alloc_new w (.cells #[.int .i64 0, .int .i64 0] 25))
  go_enter Tryd.func23, Tryd.ntmps23
  go_wp2_with fail
  refine (open_any a len cap _ hc.out hcap.out).mono ?_
  rintro e w1 ⟨r, rfl, hr0, hr', hb'⟩
  have s1 : w.heap.size + 1 ≤ w1.heap.size := by simpa using hb'.size
  have hr0' : w.heap.size + 1 ≤ r := by simpa using hr0
  have A1 := Lib.hid ((hb'.block w.heap.size (by simp)).trans A0.out)
  have D1 : Hid (Below w.heap.size w w1) := Lib.hid (al.out.trans (hb'.mono (by simp)))
  have hr1 := Lib.hid hr'
  clear hr' hb' hc hcap al A0
  go_wp2_with fail
  refine (nof_any r 0 _ hr1.out (by omega)).mono ?_
  rintro e w2 ⟨v, N, p, q, rfl, hN, hp, hl, hk2⟩
  have A2 := (hk2.block w.heap.size (by omega) (by omega)).trans A1.out
  have D2 : Below w.heap.size w w2 := D1.out.trans ((hk2.mono s1).below hr0' |>.mono (by omega))
  obtain ⟨a0, a1, f0, f1⟩ := blk2 A2
  have hl2 := lt_of_heap A2
  have e1 := heap_setCell_same _ w.heap.size 1 _ _ (.int .i64 q) (heap_setCell_same w2 w.heap.size 0 _ _ (.int .i64 p) A2)
  obtain ⟨b0, b1, _, _⟩ := blk2 (x := .int .i64 p) (y := .int .i64 q) (by simpa using e1)
  have D3 := Lib.hid ((D2.setCell (p := ⟨w.heap.size, 0, none⟩) (Nat.le_refl _) (.int .i64 p)).setCell (p := ⟨w.heap.size, 1, none⟩) (Nat.le_refl _) (.int .i64 q))
  have N3 := Lib.hid (hN.up2 (b := w.heap.size) (by omega) (.int .i64 p) (.int .i64 q)).read
  obtain ⟨g, vc, rfl, _, _, _, _, _⟩ := hN.at_
  clear e1 hN D2 A2 hk2 D1 A1 hr1
  go_wp2_with fail
  exact bodyPost_ret (v := .tuple #[.slice (some ⟨g, 0, none⟩) N.length vc, .agg #[.int .i64 p, .int .i64 q]]) (by simp [results, Tryd.results23, go_sem, b0, b1]) rfl ⟨_, N, p, q, rfl, N3.out, hp, hl, D3.out⟩
end Go.Proofs.YtbbnchodchgioaaDoor

/- slices' insertion sort at nodes. -/
namespace Go.Proofs.YtbbnchodchgioaaDoor
open Go.RowKit
set_option linter.unusedVariables false

theorem ndc_def (N : List Nd) (U : Us) (k : Nat) : ndc N U k = [.int .i64 (N.getD k nd0).id.1, .int .i64 (N.getD k nd0).id.2, .int .i64 (N.getD k nd0).seq, .slice (U k).1 (U k).2.1 (U k).2.2] := rfl

theorem RowN.drew {w : World} {mb : Nat} {N : List Nd} {U : Us} {Q : List Nat} (h : RowN w mb N U Q) : RowN w.drew mb N U Q := h.same rfl
theorem swap_exc {mb : Nat} {w W : World} (h : Exc (fun b => b = mb) w W) (o0 o1 o2 o3 o4 o5 o6 o7 : Nat) (v0 v1 v2 v3 v4 v5 v6 v7 : Value) :
    Exc (fun b => b = mb) w ((((((((W.setCell ⟨mb, o0, none⟩ v0).setCell ⟨mb, o1, none⟩ v1).setCell ⟨mb, o2, none⟩ v2).setCell ⟨mb, o3, none⟩ v3).setCell ⟨mb, o4, none⟩ v4).setCell ⟨mb, o5, none⟩ v5).setCell ⟨mb, o6, none⟩ v6).setCell ⟨mb, o7, none⟩ v7).drew :=
  ((((((((h.set (.inl rfl) _ _).set (.inl rfl) _ _).set (.inl rfl) _ _).set (.inl rfl) _ _).set (.inl rfl) _ _).set (.inl rfl) _ _).set (.inl rfl) _ _).set (.inl rfl) _ _).drew

set_option maxRecDepth 100000 in
set_option maxHeartbeats 4000000 in
theorem nins_at (mb cap : Nat) (N : List Nd) (U : Us) (Q0 : List Nat) (w : World) (hv : nodB N = true) (hQ : ∀ k ∈ Q0, k < N.length) (hnd : Q0.Nodup) (h1 : 1 ≤ Q0.length) (h2 : Q0.length ≤ 12) (hR : RowN w mb N U Q0) :
    Calls Tryd.prog 96 #[.slice (some ⟨mb, 0, none⟩) Q0.length cap, .int .i64 0, .int .i64 Q0.length, .func (.func 74) #[] #[]] w fun e w' =>
      e = .returned (.tuple #[]) ∧ ∃ Q, Srd N Q0 Q Q0.length ∧ RowN w' mb N U Q ∧ Exc (fun b => b = mb) w w' := by
  have hR := Lib.hid hR
  have hQ := Lib.hid hQ
  have hnd := Lib.hid hnd
  have hv := Lib.hid hv
  have hmb := hR.out.lt
  obtain ⟨n, hn⟩ : ∃ n, Hid (Q0.length = n) := ⟨_, Lib.hid rfl⟩
  rw [hn.out] at h1 h2 ⊢
  go_enter Tryd.func96, Tryd.ntmps96
  go_wp2_with fail
  go_loopw [8] (fun i wr => ∃ k : Nat, 1 ≤ k ∧ k ≤ n ∧ i = .int .i64 k ∧ ∃ Q, Hid (Srd N Q0 Q k ∧ RowN wr mb N U Q ∧ Exc (fun b => b = mb) w wr)) (fun i _ => n - (intOf i).toNat)
  case atStart => exact ⟨1, Nat.le_refl _, h1, rfl, Q0, Lib.hid ⟨⟨List.Perm.refl _, by rw [hn.out]; exact h1, fun a b hab hb => by omega⟩, hR.out, Exc.refl _ _⟩⟩
  case round =>
    obtain ⟨k, hk1, hk, rfl, Q, hS⟩ := hrel
    clear hR
    by_cases hlt : k < n
    · have hI := Lib.hid (hS.out.1.ins (by rw [hS.out.1.perm.length_eq, hn.out]; exact hlt))
      have hc : decide ((k : Int) < (n : Int)) = true := by simp; omega
      go_wp2_with fail
      try simp only [hc]
      go_loopw [9] (fun i wr2 => ∃ j : Nat, j ≤ k ∧ i = .int .i64 j ∧ ∃ Q, Hid (Ins N Q0 Q k j ∧ RowN wr2 mb N U Q ∧ Exc (fun b => b = mb) w wr2)) (fun i _ => (intOf i).toNat)
      case atStart => exact ⟨k, Nat.le_refl _, rfl, Q, Lib.hid ⟨hI.out, hS.out.2.1, hS.out.2.2⟩⟩
      case round =>
        clear hI hS
        obtain ⟨j, hjk, rfl, Q, hS⟩ := hrel
        have hln : Q.length = n := by rw [← hn.out]; exact hS.out.1.perm.length_eq
        rcases Nat.eq_zero_or_pos j with hj0 | hj0
        · subst hj0
          have R := Lib.hid (hS.out.1.done (.inl rfl))
          have R2 := Lib.hid hS.out.2
          clear hS hln
          go_upto_region 4 with fail
          refine wp_region_held_drew (S := fun w' => Below wr.heap.size wr w') (by kernel_rfl) (Below.drew (Below.refl _ _)) (fun hHeld => ?_)
          refine wpAnyH_take (i := 0) (oi := ⟨some 18, _, _, _, _, _⟩) (v := ?_) rfl (by kernel_rfl) (by kernel_rfl) (by kernel_rfl) (fun _ _ _ h => h) (Or.inl ⟨by rfl, ?_⟩) (by assumption) ?_
          rotate_left 1
          · intro w hSw; (try dsimp only at hSw); go_simp; try (with_reducible rfl)
          try simp only [Act.put, List.setIfInBounds_toArray, List.set_cons_zero, List.set_cons_succ]
          refine wpAnyH_take (i := 1) (oi := ⟨some 19, _, _, _, _, _⟩) (v := ?_) rfl (by kernel_rfl) (by kernel_rfl) (by kernel_rfl) (fun _ _ _ h => h) (Or.inl ⟨by rfl, ?_⟩) (by assumption) ?_
          rotate_left 1
          · intro w hSw; (try dsimp only at hSw); go_simp; try (with_reducible rfl)
          try simp only [Act.put, List.setIfInBounds_toArray, List.set_cons_zero, List.set_cons_succ]
          refine wpAnyH_take (i := 2) (oi := ⟨some 20, _, _, _, _, _⟩) (v := ?_) rfl (by kernel_rfl) (by kernel_rfl) (by kernel_rfl) (fun _ _ _ h => h) (Or.inl ⟨by rfl, ?_⟩) (by assumption) ?_
          rotate_left 1
          · intro w hSw; (try dsimp only at hSw); go_simp; try (with_reducible rfl)
          try simp only [Act.put, List.setIfInBounds_toArray, List.set_cons_zero, List.set_cons_succ]
          refine wpAnyH_take (i := 3) (oi := ⟨some 21, _, _, _, _, _⟩) (v := ?_) rfl (by kernel_rfl) (by kernel_rfl) (by kernel_rfl) (fun _ _ _ h => h) (Or.inl ⟨by rfl, ?_⟩) (by assumption) ?_
          rotate_left 1
          · intro w hSw; (try dsimp only at hSw); go_simp; try (with_reducible rfl)
          try simp only [Act.put, List.setIfInBounds_toArray, List.set_cons_zero, List.set_cons_succ]
          refine wpAnyH_take (i := 4) (oi := ⟨some 22, _, _, _, _, _⟩) (v := undef) rfl (by kernel_rfl) (by kernel_rfl) (by kernel_rfl) (fun _ _ _ h => h) (Or.inr ⟨by rfl, rfl⟩) (by assumption) ?_
          try simp only [Act.put, List.setIfInBounds_toArray, List.set_cons_zero, List.set_cons_succ]
          refine wpAnyH_take (i := 5) (oi := ⟨some 23, _, _, _, _, _⟩) (v := undef) rfl (by kernel_rfl) (by kernel_rfl) (by kernel_rfl) (fun _ _ _ h => h) (Or.inr ⟨by rfl, rfl⟩) (by assumption) ?_
          try simp only [Act.put, List.setIfInBounds_toArray, List.set_cons_zero, List.set_cons_succ]
          refine wpAnyH_take (i := 6) (oi := ⟨some 24, _, _, _, _, _⟩) (v := undef) rfl (by kernel_rfl) (by kernel_rfl) (by kernel_rfl) (fun _ _ _ h => h) (Or.inr ⟨by rfl, rfl⟩) (by assumption) ?_
          try simp only [Act.put, List.setIfInBounds_toArray, List.set_cons_zero, List.set_cons_succ]
          refine wpAnyH_take (i := 7) (oi := ⟨some 25, _, _, _, _, _⟩) (v := undef) rfl (by kernel_rfl) (by kernel_rfl) (by kernel_rfl) (fun _ _ _ h => h) (Or.inr ⟨by rfl, rfl⟩) (by assumption) ?_
          try simp only [Act.put, List.setIfInBounds_toArray, List.set_cons_zero, List.set_cons_succ]
          refine wpAnyH_take (i := 8) (oi := ⟨some 26, _, _, _, _, _⟩) (v := undef) rfl (by kernel_rfl) (by kernel_rfl) (by kernel_rfl) (fun _ _ _ h => h) (Or.inr ⟨by rfl, rfl⟩) (by assumption) ?_
          try simp only [Act.put, List.setIfInBounds_toArray, List.set_cons_zero, List.set_cons_succ]
          refine wpAnyH_take (i := 9) (oi := ⟨some 27, _, _, _, _, _⟩) (v := undef) rfl (by kernel_rfl) (by kernel_rfl) (by kernel_rfl) (fun _ _ _ h => h) (Or.inr ⟨by rfl, rfl⟩) (by assumption) ?_
          try simp only [Act.put, List.setIfInBounds_toArray, List.set_cons_zero, List.set_cons_succ]
          refine wpAnyH_take (i := 10) (oi := ⟨some 28, _, _, _, _, _⟩) (v := undef) rfl (by kernel_rfl) (by kernel_rfl) (by kernel_rfl) (fun _ _ _ h => h) (Or.inr ⟨by rfl, rfl⟩) (by assumption) ?_
          try simp only [Act.put, List.setIfInBounds_toArray, List.set_cons_zero, List.set_cons_succ]
          refine wpAnyH_take (i := 11) (oi := ⟨some 29, _, _, _, _, _⟩) (v := undef) rfl (by kernel_rfl) (by kernel_rfl) (by kernel_rfl) (fun _ _ _ h => h) (Or.inr ⟨by rfl, rfl⟩) (by assumption) ?_
          try simp only [Act.put, List.setIfInBounds_toArray, List.set_cons_zero, List.set_cons_succ]
          refine wpAnyH_take (i := 12) (oi := ⟨some 30, _, _, _, _, _⟩) (v := undef) rfl (by kernel_rfl) (by kernel_rfl) (by kernel_rfl) (fun _ _ _ h => h) (Or.inr ⟨by rfl, rfl⟩) (by assumption) ?_
          try simp only [Act.put, List.setIfInBounds_toArray, List.set_cons_zero, List.set_cons_succ]
          refine wpAnyH_take (i := 13) (oi := ⟨some 31, _, _, _, _, _⟩) (v := undef) rfl (by kernel_rfl) (by kernel_rfl) (by kernel_rfl) (fun _ _ _ h => h) (Or.inr ⟨by rfl, rfl⟩) (by assumption) ?_
          try simp only [Act.put, List.setIfInBounds_toArray, List.set_cons_zero, List.set_cons_succ]
          refine wpAnyH_take (i := 14) (oi := ⟨some 32, _, _, _, _, _⟩) (v := undef) rfl (by kernel_rfl) (by kernel_rfl) (by kernel_rfl) (fun _ _ _ h => h) (Or.inr ⟨by rfl, rfl⟩) (by assumption) ?_
          try simp only [Act.put, List.setIfInBounds_toArray, List.set_cons_zero, List.set_cons_succ]
          refine wpAnyH_take (i := 15) (oi := ⟨some 33, _, _, _, _, _⟩) (v := undef) rfl (by kernel_rfl) (by kernel_rfl) (by kernel_rfl) (fun _ _ _ h => h) (Or.inr ⟨by rfl, rfl⟩) (by assumption) ?_
          try simp only [Act.put, List.setIfInBounds_toArray, List.set_cons_zero, List.set_cons_succ]
          refine wpAnyH_take (i := 16) (oi := ⟨some 34, _, _, _, _, _⟩) (v := ?_) rfl (by kernel_rfl) (by kernel_rfl) (by kernel_rfl) (fun _ _ _ h => h) (Or.inl ⟨by rfl, ?_⟩) (by assumption) ?_
          rotate_left 1
          · intro w hSw; (try dsimp only at hSw); go_simp; try (with_reducible rfl)
          try simp only [Act.put, List.setIfInBounds_toArray, List.set_cons_zero, List.set_cons_succ]
          refine wpAnyH_done (by kernel_rfl) ?_ _
          try simp only [Act.put, List.setIfInBounds_toArray, List.set_cons_zero, List.set_cons_succ]
          have R3 := Lib.hid (R2.out.1.same (hHeld.block mb R2.out.1.lt))
          have R4 := Lib.hid (R2.out.2.below hHeld)
          clear hHeld R2
          go_wp2_with fail
          go_roundw
          case rel => exact ⟨k + 1, by omega, by omega, by go_num, Q, Lib.hid ⟨R.out, R3.out, R4.out⟩⟩
          case measure => simp [intOf]; omega
        · obtain ⟨jj, rfl⟩ : ∃ jj, j = jj + 1 := ⟨j - 1, by omega⟩
          obtain ⟨a0, a1, a2, a3⟩ := hS.out.2.1.cell (i := jj + 1) (by omega)
          obtain ⟨b0, b1, b2, b3⟩ := hS.out.2.1.cell (i := jj) (by omega)
          have hx := Lib.hid (ndc_def N U (Q.getD (jj + 1) 0))
          have hy := Lib.hid (ndc_def N U (Q.getD jj 0))
          have hso : Hid (soonK N (Q.getD (jj + 1) 0) (Q.getD jj 0) ↔ (N.getD (Q.getD (jj + 1) 0) nd0).seq < (N.getD (Q.getD jj 0) nd0).seq ∨ (N.getD (Q.getD (jj + 1) 0) nd0).seq = (N.getD (Q.getD jj 0) nd0).seq ∧ ltB (N.getD (Q.getD (jj + 1) 0) nd0).id.1 (N.getD (Q.getD (jj + 1) 0) nd0).id.2 (N.getD (Q.getD jj 0) nd0).id.1 (N.getD (Q.getD jj 0) nd0).id.2 = true) := Lib.hid Iff.rfl
          generalize (N.getD (Q.getD (jj + 1) 0) nd0).id.1 = p at a0 hx hso
          generalize (N.getD (Q.getD (jj + 1) 0) nd0).id.2 = r at a1 hx hso
          generalize (N.getD (Q.getD (jj + 1) 0) nd0).seq = s at a2 hx hso
          generalize (U (Q.getD (jj + 1) 0)).1 = ua at a3 hx
          generalize (U (Q.getD (jj + 1) 0)).2.1 = un at a3 hx
          generalize (U (Q.getD (jj + 1) 0)).2.2 = uc at a3 hx
          generalize (N.getD (Q.getD jj 0) nd0).id.1 = p' at b0 hy hso
          generalize (N.getD (Q.getD jj 0) nd0).id.2 = r' at b1 hy hso
          generalize (N.getD (Q.getD jj 0) nd0).seq = s' at b2 hy hso
          generalize (U (Q.getD jj 0)).1 = ua' at b3 hy
          generalize (U (Q.getD jj 0)).2.1 = un' at b3 hy
          generalize (U (Q.getD jj 0)).2.2 = uc' at b3 hy
          have sc := cmpD_any p r s ua un uc p' r' s' ua' un' uc'
          have hz := Lib.hid ((cmpD_neg (s := s) (s' := s') (p := p) (r := r) (p' := p') (r' := r')).trans hso.out.symm)
          obtain ⟨z, ez⟩ : ∃ z, Hid (cmpD s s' p r p' r' = z) := ⟨_, Lib.hid rfl⟩
          rw [ez.out] at sc
          have hz := hz.out
          rw [ez.out] at hz
          have hz := Lib.hid hz
          clear ez hso
          have d3 : IntKind.i64.wrap (jj : Int) = (jj : Int) := IntWalk.i64_in _ (by omega)
          have d2 : IntKind.i64.wrap ((jj : Int) + 1 - 1) = (jj : Int) := by rw [show (jj : Int) + 1 - 1 = jj by omega]; exact d3
          have i0 : (0 : Int) ≤ (jj : Int) := by omega
          have i1 : (jj : Int) < (n : Int) := by omega
          have i2 : (jj : Int) ≤ (n : Int) := by omega
          have e0 : (0 : Int) ≤ (jj : Int) + 1 := by omega
          have e1 : (jj : Int) + 1 < (n : Int) := by omega
          have e2 : (jj : Int) + 1 ≤ (n : Int) := by omega
          have e3 : (0 : Int) < (jj : Int) + 1 := by omega
          have c3 : ((jj : Int) + 1).toNat = jj + 1 := by omega
          by_cases hzz : z < 0
          · have R := Lib.hid (hS.out.1.step (hz.out.1 hzz))
            have R2 := Lib.hid hS.out.2
            clear hz hS
            go_upto_region 4 with fail
            refine wp_region_held_drew (S := fun w' => w'.cell? ⟨mb, (jj + 1) * 4, none⟩ = some (.int .i64 p) ∧ w'.cell? ⟨mb, (jj + 1) * 4 + 1, none⟩ = some (.int .i64 r) ∧ w'.cell? ⟨mb, (jj + 1) * 4 + 2, none⟩ = some (.int .i64 s) ∧ w'.cell? ⟨mb, (jj + 1) * 4 + 3, none⟩ = some (.slice ua un uc) ∧ w'.cell? ⟨mb, jj * 4, none⟩ = some (.int .i64 p') ∧ w'.cell? ⟨mb, jj * 4 + 1, none⟩ = some (.int .i64 r') ∧ w'.cell? ⟨mb, jj * 4 + 2, none⟩ = some (.int .i64 s') ∧ w'.cell? ⟨mb, jj * 4 + 3, none⟩ = some (.slice ua' un' uc') ∧ Below wr.heap.size wr w') (by kernel_rfl) ⟨a0, a1, a2, a3, b0, b1, b2, b3, Below.drew (Below.refl _ _)⟩ (fun hHeld => ?_)
            refine wpAnyH_take (i := 0) (oi := ⟨some 18, _, _, _, _, _⟩) (v := ?_) rfl (by kernel_rfl) (by kernel_rfl) (by kernel_rfl) (fun _ _ _ h => h) (Or.inl ⟨by rfl, ?_⟩) (by assumption) ?_
            rotate_left 1
            · intro w hSw; (try dsimp only at hSw); go_simp; try (with_reducible rfl)
            try simp only [Act.put, List.setIfInBounds_toArray, List.set_cons_zero, List.set_cons_succ]
            refine wpAnyH_take (i := 1) (oi := ⟨some 19, _, _, _, _, _⟩) (v := ?_) rfl (by kernel_rfl) (by kernel_rfl) (by kernel_rfl) (fun _ _ _ h => h) (Or.inl ⟨by rfl, ?_⟩) (by assumption) ?_
            rotate_left 1
            · intro w hSw; (try dsimp only at hSw); go_simp; try (with_reducible rfl)
            try simp only [Act.put, List.setIfInBounds_toArray, List.set_cons_zero, List.set_cons_succ]
            refine wpAnyH_take (i := 2) (oi := ⟨some 20, _, _, _, _, _⟩) (v := ?_) rfl (by kernel_rfl) (by kernel_rfl) (by kernel_rfl) (fun _ _ _ h => h) (Or.inl ⟨by rfl, ?_⟩) (by assumption) ?_
            rotate_left 1
            · intro w hSw; (try dsimp only at hSw); go_simp; try (with_reducible rfl)
            try simp only [Act.put, List.setIfInBounds_toArray, List.set_cons_zero, List.set_cons_succ]
            refine wpAnyH_take (i := 3) (oi := ⟨some 21, _, _, _, _, _⟩) (v := ?_) rfl (by kernel_rfl) (by kernel_rfl) (by kernel_rfl) (fun _ _ _ h => h) (Or.inl ⟨by rfl, ?_⟩) (by assumption) ?_
            rotate_left 1
            · intro w hSw; (try dsimp only at hSw); go_simp; try (with_reducible rfl)
            try simp only [Act.put, List.setIfInBounds_toArray, List.set_cons_zero, List.set_cons_succ]
            refine wpAnyH_take (i := 4) (oi := ⟨some 22, _, _, _, _, _⟩) (v := ?_) rfl (by kernel_rfl) (by kernel_rfl) (by kernel_rfl) (fun _ _ _ h => h) (Or.inl ⟨by rfl, ?_⟩) (by assumption) ?_
            rotate_left 1
            · intro w hSw; (try dsimp only at hSw); go_simp; try (with_reducible rfl)
            try simp only [Act.put, List.setIfInBounds_toArray, List.set_cons_zero, List.set_cons_succ]
            refine wpAnyH_take (i := 5) (oi := ⟨some 23, _, _, _, _, _⟩) (v := ?_) rfl (by kernel_rfl) (by kernel_rfl) (by kernel_rfl) (fun _ _ _ h => h) (Or.inl ⟨by rfl, ?_⟩) (by assumption) ?_
            rotate_left 1
            · intro w hSw; (try dsimp only at hSw); go_simp; try (with_reducible rfl)
            try simp only [Act.put, List.setIfInBounds_toArray, List.set_cons_zero, List.set_cons_succ]
            refine wpAnyH_take (i := 6) (oi := ⟨some 24, _, _, _, _, _⟩) (v := ?_) rfl (by kernel_rfl) (by kernel_rfl) (by kernel_rfl) (fun _ _ _ h => h) (Or.inl ⟨by rfl, ?_⟩) (by assumption) ?_
            rotate_left 1
            · intro w hSw; (try dsimp only at hSw); go_simp; try (with_reducible rfl)
            try simp only [Act.put, List.setIfInBounds_toArray, List.set_cons_zero, List.set_cons_succ]
            refine wpAnyH_take (i := 7) (oi := ⟨some 25, _, _, _, _, _⟩) (v := ?_) rfl (by kernel_rfl) (by kernel_rfl) (by kernel_rfl) (fun _ _ _ h => h) (Or.inl ⟨by rfl, ?_⟩) (by assumption) ?_
            rotate_left 1
            · intro w hSw; (try dsimp only at hSw); go_simp; try (with_reducible rfl)
            try simp only [Act.put, List.setIfInBounds_toArray, List.set_cons_zero, List.set_cons_succ]
            refine wpAnyH_take (i := 8) (oi := ⟨some 26, _, _, _, _, _⟩) (v := ?_) rfl (by kernel_rfl) (by kernel_rfl) (by kernel_rfl) (fun _ _ _ h => h) (Or.inl ⟨by rfl, ?_⟩) (by assumption) ?_
            rotate_left 1
            · intro w hSw; (try dsimp only at hSw); go_simp; try (with_reducible rfl)
            try simp only [Act.put, List.setIfInBounds_toArray, List.set_cons_zero, List.set_cons_succ]
            refine wpAnyH_take (i := 9) (oi := ⟨some 27, _, _, _, _, _⟩) (v := ?_) rfl (by kernel_rfl) (by kernel_rfl) (by kernel_rfl) (fun _ _ _ h => h) (Or.inl ⟨by rfl, ?_⟩) (by assumption) ?_
            rotate_left 1
            · intro w hSw; (try dsimp only at hSw); go_simp; try (with_reducible rfl)
            try simp only [Act.put, List.setIfInBounds_toArray, List.set_cons_zero, List.set_cons_succ]
            refine wpAnyH_take (i := 10) (oi := ⟨some 28, _, _, _, _, _⟩) (v := ?_) rfl (by kernel_rfl) (by kernel_rfl) (by kernel_rfl) (fun _ _ _ h => h) (Or.inl ⟨by rfl, ?_⟩) (by assumption) ?_
            rotate_left 1
            · intro w hSw; (try dsimp only at hSw); go_simp; try (with_reducible rfl)
            try simp only [Act.put, List.setIfInBounds_toArray, List.set_cons_zero, List.set_cons_succ]
            refine wpAnyH_take (i := 11) (oi := ⟨some 29, _, _, _, _, _⟩) (v := ?_) rfl (by kernel_rfl) (by kernel_rfl) (by kernel_rfl) (fun _ _ _ h => h) (Or.inl ⟨by rfl, ?_⟩) (by assumption) ?_
            rotate_left 1
            · intro w hSw; (try dsimp only at hSw); go_simp; try (with_reducible rfl)
            try simp only [Act.put, List.setIfInBounds_toArray, List.set_cons_zero, List.set_cons_succ]
            refine wpAnyH_take (i := 12) (oi := ⟨some 30, _, _, _, _, _⟩) (v := ?_) rfl (by kernel_rfl) (by kernel_rfl) (by kernel_rfl) (fun _ _ _ h => h) (Or.inl ⟨by rfl, ?_⟩) (by assumption) ?_
            rotate_left 1
            · intro w hSw; (try dsimp only at hSw); go_simp; try (with_reducible rfl)
            try simp only [Act.put, List.setIfInBounds_toArray, List.set_cons_zero, List.set_cons_succ]
            refine wpAnyH_take (i := 13) (oi := ⟨some 31, _, _, _, _, _⟩) (v := ?_) rfl (by kernel_rfl) (by kernel_rfl) (by kernel_rfl) (fun _ _ _ h => h) (Or.inl ⟨by rfl, ?_⟩) (by assumption) ?_
            rotate_left 1
            · intro w hSw; (try dsimp only at hSw); go_simp; try (with_reducible rfl)
            try simp only [Act.put, List.setIfInBounds_toArray, List.set_cons_zero, List.set_cons_succ]
            refine wpAnyH_ready (rs := [14]) (by kernel_rfl) (by simp) ?_
            refine AllReadyH.cons (o := ⟨some 32, _, _, _, _, _⟩) rfl (fun K hK => ?_) AllReadyH.nil
            go_simp
            refine (sc _).mono ?_
            rintro e w2 ⟨rfl, hb⟩
            go_wp2_with fail
            refine hK.out _ _ ?_ (fun hHeld2 => ?_)
            · exact ⟨cell_later hb hHeld.1, cell_later hb hHeld.2.1, cell_later hb hHeld.2.2.1, cell_later hb hHeld.2.2.2.1, cell_later hb hHeld.2.2.2.2.1, cell_later hb hHeld.2.2.2.2.2.1, cell_later hb hHeld.2.2.2.2.2.2.1, cell_later hb hHeld.2.2.2.2.2.2.2.1, hHeld.2.2.2.2.2.2.2.2.trans (hb.mono hHeld.2.2.2.2.2.2.2.2.size)⟩
            clear hK K hHeld hb
            have hHeld := hHeld2
            clear hHeld2
            try simp only [Act.put, List.setIfInBounds_toArray, List.set_cons_zero, List.set_cons_succ]
            refine wpAnyH_take (i := 15) (oi := ⟨some 33, _, _, _, _, _⟩) (v := ?_) rfl (by kernel_rfl) (by kernel_rfl) (by kernel_rfl) (fun _ _ _ h => h) (Or.inl ⟨by rfl, ?_⟩) (by assumption) ?_
            rotate_left 1
            · intro w hSw; (try dsimp only at hSw); go_simp; try (with_reducible rfl)
            try simp only [Act.put, List.setIfInBounds_toArray, List.set_cons_zero, List.set_cons_succ]
            refine wpAnyH_take (i := 16) (oi := ⟨some 34, _, _, _, _, _⟩) (v := ?_) rfl (by kernel_rfl) (by kernel_rfl) (by kernel_rfl) (fun _ _ _ h => h) (Or.inl ⟨by rfl, ?_⟩) (by assumption) ?_
            rotate_left 1
            · intro w hSw; (try dsimp only at hSw); go_simp; try (with_reducible rfl)
            try simp only [Act.put, List.setIfInBounds_toArray, List.set_cons_zero, List.set_cons_succ]
            refine wpAnyH_done (by kernel_rfl) ?_ _
            try simp only [Act.put, List.setIfInBounds_toArray, List.set_cons_zero, List.set_cons_succ]
            have R3 := Lib.hid (R2.out.1.same (hHeld.2.2.2.2.2.2.2.2.block mb R2.out.1.lt))
            have R4 := Lib.hid (R2.out.2.below hHeld.2.2.2.2.2.2.2.2)
            obtain ⟨a0, a1, a2, a3, b0, b1, b2, b3, hD⟩ := hHeld
            have f := fun m => R3.out.free m
            have fa0 := f ((jj + 1) * 4)
            have fa1 := f ((jj + 1) * 4 + 1)
            have fa2 := f ((jj + 1) * 4 + 2)
            have fa3 := f ((jj + 1) * 4 + 3)
            have fb0 := f (jj * 4)
            have fb1 := f (jj * 4 + 1)
            have fb2 := f (jj * 4 + 2)
            have fb3 := f (jj * 4 + 3)
            have hlen : jj + 1 < Q.length := by omega
            have P1 := R3.out.put (i := jj + 1) (k := Q.getD jj 0) hlen hy.out
            have P2 := Lib.hid (P1.put (i := jj) (k := Q.getD (jj + 1) 0) (by rw [List.length_set]; omega) hx.out)
            clear R2 f hD P1 R3
            go_wp2_with fail
            go_region
            go_wp2_with fail
            refine ⟨⟨jj, by omega, rfl, _, Lib.hid ⟨R.out, P2.out.drew, swap_exc R4.out _ _ _ _ _ _ _ _ _ _ _ _ _ _ _ _⟩⟩, ?_⟩
            simp [intOf]
          · have R := Lib.hid (hS.out.1.done (.inr (by
              have hp := hS.out.1.perm
              have hm : ∀ t, t < Q.length → Q.getD t 0 < N.length := fun t ht => hQ.out _ (hp.mem_iff.1 (by rw [List.getD_eq_getElem?_getD, List.getElem?_eq_getElem ht]; exact List.getElem_mem ht))
              have hd : Q.Nodup := hp.nodup_iff.2 hnd.out
              show soonK N (Q.getD jj 0) (Q.getD (jj + 1) 0)
              refine soonK.tri hv.out (hm (jj + 1) (by omega)) (hm jj (by omega)) (fun e => ?_) (fun hh => hzz (hz.out.2 hh))
              rw [List.getD_eq_getElem?_getD, List.getD_eq_getElem?_getD, List.getElem?_eq_getElem (show jj + 1 < Q.length by omega), List.getElem?_eq_getElem (show jj < Q.length by omega), Option.getD_some, Option.getD_some] at e
              exact absurd e.symm (List.pairwise_iff_getElem.1 hd jj (jj + 1) (by omega) (by omega) (by omega)))))
            have R2 := Lib.hid hS.out.2
            clear hz hS
            go_upto_region 4 with fail
            refine wp_region_held_drew (S := fun w' => w'.cell? ⟨mb, (jj + 1) * 4, none⟩ = some (.int .i64 p) ∧ w'.cell? ⟨mb, (jj + 1) * 4 + 1, none⟩ = some (.int .i64 r) ∧ w'.cell? ⟨mb, (jj + 1) * 4 + 2, none⟩ = some (.int .i64 s) ∧ w'.cell? ⟨mb, (jj + 1) * 4 + 3, none⟩ = some (.slice ua un uc) ∧ w'.cell? ⟨mb, jj * 4, none⟩ = some (.int .i64 p') ∧ w'.cell? ⟨mb, jj * 4 + 1, none⟩ = some (.int .i64 r') ∧ w'.cell? ⟨mb, jj * 4 + 2, none⟩ = some (.int .i64 s') ∧ w'.cell? ⟨mb, jj * 4 + 3, none⟩ = some (.slice ua' un' uc') ∧ Below wr.heap.size wr w') (by kernel_rfl) ⟨a0, a1, a2, a3, b0, b1, b2, b3, Below.drew (Below.refl _ _)⟩ (fun hHeld => ?_)
            refine wpAnyH_take (i := 0) (oi := ⟨some 18, _, _, _, _, _⟩) (v := ?_) rfl (by kernel_rfl) (by kernel_rfl) (by kernel_rfl) (fun _ _ _ h => h) (Or.inl ⟨by rfl, ?_⟩) (by assumption) ?_
            rotate_left 1
            · intro w hSw; (try dsimp only at hSw); go_simp; try (with_reducible rfl)
            try simp only [Act.put, List.setIfInBounds_toArray, List.set_cons_zero, List.set_cons_succ]
            refine wpAnyH_take (i := 1) (oi := ⟨some 19, _, _, _, _, _⟩) (v := ?_) rfl (by kernel_rfl) (by kernel_rfl) (by kernel_rfl) (fun _ _ _ h => h) (Or.inl ⟨by rfl, ?_⟩) (by assumption) ?_
            rotate_left 1
            · intro w hSw; (try dsimp only at hSw); go_simp; try (with_reducible rfl)
            try simp only [Act.put, List.setIfInBounds_toArray, List.set_cons_zero, List.set_cons_succ]
            refine wpAnyH_take (i := 2) (oi := ⟨some 20, _, _, _, _, _⟩) (v := ?_) rfl (by kernel_rfl) (by kernel_rfl) (by kernel_rfl) (fun _ _ _ h => h) (Or.inl ⟨by rfl, ?_⟩) (by assumption) ?_
            rotate_left 1
            · intro w hSw; (try dsimp only at hSw); go_simp; try (with_reducible rfl)
            try simp only [Act.put, List.setIfInBounds_toArray, List.set_cons_zero, List.set_cons_succ]
            refine wpAnyH_take (i := 3) (oi := ⟨some 21, _, _, _, _, _⟩) (v := ?_) rfl (by kernel_rfl) (by kernel_rfl) (by kernel_rfl) (fun _ _ _ h => h) (Or.inl ⟨by rfl, ?_⟩) (by assumption) ?_
            rotate_left 1
            · intro w hSw; (try dsimp only at hSw); go_simp; try (with_reducible rfl)
            try simp only [Act.put, List.setIfInBounds_toArray, List.set_cons_zero, List.set_cons_succ]
            refine wpAnyH_take (i := 4) (oi := ⟨some 22, _, _, _, _, _⟩) (v := ?_) rfl (by kernel_rfl) (by kernel_rfl) (by kernel_rfl) (fun _ _ _ h => h) (Or.inl ⟨by rfl, ?_⟩) (by assumption) ?_
            rotate_left 1
            · intro w hSw; (try dsimp only at hSw); go_simp; try (with_reducible rfl)
            try simp only [Act.put, List.setIfInBounds_toArray, List.set_cons_zero, List.set_cons_succ]
            refine wpAnyH_take (i := 5) (oi := ⟨some 23, _, _, _, _, _⟩) (v := ?_) rfl (by kernel_rfl) (by kernel_rfl) (by kernel_rfl) (fun _ _ _ h => h) (Or.inl ⟨by rfl, ?_⟩) (by assumption) ?_
            rotate_left 1
            · intro w hSw; (try dsimp only at hSw); go_simp; try (with_reducible rfl)
            try simp only [Act.put, List.setIfInBounds_toArray, List.set_cons_zero, List.set_cons_succ]
            refine wpAnyH_take (i := 6) (oi := ⟨some 24, _, _, _, _, _⟩) (v := ?_) rfl (by kernel_rfl) (by kernel_rfl) (by kernel_rfl) (fun _ _ _ h => h) (Or.inl ⟨by rfl, ?_⟩) (by assumption) ?_
            rotate_left 1
            · intro w hSw; (try dsimp only at hSw); go_simp; try (with_reducible rfl)
            try simp only [Act.put, List.setIfInBounds_toArray, List.set_cons_zero, List.set_cons_succ]
            refine wpAnyH_take (i := 7) (oi := ⟨some 25, _, _, _, _, _⟩) (v := ?_) rfl (by kernel_rfl) (by kernel_rfl) (by kernel_rfl) (fun _ _ _ h => h) (Or.inl ⟨by rfl, ?_⟩) (by assumption) ?_
            rotate_left 1
            · intro w hSw; (try dsimp only at hSw); go_simp; try (with_reducible rfl)
            try simp only [Act.put, List.setIfInBounds_toArray, List.set_cons_zero, List.set_cons_succ]
            refine wpAnyH_take (i := 8) (oi := ⟨some 26, _, _, _, _, _⟩) (v := ?_) rfl (by kernel_rfl) (by kernel_rfl) (by kernel_rfl) (fun _ _ _ h => h) (Or.inl ⟨by rfl, ?_⟩) (by assumption) ?_
            rotate_left 1
            · intro w hSw; (try dsimp only at hSw); go_simp; try (with_reducible rfl)
            try simp only [Act.put, List.setIfInBounds_toArray, List.set_cons_zero, List.set_cons_succ]
            refine wpAnyH_take (i := 9) (oi := ⟨some 27, _, _, _, _, _⟩) (v := ?_) rfl (by kernel_rfl) (by kernel_rfl) (by kernel_rfl) (fun _ _ _ h => h) (Or.inl ⟨by rfl, ?_⟩) (by assumption) ?_
            rotate_left 1
            · intro w hSw; (try dsimp only at hSw); go_simp; try (with_reducible rfl)
            try simp only [Act.put, List.setIfInBounds_toArray, List.set_cons_zero, List.set_cons_succ]
            refine wpAnyH_take (i := 10) (oi := ⟨some 28, _, _, _, _, _⟩) (v := ?_) rfl (by kernel_rfl) (by kernel_rfl) (by kernel_rfl) (fun _ _ _ h => h) (Or.inl ⟨by rfl, ?_⟩) (by assumption) ?_
            rotate_left 1
            · intro w hSw; (try dsimp only at hSw); go_simp; try (with_reducible rfl)
            try simp only [Act.put, List.setIfInBounds_toArray, List.set_cons_zero, List.set_cons_succ]
            refine wpAnyH_take (i := 11) (oi := ⟨some 29, _, _, _, _, _⟩) (v := ?_) rfl (by kernel_rfl) (by kernel_rfl) (by kernel_rfl) (fun _ _ _ h => h) (Or.inl ⟨by rfl, ?_⟩) (by assumption) ?_
            rotate_left 1
            · intro w hSw; (try dsimp only at hSw); go_simp; try (with_reducible rfl)
            try simp only [Act.put, List.setIfInBounds_toArray, List.set_cons_zero, List.set_cons_succ]
            refine wpAnyH_take (i := 12) (oi := ⟨some 30, _, _, _, _, _⟩) (v := ?_) rfl (by kernel_rfl) (by kernel_rfl) (by kernel_rfl) (fun _ _ _ h => h) (Or.inl ⟨by rfl, ?_⟩) (by assumption) ?_
            rotate_left 1
            · intro w hSw; (try dsimp only at hSw); go_simp; try (with_reducible rfl)
            try simp only [Act.put, List.setIfInBounds_toArray, List.set_cons_zero, List.set_cons_succ]
            refine wpAnyH_take (i := 13) (oi := ⟨some 31, _, _, _, _, _⟩) (v := ?_) rfl (by kernel_rfl) (by kernel_rfl) (by kernel_rfl) (fun _ _ _ h => h) (Or.inl ⟨by rfl, ?_⟩) (by assumption) ?_
            rotate_left 1
            · intro w hSw; (try dsimp only at hSw); go_simp; try (with_reducible rfl)
            try simp only [Act.put, List.setIfInBounds_toArray, List.set_cons_zero, List.set_cons_succ]
            refine wpAnyH_ready (rs := [14]) (by kernel_rfl) (by simp) ?_
            refine AllReadyH.cons (o := ⟨some 32, _, _, _, _, _⟩) rfl (fun K hK => ?_) AllReadyH.nil
            go_simp
            refine (sc _).mono ?_
            rintro e w2 ⟨rfl, hb⟩
            go_wp2_with fail
            refine hK.out _ _ ?_ (fun hHeld2 => ?_)
            · exact ⟨cell_later hb hHeld.1, cell_later hb hHeld.2.1, cell_later hb hHeld.2.2.1, cell_later hb hHeld.2.2.2.1, cell_later hb hHeld.2.2.2.2.1, cell_later hb hHeld.2.2.2.2.2.1, cell_later hb hHeld.2.2.2.2.2.2.1, cell_later hb hHeld.2.2.2.2.2.2.2.1, hHeld.2.2.2.2.2.2.2.2.trans (hb.mono hHeld.2.2.2.2.2.2.2.2.size)⟩
            clear hK K hHeld hb
            have hHeld := hHeld2
            clear hHeld2
            try simp only [Act.put, List.setIfInBounds_toArray, List.set_cons_zero, List.set_cons_succ]
            refine wpAnyH_take (i := 15) (oi := ⟨some 33, _, _, _, _, _⟩) (v := ?_) rfl (by kernel_rfl) (by kernel_rfl) (by kernel_rfl) (fun _ _ _ h => h) (Or.inl ⟨by rfl, ?_⟩) (by assumption) ?_
            rotate_left 1
            · intro w hSw; (try dsimp only at hSw); go_simp; try (with_reducible rfl)
            try simp only [Act.put, List.setIfInBounds_toArray, List.set_cons_zero, List.set_cons_succ]
            refine wpAnyH_take (i := 16) (oi := ⟨some 34, _, _, _, _, _⟩) (v := ?_) rfl (by kernel_rfl) (by kernel_rfl) (by kernel_rfl) (fun _ _ _ h => h) (Or.inl ⟨by rfl, ?_⟩) (by assumption) ?_
            rotate_left 1
            · intro w hSw; (try dsimp only at hSw); go_simp; try (with_reducible rfl)
            try simp only [Act.put, List.setIfInBounds_toArray, List.set_cons_zero, List.set_cons_succ]
            refine wpAnyH_done (by kernel_rfl) ?_ _
            try simp only [Act.put, List.setIfInBounds_toArray, List.set_cons_zero, List.set_cons_succ]
            have R3 := Lib.hid (R2.out.1.same (hHeld.2.2.2.2.2.2.2.2.block mb R2.out.1.lt))
            have R4 := Lib.hid (R2.out.2.below hHeld.2.2.2.2.2.2.2.2)
            clear hHeld R2
            go_wp2_with fail
            go_roundw
            case rel => exact ⟨k + 1, by omega, by omega, by go_num, Q, Lib.hid ⟨R.out, R3.out, R4.out⟩⟩
            case measure => simp [intOf]; omega
    · obtain rfl : k = n := by omega
      go_wp2_with fail
      go_end0
      exact ⟨rfl, Q, hS.out.1, hS.out.2.1, hS.out.2.2⟩
end Go.Proofs.YtbbnchodchgioaaDoor

/- slices.SortFunc at a few nodes. -/
namespace Go.Proofs.YtbbnchodchgioaaDoor
open Go.RowKit
set_option linter.unusedVariables false

set_option maxRecDepth 100000 in
set_option maxHeartbeats 4000000 in
theorem blen64_any (n : Nat) (w : World) (h : n ≤ 12) :
    Calls Tryd.prog 105 #[.int .u64 n] w fun e w' => (∃ z : Int, e = .returned (.int .i64 z)) ∧ w = w' := by
  rcases (show n = 0 ∨ n = 1 ∨ n = 2 ∨ n = 3 ∨ n = 4 ∨ n = 5 ∨ n = 6 ∨ n = 7 ∨ n = 8 ∨ n = 9 ∨ n = 10 ∨ n = 11 ∨ n = 12 by omega) with rfl | rfl | rfl | rfl | rfl | rfl | rfl | rfl | rfl | rfl | rfl | rfl | rfl
  all_goals
    go_enter Tryd.func105, Tryd.ntmps105
    go_wp2_with fail
    go_ret
    exact ⟨⟨_, rfl⟩, rfl⟩

set_option maxRecDepth 100000 in
set_option maxHeartbeats 4000000 in
theorem blen_any (n : Nat) (w : World) (h : n ≤ 12) :
    Calls Tryd.prog 95 #[.int .u64 n] w fun e w' => (∃ z : Int, e = .returned (.int .i64 z)) ∧ w = w' := by
  go_enter Tryd.func95, Tryd.ntmps95
  go_wp2_with fail
  refine (blen64_any n _ h).mono ?_
  rintro e w1 ⟨⟨z, rfl⟩, rfl⟩
  go_wp2_with fail
  go_ret
  exact ⟨⟨_, rfl⟩, rfl⟩

/-- What sorting leaves. -/
def SortP (N : List Nd) (U : Us) (mb : Nat) (Q0 : List Nat) (w : World) (e : Ending) (w' : World) : Prop :=
  e = .returned (.tuple #[]) ∧ ∃ Q, Srd N Q0 Q Q0.length ∧ RowN w' mb N U Q ∧ Exc (fun b => b = mb) w w'

set_option maxRecDepth 100000 in
set_option maxHeartbeats 4000000 in
theorem npdq_at (mb cap : Nat) (z : Int) (N : List Nd) (U : Us) (Q0 : List Nat) (w : World) (hv : nodB N = true) (hQ : ∀ k ∈ Q0, k < N.length) (hnd : Q0.Nodup) (h1 : 1 ≤ Q0.length) (h2 : Q0.length ≤ 12) (hR : RowN w mb N U Q0) :
    Calls Tryd.prog 94 #[.slice (some ⟨mb, 0, none⟩) Q0.length cap, .int .i64 0, .int .i64 Q0.length, .int .i64 z, .func (.func 74) #[] #[]] w (SortP N U mb Q0 w) := by
  have si := fun W (H : RowN W mb N U Q0) => nins_at mb cap N U Q0 W hv hQ hnd h1 h2 H
  obtain ⟨n, hn⟩ : ∃ n, Hid (Q0.length = n) := ⟨_, Lib.hid rfl⟩
  unfold SortP
  rw [hn.out] at si h1 h2 ⊢
  have hR := Lib.hid hR
  have d3 : IntKind.i64.wrap (n : Int) = (n : Int) := IntWalk.i64_in _ (by omega)
  have h3 : (n : Int) ≤ 12 := by omega
  clear hQ hnd hv hn
  go_enter Tryd.func94, Tryd.ntmps94
  go_wp2_with fail
  refine wp_loop_rounds 1 ?_
  rw [rounds_succ]
  go_wp2_with fail
  refine (si _ hR.out).mono ?_
  rintro e w1 ⟨rfl, hp⟩
  have hp := Lib.hid hp
  clear si
  go_wp2_with fail
  exact bodyPost_ret (results_none rfl _ _ _) rfl ⟨rfl, hp.out⟩

set_option maxRecDepth 100000 in
set_option maxHeartbeats 4000000 in
theorem nsort_at (mb cap : Nat) (N : List Nd) (U : Us) (Q0 : List Nat) (w : World) (hv : nodB N = true) (hQ : ∀ k ∈ Q0, k < N.length) (hnd : Q0.Nodup) (h1 : 1 ≤ Q0.length) (h2 : Q0.length ≤ 12) (hR : RowN w mb N U Q0) :
    Calls Tryd.prog 91 #[.slice (some ⟨mb, 0, none⟩) Q0.length cap, .func (.func 74) #[] #[]] w (SortP N U mb Q0 w) := by
  have si := fun z => npdq_at mb cap z N U Q0 w hv hQ hnd h1 h2 hR
  obtain ⟨n, hn⟩ : ∃ n, Hid (Q0.length = n) := ⟨_, Lib.hid rfl⟩
  unfold SortP at si ⊢
  rw [hn.out] at si h1 h2 ⊢
  clear hQ hnd hv hn hR
  have d3 : IntKind.u64.wrap (n : Int) = (n : Int) := by rw [IntKind.wrap_u64]; omega
  go_enter Tryd.func91, Tryd.ntmps91
  go_wp2_with fail
  refine (blen_any n _ h2).mono ?_
  rintro e w1 ⟨⟨z, rfl⟩, rfl⟩
  go_wp2_with fail
  refine (si z).mono ?_
  rintro e w1 ⟨rfl, hp⟩
  have hp := Lib.hid hp
  clear si
  go_wp2_with fail
  go_end0
  exact ⟨rfl, hp.out⟩
end Go.Proofs.YtbbnchodchgioaaDoor

/- The program's gather: facts of its loops. -/
namespace Go.Proofs.YtbbnchodchgioaaDoor
open Go.RowKit
set_option linter.unusedVariables false

theorem infoN : (Tryd.prog.info? 32).map (fun i => (i.zero, i.size, i.bytes)) = some (some (.agg #[.int .i64 0, .int .i64 0, .int .i64 0, .slice none 0 0]), 4, 48) := by kernel_rfl
theorem infoG : (Tryd.prog.info? 59).map (fun i => (i.zero, i.size, i.bytes)) = some (some (.pointer none), 1, 8) := by kernel_rfl

def flatN (N : List Nd) (U : Us) (Q : List Nat) : List Value := Q.flatMap (ndc N U)
theorem flatN_app (N : List Nd) (U : Us) (A B : List Nat) : flatN N U (A ++ B) = flatN N U A ++ flatN N U B := List.flatMap_append
theorem flatN_len (N : List Nd) (U : Us) : ∀ Q : List Nat, (flatN N U Q).length = Q.length * 4
  | [] => rfl
  | a :: Q => by
    show (ndc N U a ++ flatN N U Q).length = _
    rw [List.length_append, flatN_len N U Q, List.length_cons]; show 4 + _ = _; omega
theorem flatN_get (N : List Nd) (U : Us) : ∀ (Q : List Nat) (i j : Nat), i < Q.length → j < 4 → (flatN N U Q)[i * 4 + j]? = (ndc N U (Q.getD i 0))[j]?
  | [], i, j, h, _ => absurd h (Nat.not_lt_zero _)
  | a :: Q, 0, j, h, hj => by
    show (ndc N U a ++ flatN N U Q)[0 * 4 + j]? = _
    rw [List.getElem?_append_left (by show 0 * 4 + j < 4; omega)]; simp
  | a :: Q, i + 1, j, h, hj => by
    show (ndc N U a ++ flatN N U Q)[(i + 1) * 4 + j]? = _
    rw [List.getElem?_append_right (by show 4 ≤ _; omega)]
    have : (i + 1) * 4 + j - (ndc N U a).length = i * 4 + j := by show (i + 1) * 4 + j - 4 = _; omega
    rw [this, flatN_get N U Q i j (by simpa using h) hj]
    simp
theorem ndc_len (N : List Nd) (U : Us) (k : Nat) : (ndc N U k).length = 4 := rfl
theorem ndc_one (N : List Nd) (U : Us) (k : Nat) : ∀ u ∈ ndc N U k, u.oneCell' = true := by
  intro u hu
  simp only [ndc, List.mem_cons, List.not_mem_nil, or_false] at hu
  rcases hu with rfl | rfl | rfl | rfl <;> rfl

/-- A row of nodes as the walk of sorting wants it. -/
theorem rowN_of {w : World} {B : Nat} {v : Value} {N : List Nd} {U : Us} {Q : List Nat} (h : w.ownsRow B 32 4 v Q.length (flatN N U Q)) (hQ : 0 < Q.length) :
    ∃ mb cap, v = .slice (some ⟨mb, 0, none⟩) Q.length cap ∧ B ≤ mb ∧ RowN w mb N U Q ∧ Typ w mb 32 ∧ Q.length ≤ cap := by
  rcases h.2 with ⟨_, h0⟩ | ⟨g, cap, cur, rfl, hb, hg, hn, hm, hs, ht⟩
  · omega
  · refine ⟨g, cap, rfl, hb, ⟨cur, hg, fun i hi j hj => ?_⟩, ⟨cur, hg⟩, hn⟩
    rw [← flatN_get N U Q i j hi hj, ← ht, List.getElem?_take, if_pos (by omega)]
    simp
theorem RowN.typ {w : World} {mb : Nat} {N : List Nd} {U : Us} {Q : List Nat} (h : RowN w mb N U Q) : Typ w mb 32 := by obtain ⟨cur, h, _⟩ := h.blk; exact ⟨cur, h⟩
theorem take_snoc {S : List Nat} {k : Nat} (hk : k < S.length) : S.take (k + 1) = S.take k ++ [S.getD k 0] := by
  rw [List.take_succ_eq_append_getElem hk, List.getD_eq_getElem?_getD, List.getElem?_eq_getElem hk]; rfl
theorem flatN_next {N : List Nd} {U : Us} {S : List Nat} {k : Nat} (hk : k < S.length) : flatN N U (S.take (k + 1)) = flatN N U (S.take k) ++ ndc N U (S.getD k 0) := by
  rw [take_snoc hk, flatN_app]; simp [flatN]

/-- Where the first loop is: A are found, Q are members, B are among the ids. -/
structure G1 (N : List Nd) (U : Us) (fb gb : Nat) (v0 sv gv : Value) (m : Nat) (met : Nat → Nat) (fo : Nat → Option Nat) (w wr : World) (A : List Nat) (mv0 mv : Value) (Q : List Nat) (f : Nat → Nat) (B : List Nat) : Prop where
  fi : Fi wr fb v0 sv gv m met (fun i => if i ∈ A then some gb else fo i)
  grp : Gb wr gb mv0 f (fun _ => 0) true
  bits : Bits f (SI N B)
  row : wr.ownsRow (gb + 1) 32 4 mv Q.length (flatN N U Q)
  exc : Exc (fun b => b = fb) w wr
  lt : fb < gb
  sz : gb = w.heap.size
section
variable {N : List Nd} {U : Us} {fb gb : Nat} {v0 sv gv : Value} {m : Nat} {met : Nat → Nat} {fo : Nat → Option Nat} {w wr : World} {A : List Nat} {mv0 mv : Value} {Q : List Nat} {f : Nat → Nat} {B : List Nat}
theorem G1.own (h : G1 N U fb gb v0 sv gv m met fo w wr A mv0 mv Q f B) : ∀ k, mv.ownBlock = some k → gb < k := by
  intro k hk
  rcases h.row.2 with ⟨e, _⟩ | ⟨g, cap, cur, e, hb, _⟩
  · rw [e] at hk; simp [Value.ownBlock] at hk
  · rw [e] at hk; simp [Value.ownBlock] at hk; omega
theorem G1.bel {w0 : World} (h : G1 N U fb gb v0 sv gv m met fo w wr A mv0 mv Q f B) (hb : Below fb w0 w) : Below fb w0 wr :=
  hb.trans (h.exc.to (by have := h.lt; have := h.sz; omega) (fun b e => by omega))
theorem G1.found (h : G1 N U fb gb v0 sv gv m met fo w wr A mv0 mv Q f B) {p : Nat} (hp : p < 12) : G1 N U fb gb v0 sv gv m met fo w (wr.setCell ⟨fb, 15 + p, none⟩ (pv gb)) (A ++ [p]) mv0 mv Q f B := by
  have hl := h.lt
  have ho : ∀ k, k ≠ fb → (wr.setCell ⟨fb, 15 + p, none⟩ (pv gb)).heap[k]? = wr.heap[k]? := fun k hk => heap_setCell_other _ _ _ _ hk
  refine ⟨(h.fi.setFound hp gb).found_ext fun i _ => ?_, h.grp.same (ho gb (by omega)), h.bits, row_same h.row fun k hk => ho k (by have := h.own k hk; omega), h.exc.set (.inl rfl) _ _, hl, h.sz⟩
  by_cases e : i = p
  · rw [if_pos e, if_pos (by rw [e]; simp)]
  · rw [if_neg e]
    by_cases hA : i ∈ A
    · rw [if_pos hA, if_pos (List.mem_append_left _ hA)]
    · rw [if_neg hA, if_neg (by simp only [List.mem_append, List.mem_singleton, not_or]; exact ⟨hA, e⟩)]
theorem G1.low (h : G1 N U fb gb v0 sv gv m met fo w wr A mv0 mv Q f B) {w' : World} (hb : Below wr.heap.size wr w') : G1 N U fb gb v0 sv gv m met fo w w' A mv0 mv Q f B := by
  refine ⟨h.fi.same (hb.block fb h.fi.lt), h.grp.same (hb.block gb h.grp.lt), h.bits, row_same h.row fun k hk => ?_, h.exc.below hb, h.lt, h.sz⟩
  obtain ⟨cur, hc⟩ := ownb_typ h.row hk
  exact hb.block k (lt_of_heap hc)
theorem G1.app (h : G1 N U fb gb v0 sv gv m met fo w wr A mv0 mv Q f B) {p : Nat} {w' : World} {v' : Value} (hown : w'.ownsRow (gb + 1) 32 4 v' (Q.length + 1) (flatN N U Q ++ ndc N U p)) (hg : wr.grownBy w' mv.ownBlock) :
    G1 N U fb gb v0 sv gv m met fo w w' A mv0 v' (Q ++ [p]) f B := by
  have hk : ∀ k, k ≤ gb → some k ≠ mv.ownBlock := fun k hk e => by have := h.own k e.symm; omega
  have hl := h.lt
  refine ⟨h.fi.same (hg.block fb h.fi.lt (hk fb (by omega))), h.grp.same (hg.block gb h.grp.lt (hk gb (Nat.le_refl _))), h.bits, ?_, ?_, hl, h.sz⟩
  · rw [flatN_app, List.length_append]; simpa [flatN] using hown
  · refine ⟨hg.os.trans h.exc.os, hg.tape.trans h.exc.tape, hg.output.trans h.exc.output, Nat.le_trans h.exc.size hg.size, fun b hb hn => ?_⟩
    exact (hg.block b (Nat.lt_of_lt_of_le hb h.exc.size) (hk b (by have := h.sz; omega))).trans (h.exc.block b hb hn)
theorem G1.store (h : G1 N U fb gb v0 sv gv m met fo w wr A mv0 mv Q f B) : G1 N U fb gb v0 sv gv m met fo w (wr.setCell ⟨gb, 0, none⟩ mv) A mv mv Q f B := by
  have hl := h.lt
  have ho : ∀ k, k ≠ gb → (wr.setCell ⟨gb, 0, none⟩ mv).heap[k]? = wr.heap[k]? := fun k hk => heap_setCell_other _ _ _ _ hk
  exact ⟨h.fi.same (ho fb (by omega)), h.grp.set0 mv, h.bits, row_same h.row fun k hk => ho k (by have := h.own k hk; omega), h.exc.set (.inr (by have := h.sz; omega)) _ _, hl, h.sz⟩
theorem G1.add (h : G1 N U fb gb v0 sv gv m met fo w wr A mv0 mv Q f B) {p pr n : Nat} (ha : (N.getD p nd0).id = ((pr : Int), (n : Int))) (hpr : pr < 5) (hok : okP (N.getD p nd0).id = true) : G1 N U fb gb v0 sv gv m met fo w (wr.setCell ⟨gb, 1 + pr, none⟩ (.int .u64 ((f pr ||| 2 ^ n : Nat) : Int))) A mv0 mv Q (addF f (N.getD p nd0).id) (B ++ [p]) := by
  have hl := h.lt
  have ho : ∀ k, k ≠ gb → (wr.setCell ⟨gb, 1 + pr, none⟩ (.int .u64 ((f pr ||| 2 ^ n : Nat) : Int))).heap[k]? = wr.heap[k]? := fun k hk => heap_setCell_other _ _ _ _ hk
  refine ⟨h.fi.same (ho fb (by omega)), by rw [ha]; exact h.grp.addf hpr, (h.bits.add hok).ext fun x => ?_, row_same h.row fun k hk => ho k (by have := h.own k hk; omega), h.exc.set (.inr (by have := h.sz; omega)) _ _, hl, h.sz⟩
  constructor
  · rintro (⟨i, hi, e⟩ | e)
    · exact ⟨i, List.mem_append_left _ hi, e⟩
    · exact ⟨p, List.mem_append_right _ (List.mem_singleton.2 rfl), e.symm⟩
  · rintro ⟨i, hi, e⟩
    rcases List.mem_append.1 hi with hi | hi
    · exact .inl ⟨i, hi, e⟩
    · rw [List.mem_singleton] at hi; subst hi; exact .inr e.symm
end

theorem four_src (w : World) (t : TypeId) (x y z u : Value) (n : Nat) (hn : n = w.heap.size) : ∀ j v, [x, y, z, u][j]? = some v → (w.alloc (.cells #[x, y, z, u] t)).cell? ((⟨n, 0, none⟩ : Addr).add j) = some v := by
  subst hn
  intro j v hj
  match j, hj with
  | 0, hj => simp at hj; subst hj; simp [Addr.add]
  | 1, hj => simp at hj; subst hj; simp [Addr.add]
  | 2, hj => simp at hj; subst hj; simp [Addr.add]
  | 3, hj => simp at hj; subst hj; simp [Addr.add]
  | j + 4, hj => simp at hj
theorem four_one (x y z : Int) (a : Option Addr) (n c : Nat) : ∀ u ∈ [Value.int .i64 x, .int .i64 y, .int .i64 z, .slice a n c], u.oneCell' = true := by
  intro u hu
  simp only [List.mem_cons, List.not_mem_nil, or_false] at hu
  rcases hu with rfl | rfl | rfl | rfl <;> rfl

theorem own_some {w : World} {B : Nat} {e : TypeId} {size : Nat} {v : Value} {n : Nat} {xs : List Value} (h : w.ownsRow B e size v n xs) (hn : 0 < n) : ∃ g c, v = .slice (some ⟨g, 0, none⟩) n c := by
  rcases h.2 with ⟨_, h0⟩ | ⟨g, cap, cur, e, _⟩
  · omega
  · exact ⟨g, cap, e⟩

/-- Ids in range are numbers. -/
theorem ok_nat {a : Pid} (h : okP a = true) : ∃ pr n : Nat, a = ((pr : Int), (n : Int)) ∧ pr < 5 ∧ n ≤ 50 := by
  obtain ⟨r, n⟩ := a
  simp only [okP, idB, decide_eq_true_eq] at h
  exact ⟨r.toNat, n.toNat, by rw [Int.toNat_of_nonneg (by omega), Int.toNat_of_nonneg (by omega)], by omega, by omega⟩
end Go.Proofs.YtbbnchodchgioaaDoor

/- The program's gather: facts of its second loop. -/
namespace Go.Proofs.YtbbnchodchgioaaDoor
open Go.RowKit
set_option linter.unusedVariables false

theorem Exc.mono {P Q : Nat → Prop} {w w' : World} (h : Exc P w w') (hs : ∀ b, P b → Q b) : Exc Q w w' :=
  ⟨h.os, h.tape, h.output, h.size, fun b hb hn => h.block b hb fun x => hn (hs b x)⟩

/-- A set's words, five of them. -/
def nrm (r : Nat → Nat) : Nat → Nat := fun k => if k < 5 then r k else 0
theorem nrm_at {r : Nat → Nat} {k : Nat} (hk : k < 5) : nrm r k = r k := if_pos hk
theorem Bits.nrm_lt {r : Nat → Nat} {P : Pid → Prop} (h : Bits r P) : ∀ k, nrm r k < 2251799813685248 := by
  intro k
  unfold nrm
  split
  · exact h.lt (by assumption)
  · omega
theorem Bits.nrm {r : Nat → Nat} {P : Pid → Prop} (h : Bits r P) : Bits (nrm r) P := ⟨fun k n hk => by rw [nrm_at hk]; exact h.bit k n hk, h.ok⟩
theorem nrm_set (r : Nat → Nat) : setV (nrm r) = setV r := rfl

/-- Where the second loop is, in memory. -/
structure M2 (N : List Nd) (U : Us) (S Q : List Nat) (fb gb mb mc : Nat) (v0 sv gv : Value) (m : Nat) (met : Nat → Nat) (fo : Nat → Option Nat) (w wr : World) (f r : Nat → Nat) (rd : Bool) : Prop where
  fi : Fi wr fb v0 sv gv m met (fun i => if i ∈ S then some gb else fo i)
  grp : Gb wr gb (.slice (some ⟨mb, 0, none⟩) Q.length mc) f r rd
  row : RowN wr mb N U Q
  typ : Typ wr mb 32
  exc : Exc (fun b => b = fb) w wr
  fty : Typ w fb 93
  lt : fb < gb
  sz : gb = w.heap.size
  mlt : gb < mb
section
variable {N : List Nd} {U : Us} {S Q : List Nat} {fb gb mb mc : Nat} {v0 sv gv : Value} {m : Nat} {met : Nat → Nat} {fo : Nat → Option Nat} {w wr : World} {f r : Nat → Nat} {rd : Bool}
theorem M2.bel {w0 : World} (h : M2 N U S Q fb gb mb mc v0 sv gv m met fo w wr f r rd) (hb : Below fb w0 w) : Below fb w0 wr :=
  hb.trans (h.exc.to (by have := h.lt; have := h.sz; omega) (fun b e => by omega))
theorem M2.low (h : M2 N U S Q fb gb mb mc v0 sv gv m met fo w wr f r rd) {w' : World} (hb : Below wr.heap.size wr w') : M2 N U S Q fb gb mb mc v0 sv gv m met fo w w' f r rd :=
  ⟨h.fi.same (hb.block fb h.fi.lt), h.grp.same (hb.block gb h.grp.lt), h.row.same (hb.block mb h.row.lt), h.typ.same (hb.block mb h.row.lt), h.exc.below hb, h.fty, h.lt, h.sz, h.mlt⟩
theorem M2.exv (h : M2 N U S Q fb gb mb mc v0 sv gv m met fo w wr f r rd) : Exv w wr := h.exc.mono fun b e => .inl (by rw [e]; exact h.fty)
theorem M2.stor (h : M2 N U S Q fb gb mb mc v0 sv gv m met fo w wr f r rd) {o : Nat} {v : Value} {r' : Nat → Nat} {rd' : Bool} (hg : Gb (wr.setCell ⟨gb, o, none⟩ v) gb (.slice (some ⟨mb, 0, none⟩) Q.length mc) f r' rd') :
    M2 N U S Q fb gb mb mc v0 sv gv m met fo w (wr.setCell ⟨gb, o, none⟩ v) f r' rd' := by
  have hl := h.lt
  have hm := h.mlt
  have ho : ∀ k, k ≠ gb → (wr.setCell ⟨gb, o, none⟩ v).heap[k]? = wr.heap[k]? := fun k hk => heap_setCell_other _ _ _ _ hk
  exact ⟨h.fi.same (ho fb (by omega)), hg, h.row.same (ho mb (by omega)), h.typ.same (ho mb (by omega)), h.exc.set (.inr (by have := h.sz; omega)) _ _, h.fty, hl, h.sz, hm⟩
theorem M2.miss (h : M2 N U S Q fb gb mb mc v0 sv gv m met fo w wr f r rd) : M2 N U S Q fb gb mb mc v0 sv gv m met fo w (wr.setCell ⟨gb, 11, none⟩ (.bool false)) f r false := h.stor (h.grp.set11 false)
theorem M2.rdy (h : M2 N U S Q fb gb mb mc v0 sv gv m met fo w wr f r rd) (b : Bool) : M2 N U S Q fb gb mb mc v0 sv gv m met fo w (wr.setCell ⟨gb, 11, none⟩ (.bool b)) f r b := h.stor (h.grp.set11 b)
theorem M2.add (h : M2 N U S Q fb gb mb mc v0 sv gv m met fo w wr f r rd) {p n : Nat} (hp : p < 5) : M2 N U S Q fb gb mb mc v0 sv gv m met fo w (wr.setCell ⟨gb, 6 + p, none⟩ (.int .u64 ((r p ||| 2 ^ n : Nat) : Int))) f (addF r ((p : Int), (n : Int))) rd := h.stor (h.grp.addr hp)
theorem M2.put (h : M2 N U S Q fb gb mb mc v0 sv gv m met fo w wr f r rd) (q : Nat → Nat) : M2 N U S Q fb gb mb mc v0 sv gv m met fo w (((((wr.setCell ⟨gb, 6, none⟩ (.int .u64 (q 0))).setCell ⟨gb, 7, none⟩ (.int .u64 (q 1))).setCell ⟨gb, 8, none⟩ (.int .u64 (q 2))).setCell ⟨gb, 9, none⟩ (.int .u64 (q 3))).setCell ⟨gb, 10, none⟩ (.int .u64 (q 4))) f q rd := by
  have hl := h.lt
  have hm := h.mlt
  have ho : ∀ k, k ≠ gb → (((((wr.setCell ⟨gb, 6, none⟩ (.int .u64 (q 0))).setCell ⟨gb, 7, none⟩ (.int .u64 (q 1))).setCell ⟨gb, 8, none⟩ (.int .u64 (q 2))).setCell ⟨gb, 9, none⟩ (.int .u64 (q 3))).setCell ⟨gb, 10, none⟩ (.int .u64 (q 4))).heap[k]? = wr.heap[k]? := fun k hk => by
    rw [heap_setCell_other _ _ _ _ hk, heap_setCell_other _ _ _ _ hk, heap_setCell_other _ _ _ _ hk, heap_setCell_other _ _ _ _ hk, heap_setCell_other _ _ _ _ hk]
  have hs : gb = w.heap.size ∨ w.heap.size ≤ gb := .inr (by have := h.sz; omega)
  exact ⟨h.fi.same (ho fb (by omega)), h.grp.putr q, h.row.same (ho mb (by omega)), h.typ.same (ho mb (by omega)), ((((h.exc.set (.inr (by have := h.sz; omega)) _ _).set (.inr (by have := h.sz; omega)) _ _).set (.inr (by have := h.sz; omega)) _ _).set (.inr (by have := h.sz; omega)) _ _).set (.inr (by have := h.sz; omega)) _ _, h.fty, hl, h.sz, hm⟩
end

/-- What the group of a node that is come upon is: the one being gathered, or one that is known. -/
def Oth (wr : World) (gb gb2 : Nat) (r r2 : Nat → Nat) (rd rd2 : Bool) : Prop := (gb2 = gb ∧ r2 = r ∧ rd2 = rd) ∨ (gb2 ≠ gb ∧ ∃ mv f2, Gb wr gb2 mv f2 r2 rd2)
theorem Oth.cells {N : List Nd} {U : Us} {S Q : List Nat} {fb gb mb mc : Nat} {v0 sv gv : Value} {m : Nat} {met : Nat → Nat} {fo : Nat → Option Nat} {w wr : World} {f r : Nat → Nat} {rd : Bool} {gb2 : Nat} {r2 : Nat → Nat} {rd2 : Bool} (h : Oth wr gb gb2 r r2 rd rd2) (hM : M2 N U S Q fb gb mb mc v0 sv gv m met fo w wr f r rd) :
    (wr.cell? ⟨gb2, 6, none⟩ = some (.int .u64 (r2 0)) ∧ wr.cell? ⟨gb2, 7, none⟩ = some (.int .u64 (r2 1)) ∧ wr.cell? ⟨gb2, 8, none⟩ = some (.int .u64 (r2 2)) ∧ wr.cell? ⟨gb2, 9, none⟩ = some (.int .u64 (r2 3)) ∧ wr.cell? ⟨gb2, 10, none⟩ = some (.int .u64 (r2 4))) ∧ wr.cell? ⟨gb2, 11, none⟩ = some (.bool rd2) := by
  rcases h with ⟨rfl, rfl, rfl⟩ | ⟨_, mv, f2, hg⟩
  · exact ⟨hM.grp.rs, hM.grp.c11⟩
  · exact ⟨hg.rs, hg.c11⟩
theorem Oth.low {wr w' : World} {gb gb2 : Nat} {r r2 : Nat → Nat} {rd rd2 : Bool} (h : Oth wr gb gb2 r r2 rd rd2) (hb : Below wr.heap.size wr w') : Oth w' gb gb2 r r2 rd rd2 := by
  rcases h with h | ⟨h1, mv, f2, hg⟩
  · exact .inl h
  · exact .inr ⟨h1, mv, f2, hg.same (hb.block gb2 hg.lt)⟩
theorem Oth.put {N : List Nd} {U : Us} {S Q : List Nat} {fb gb mb mc : Nat} {v0 sv gv : Value} {m : Nat} {met : Nat → Nat} {fo : Nat → Option Nat} {w wr : World} {f r : Nat → Nat} {rd : Bool} {gb2 : Nat} {r2 : Nat → Nat} {rd2 : Bool} (h : Oth wr gb gb2 r r2 rd rd2) (hM : M2 N U S Q fb gb mb mc v0 sv gv m met fo w wr f r rd) (q : Nat → Nat) :
    (((((wr.setCell ⟨gb, 6, none⟩ (.int .u64 (q 0))).setCell ⟨gb, 7, none⟩ (.int .u64 (q 1))).setCell ⟨gb, 8, none⟩ (.int .u64 (q 2))).setCell ⟨gb, 9, none⟩ (.int .u64 (q 3))).setCell ⟨gb, 10, none⟩ (.int .u64 (q 4))).cell? ⟨gb2, 11, none⟩ = some (.bool rd2) := by
  rcases h with ⟨rfl, rfl, rfl⟩ | ⟨hn, mv, f2, hg⟩
  · exact (hM.put q).grp.c11
  · refine (World.cell?_of_block (a := ⟨gb2, 11, none⟩) ?_).trans hg.c11
    dsimp only
    rw [heap_setCell_other _ _ _ _ hn, heap_setCell_other _ _ _ _ hn, heap_setCell_other _ _ _ _ hn, heap_setCell_other _ _ _ _ hn, heap_setCell_other _ _ _ _ hn]

/-- A step to a node. -/
theorem come_any {N : List Nd} {U : Us} {S Q : List Nat} {fb gb mb mc : Nat} {v0 sv gv : Value} {m : Nat} {met : Nat → Nat} {fo : Nat → Option Nat} {w wr : World} {f r : Nat → Nat} {rd : Bool} {P : Pid → Prop} {D : List Pid}
    (hM : M2 N U S Q fb gb mb mc v0 sv gv m met fo w wr f r rd) (hb : Bits r P) (hGL : GL N S D P rd) (hv : nodB N = true) (hS : GS N S) (hO : ∀ i ∈ S, ∀ j, EN N i j → ¬ j ∈ S → ∃ b, fo j = some b ∧ Grp w b N U j)
    {q p : Nat} {d : Pid} (hq : q ∈ S) (hE : EN N q p) (hd : (N.getD p nd0).id = d) :
    ∃ gb2, (if p ∈ S then some gb else fo p) = some gb2 ∧ ∀ (w7 : World) (o : Nat) (v : Value), Below wr.heap.size wr w7 → ∃ r2 rd2 P2, Oth (w7.setCell ⟨gb, o, none⟩ v) gb gb2 (addF r d) r2 rd rd2 ∧ Bits r2 P2 ∧ GL N S (D ++ [d]) (fun x => (P x ∨ x = d) ∨ P2 x) (rd && rd2) := by
  have hok : okP d = true := by rw [← hd]; exact nod_okI hv (List.mem_map_of_mem (getD_mem hE.2.1))
  have ha : SI N S (N.getD q nd0).id := ⟨q, hq, rfl⟩
  have hEI : EI N (N.getD q nd0).id d := by rw [← hd]; exact (en_ei hv hE.1 hE.2.1).1 hE
  by_cases hp : p ∈ S
  · refine ⟨gb, if_pos hp, fun w7 o v hbl => ⟨addF r d, rd, _, .inl ⟨rfl, rfl, rfl⟩, hb.add hok, ?_⟩⟩
    exact hGL.own ha hEI (by rw [← hd]; exact ⟨p, hp, rfl⟩)
  · obtain ⟨b, hb1, hb2⟩ := hO q hq p hE hp
    obtain ⟨mb', cap', Q', f2, r2, rd2, hgr⟩ := hb2
    have hne : b ≠ gb := by have := hgr.gb.lt; have := hM.sz; omega
    have hk := hgr.keep hM.exv
    have hgb : ∀ (w7 : World) (o : Nat) (v : Value), Below wr.heap.size wr w7 → Gb (w7.setCell ⟨gb, o, none⟩ v) b (.slice (some ⟨mb', 0, none⟩) Q'.length cap') f2 r2 rd2 := fun w7 o v hbl => (hk.gb.same (hbl.block b hk.gb.lt)).same (heap_setCell_other _ _ _ _ hne)
    refine ⟨b, by rw [if_neg hp]; exact hb1, fun w7 o v hbl => ⟨r2, rd2, _, .inr ⟨hne, _, f2, hgb w7 o v hbl⟩, hgr.gm.rch, ?_⟩⟩
    · rw [hd]
      refine hGL.oth ha hEI (fun hh => hp ?_) (by rw [← hd]; exact hgr.gm.rdy)
      rw [← hd] at hh
      exact (hS.place hv hE.2.1).1 hh
theorem getD_memP {L : List Pid} {k : Nat} (h : k < L.length) : L.getD k nop ∈ L := by
  rw [List.getD_eq_getElem?_getD, List.getElem?_eq_getElem h]; exact List.getElem_mem h
theorem getD_memN {L : List Nat} {k : Nat} (h : k < L.length) : L.getD k 0 ∈ L := by
  rw [List.getD_eq_getElem?_getD, List.getElem?_eq_getElem h]; exact List.getElem_mem h
theorem pos_node {N : List Nd} (hv : nodB N = true) {d : Pid} (h : d ∈ idsN N) : posP (idsN N) d < N.length ∧ (N.getD (posP (idsN N) d) nd0).id = d := by
  obtain ⟨h1, h2⟩ := (posP_mem (nod_of hv).2.2).1 h
  rw [idsN_len] at h1
  exact ⟨h1, by rw [← idsN_get h1]; exact h2⟩
theorem own_ge {w : World} {B : Nat} {e : TypeId} {size : Nat} {v : Value} {n : Nat} {xs : List Value} (h : w.ownsRow B e size v n xs) {k : Nat} (hk : v.ownBlock = some k) : B ≤ k := by
  rcases h.2 with ⟨rfl, _⟩ | ⟨g, cap, cur, rfl, hb, _⟩
  · simp [Value.ownBlock] at hk
  · simp [Value.ownBlock] at hk; omega
/-- The group is put behind the others. -/
theorem gat_end {N : List Nd} {U : Us} {S Q : List Nat} {fb gb mb mc : Nat} {v0 sv gv : Value} {m : Nat} {met : Nat → Nat} {fo : Nat → Option Nat} {w wr : World} {f r : Nat → Nat} {rd : Bool} {gs : List Nat}
    (hM : M2 N U S Q fb gb mb mc v0 sv gv m met fo w wr f r rd) (hG : w.ownsRow (fb + 1) 59 1 gv gs.length (gs.map pv)) {o : Obj} {w' : World} {v' : Value}
    (hown : w'.ownsRow (fb + 1) 59 1 v' (gs.length + 1) (gs.map pv ++ [pv gb])) (hg : (wr.alloc o).grownBy w' gv.ownBlock) :
    Fi w' fb v0 sv gv m met (fun i => if i ∈ S then some gb else fo i) ∧ Fi (w'.setCell ⟨fb, 27, none⟩ v') fb v0 sv v' m met (fun i => if i ∈ S then some gb else fo i) ∧ (w'.setCell ⟨fb, 27, none⟩ v').ownsRow (fb + 1) 59 1 v' (gs ++ [gb]).length ((gs ++ [gb]).map pv) ∧
    (∀ i, Grp wr gb N U i → Grp (w'.setCell ⟨fb, 27, none⟩ v') gb N U i) ∧ Exc (fun b => b = fb ∨ fb < b ∧ Typ w b 59) w (w'.setCell ⟨fb, 27, none⟩ v') := by
  have hl := hM.lt
  have hne : ∀ k, gv.ownBlock = some k → k ≠ fb := fun k hk => by have := own_ge hG hk; omega
  have hfi : Fi (wr.alloc o) fb v0 sv gv m met (fun i => if i ∈ S then some gb else fo i) := hM.fi.same (heap_alloc_old _ _ hM.fi.lt)
  have hfi' : Fi w' fb v0 sv gv m met (fun i => if i ∈ S then some gb else fo i) := hfi.same (hg.block fb hfi.lt (fun e => hne fb e.symm rfl))
  have hG2 : (wr.alloc o).ownsRow (fb + 1) 59 1 gv gs.length (gs.map pv) := (row_same hG fun k hk => hM.exc.block k (ownb_typ hG hk).lt (hne k hk)).alloc o
  have e1 : Exv wr w' := (Exv.of ((Below.refl _ _).alloc (Nat.le_refl _) o)).trans (Exv.grown hG2 hg (.inr rfl))
  have e2 : Exv wr (w'.setCell ⟨fb, 27, none⟩ v') := e1.set (.inl hfi'.typ) _ _
  have x1 : Exc (fun b => b = fb ∨ fb < b ∧ Typ w b 59) w (wr.alloc o) := (hM.exc.mono fun b e => .inl e).alloc o
  have x2 : Exc (fun b => b = fb ∨ fb < b ∧ Typ w b 59) w w' := by
    refine ⟨hg.os.trans x1.os, hg.tape.trans x1.tape, hg.output.trans x1.output, Nat.le_trans x1.size hg.size, fun b hb hn => ?_⟩
    exact (hg.block b (Nat.lt_of_lt_of_le hb x1.size) (fun e => hn (.inr ⟨own_ge hG e.symm, ownb_typ hG e.symm⟩))).trans (x1.block b hb hn)
  refine ⟨hfi', hfi'.setGroups v', row_same (by rw [List.map_append, List.length_append]; exact hown) (fun k hk => heap_setCell_other _ _ _ _ (by have := own_ge hown hk; show k ≠ fb; omega)), fun i h => h.keep e2, x2.set (.inl (.inl rfl)) _ _⟩
end Go.Proofs.YtbbnchodchgioaaDoor

/- The program's has. -/
namespace Go.Proofs.YtbbnchodchgioaaDoor
open Go.RowKit
set_option linter.unusedVariables false

theorem cast_div (m n : Nat) : (m : Int) / 2 ^ n = ((m / 2 ^ n : Nat) : Int) := by rw [Int.natCast_ediv, Int.natCast_pow]; rfl
theorem bit_and (m n : Nat) (h : m < 2251799813685248) : bits .and .u64 ((m : Int) / 2 ^ n) 1 = (((m / 2 ^ n) % 2 : Nat) : Int) := by
  have e := cast_div m n
  have hd : m / 2 ^ n ≤ m := Nat.div_le_self _ _
  have := bits_and_u64_nat (m / 2 ^ n) 1 (by omega) (by omega)
  rw [e]
  rw [Nat.and_one_is_mod] at this
  exact this

set_option maxRecDepth 100000 in
set_option maxHeartbeats 2000000 in
theorem has_any (f : Nat → Nat) (P : Pid → Prop) (x y : Int) (w : World) (hb : Bits f P) :
    Calls Tryd.prog 66 #[setV f, .agg #[.int .i64 x, .int .i64 y]] w fun e w' => (∃ q, e = .returned (.bool q) ∧ (q = true ↔ P (x, y))) ∧ Below w.heap.size w w' := by
  have iv := fun w => ivid_any x y w
  have D := ((Below.refl w.heap.size w).alloc (Nat.le_refl _) (.cells #[.int .u64 (f 0), .int .u64 (f 1), .int .u64 (f 2), .int .u64 (f 3), .int .u64 (f 4)] 56)).alloc (by simp) (.cells #[.int .i64 x, .int .i64 y] 25)
  unfold setV
  by_cases hok : idB x y = true
  · obtain ⟨pr, nr, he, hpr, hnr⟩ := ok_nat (a := (x, y)) hok
    obtain ⟨rfl, rfl⟩ := Prod.mk.inj he
    rw [hok] at iv
    have hS : Set5 (w.alloc (.cells #[.int .u64 (f 0), .int .u64 (f 1), .int .u64 (f 2), .int .u64 (f 3), .int .u64 (f 4)] 56)) w.heap.size f := heap_alloc_new w _
    have hS : Set5 ((w.alloc (.cells #[.int .u64 (f 0), .int .u64 (f 1), .int .u64 (f 2), .int .u64 (f 3), .int .u64 (f 4)] 56)).alloc (.cells #[.int .i64 pr, .int .i64 nr] 25)) w.heap.size f := (Below.heap_alloc _ _ _ (by simp)).trans hS
    have c0 := hS.cell hpr
    have hI := heap_alloc_at (w.alloc (.cells #[.int .u64 (f 0), .int .u64 (f 1), .int .u64 (f 2), .int .u64 (f 3), .int .u64 (f 4)] 56)) (.cells #[.int .i64 (pr : Int), .int .i64 (nr : Int)] 25) (w.heap.size + 1) (by simp)
    obtain ⟨b0, b1, _, _⟩ := blk2 hI
    have hm : f pr < 2251799813685248 := hb.lt hpr
    have ba := bit_and (f pr) nr hm
    have hbit : Hid ((f pr).testBit nr = true ↔ P ((pr : Int), (nr : Int))) := Lib.hid (hb.bit pr nr hpr)
    have i5 : (pr : Int) < 5 := by omega
    have n64 : (nr : Int) ≤ 64 := by omega
    have nn : (nr : Int).toNat = nr := by omega
    clear hok he hb hS hI
    go_enter Tryd.func66, Tryd.ntmps66
    go_upto_region 1 with fail
    obtain ⟨W, hW⟩ : ∃ W, (w.alloc (.cells #[.int .u64 (f 0), .int .u64 (f 1), .int .u64 (f 2), .int .u64 (f 3), .int .u64 (f 4)] 56)).alloc (.cells #[.int .i64 (pr : Int), .int .i64 (nr : Int)] 25) = W := ⟨_, rfl⟩
    rw [hW] at c0 b0 b1 D ⊢
    have D := Lib.hid D
    clear hW
    refine wp_region_held_drew (S := fun w' => w'.cell? ⟨w.heap.size + 1, 0, none⟩ = some (.int .i64 pr) ∧ w'.cell? ⟨w.heap.size + 1, 1, none⟩ = some (.int .i64 nr) ∧ w'.cell? ⟨w.heap.size, pr, none⟩ = some (.int .u64 (f pr)) ∧ Below W.heap.size W w') (by kernel_rfl) ⟨b0, b1, c0, Below.drew (Below.refl _ _)⟩ (fun hHeld => ?_)
    refine wpAnyH_take (i := 0) (oi := ⟨some 5, _, _, _, _, _⟩) (v := ?_) rfl (by kernel_rfl) (by kernel_rfl) (by kernel_rfl) (fun _ _ _ h => h) (Or.inl ⟨by rfl, ?_⟩) (by assumption) ?_
    rotate_left 1
    · intro w hSw; (try dsimp only at hSw); go_simp; try (with_reducible rfl)
    try simp only [Act.put, List.setIfInBounds_toArray, List.set_cons_zero, List.set_cons_succ]
    refine wpAnyH_ready (rs := [1]) (by kernel_rfl) (by simp) ?_
    refine AllReadyH.cons (o := ⟨some 6, _, _, _, _, _⟩) rfl (fun K hK => ?_) AllReadyH.nil
    go_simp
    refine (iv _).mono ?_
    rintro e w1 ⟨rfl, hb⟩
    go_wp2_with fail
    refine hK.out _ _ ?_ (fun hHeld2 => ?_)
    · exact ⟨cell_later hb hHeld.1, cell_later hb hHeld.2.1, cell_later hb hHeld.2.2.1, hHeld.2.2.2.trans (hb.mono hHeld.2.2.2.size)⟩
    clear hK K hHeld hb
    have hHeld := hHeld2
    clear hHeld2
    try simp only [Act.put, List.setIfInBounds_toArray, List.set_cons_zero, List.set_cons_succ]
    refine wpAnyH_take (i := 2) (oi := ⟨some 7, _, _, _, _, _⟩) (v := ?_) rfl (by kernel_rfl) (by kernel_rfl) (by kernel_rfl) (fun _ _ _ h => h) (Or.inl ⟨by rfl, ?_⟩) (by assumption) ?_
    rotate_left 1
    · intro w hSw; (try dsimp only at hSw); go_simp; try (with_reducible rfl)
    try simp only [Act.put, List.setIfInBounds_toArray, List.set_cons_zero, List.set_cons_succ]
    refine wpAnyH_take (i := 3) (oi := ⟨some 8, _, _, _, _, _⟩) (v := ?_) rfl (by kernel_rfl) (by kernel_rfl) (by kernel_rfl) (fun _ _ _ h => h) (Or.inl ⟨by rfl, ?_⟩) (by assumption) ?_
    rotate_left 1
    · intro w hSw; (try dsimp only at hSw); go_simp; try (with_reducible rfl)
    try simp only [Act.put, List.setIfInBounds_toArray, List.set_cons_zero, List.set_cons_succ]
    refine wpAnyH_take (i := 4) (oi := ⟨some 9, _, _, _, _, _⟩) (v := ?_) rfl (by kernel_rfl) (by kernel_rfl) (by kernel_rfl) (fun _ _ _ h => h) (Or.inl ⟨by rfl, ?_⟩) (by assumption) ?_
    rotate_left 1
    · intro w hSw; (try dsimp only at hSw); go_simp; try (with_reducible rfl)
    try simp only [Act.put, List.setIfInBounds_toArray, List.set_cons_zero, List.set_cons_succ]
    refine wpAnyH_take (i := 5) (oi := ⟨some 10, _, _, _, _, _⟩) (v := ?_) rfl (by kernel_rfl) (by kernel_rfl) (by kernel_rfl) (fun _ _ _ h => h) (Or.inl ⟨by rfl, ?_⟩) (by assumption) ?_
    rotate_left 1
    · intro w hSw; (try dsimp only at hSw); go_simp; try (with_reducible rfl)
    try simp only [Act.put, List.setIfInBounds_toArray, List.set_cons_zero, List.set_cons_succ]
    refine wpAnyH_take (i := 6) (oi := ⟨some 11, _, _, _, _, _⟩) (v := ?_) rfl (by kernel_rfl) (by kernel_rfl) (by kernel_rfl) (fun _ _ _ h => h) (Or.inl ⟨by rfl, ?_⟩) (by assumption) ?_
    rotate_left 1
    · intro w hSw; (try dsimp only at hSw); go_simp; try (with_reducible rfl)
    try simp only [Act.put, List.setIfInBounds_toArray, List.set_cons_zero, List.set_cons_succ]
    refine wpAnyH_take (i := 7) (oi := ⟨some 12, _, _, _, _, _⟩) (v := ?_) rfl (by kernel_rfl) (by kernel_rfl) (by kernel_rfl) (fun _ _ _ h => h) (Or.inl ⟨by rfl, ?_⟩) (by assumption) ?_
    rotate_left 1
    · intro w hSw; (try dsimp only at hSw); go_simp; try (with_reducible rfl)
    try simp only [Act.put, List.setIfInBounds_toArray, List.set_cons_zero, List.set_cons_succ]
    refine wpAnyH_take (i := 8) (oi := ⟨some 13, _, _, _, _, _⟩) (v := ?_) rfl (by kernel_rfl) (by kernel_rfl) (by kernel_rfl) (fun _ _ _ h => h) (Or.inl ⟨by rfl, ?_⟩) (by assumption) ?_
    rotate_left 1
    · intro w hSw; (try dsimp only at hSw); go_simp; try (with_reducible rfl)
    try simp only [Act.put, List.setIfInBounds_toArray, List.set_cons_zero, List.set_cons_succ]
    refine wpAnyH_take (i := 9) (oi := ⟨some 14, _, _, _, _, _⟩) (v := ?_) rfl (by kernel_rfl) (by kernel_rfl) (by kernel_rfl) (fun _ _ _ h => h) (Or.inl ⟨by rfl, ?_⟩) (by assumption) ?_
    rotate_left 1
    · intro w hSw; (try dsimp only at hSw); go_simp; try (with_reducible rfl)
    try simp only [Act.put, List.setIfInBounds_toArray, List.set_cons_zero, List.set_cons_succ]
    refine wpAnyH_take (i := 10) (oi := ⟨some 15, _, _, _, _, _⟩) (v := ?_) rfl (by kernel_rfl) (by kernel_rfl) (by kernel_rfl) (fun _ _ _ h => h) (Or.inl ⟨by rfl, ?_⟩) (by assumption) ?_
    rotate_left 1
    · intro w hSw; (try dsimp only at hSw); go_simp; try (with_reducible rfl)
    try simp only [Act.put, List.setIfInBounds_toArray, List.set_cons_zero, List.set_cons_succ]
    refine wpAnyH_take (i := 11) (oi := ⟨some 16, _, _, _, _, _⟩) (v := ?_) rfl (by kernel_rfl) (by kernel_rfl) (by kernel_rfl) (fun _ _ _ h => h) (Or.inl ⟨by rfl, ?_⟩) (by assumption) ?_
    rotate_left 1
    · intro w hSw; (try dsimp only at hSw); go_simp; try (with_reducible rfl)
    try simp only [Act.put, List.setIfInBounds_toArray, List.set_cons_zero, List.set_cons_succ]
    refine wpAnyH_take (i := 12) (oi := ⟨some 17, _, _, _, _, _⟩) (v := ?_) rfl (by kernel_rfl) (by kernel_rfl) (by kernel_rfl) (fun _ _ _ h => h) (Or.inl ⟨by rfl, ?_⟩) (by assumption) ?_
    rotate_left 1
    · intro w hSw; (try dsimp only at hSw); go_simp; try (with_reducible rfl)
    try simp only [Act.put, List.setIfInBounds_toArray, List.set_cons_zero, List.set_cons_succ]
    refine wpAnyH_take (i := 13) (oi := ⟨some 4, _, _, _, _, _⟩) (v := ?_) rfl (by kernel_rfl) (by kernel_rfl) (by kernel_rfl) (fun _ _ _ h => h) (Or.inl ⟨by rfl, ?_⟩) (by assumption) ?_
    rotate_left 1
    · intro w hSw; (try dsimp only at hSw); go_simp; try (with_reducible rfl)
    try simp only [Act.put, List.setIfInBounds_toArray, List.set_cons_zero, List.set_cons_succ]
    refine wpAnyH_done (by kernel_rfl) ?_ _
    try simp only [Act.put, List.setIfInBounds_toArray, List.set_cons_zero, List.set_cons_succ]
    have D1 := Lib.hid (bstep D.out hHeld.2.2.2)
    clear hHeld D
    go_wp2_with fail
    go_ret
    refine ⟨⟨_, rfl, ?_⟩, D1.out⟩
    rw [← hbit.out, Nat.testBit_eq_decide_div_mod_eq]
    simp only [decide_eq_true_eq]
    obtain ⟨z, hz⟩ : ∃ z : Nat, f pr / 2 ^ nr = z := ⟨_, rfl⟩
    have e : ((f pr : Nat) : Int) / 2 ^ nr = (z : Int) := by rw [← hz]; exact cast_div _ _
    rw [e, hz]
    clear e hz ba
    rw [beq_iff_eq]
    omega
  · have hn : ¬ P (x, y) := fun hp => hok (hb.ok _ hp)
    rw [show idB x y = false by simpa using hok] at iv
    have hI := heap_alloc_at (w.alloc (.cells #[.int .u64 (f 0), .int .u64 (f 1), .int .u64 (f 2), .int .u64 (f 3), .int .u64 (f 4)] 56)) (.cells #[.int .i64 x, .int .i64 y] 25) (w.heap.size + 1) (by simp)
    obtain ⟨b0, b1, _, _⟩ := blk2 hI
    clear hb hok hI
    go_enter Tryd.func66, Tryd.ntmps66
    go_upto_region 1 with fail
    obtain ⟨W, hW⟩ : ∃ W, (w.alloc (.cells #[.int .u64 (f 0), .int .u64 (f 1), .int .u64 (f 2), .int .u64 (f 3), .int .u64 (f 4)] 56)).alloc (.cells #[.int .i64 x, .int .i64 y] 25) = W := ⟨_, rfl⟩
    rw [hW] at b0 b1 D ⊢
    have D := Lib.hid D
    clear hW
    refine wp_region_held_drew (S := fun w' => w'.cell? ⟨w.heap.size + 1, 0, none⟩ = some (.int .i64 x) ∧ w'.cell? ⟨w.heap.size + 1, 1, none⟩ = some (.int .i64 y) ∧ Below W.heap.size W w') (by kernel_rfl) ⟨b0, b1, Below.drew (Below.refl _ _)⟩ (fun hHeld => ?_)
    refine wpAnyH_take (i := 0) (oi := ⟨some 5, _, _, _, _, _⟩) (v := ?_) rfl (by kernel_rfl) (by kernel_rfl) (by kernel_rfl) (fun _ _ _ h => h) (Or.inl ⟨by rfl, ?_⟩) (by assumption) ?_
    rotate_left 1
    · intro w hSw; (try dsimp only at hSw); go_simp; try (with_reducible rfl)
    try simp only [Act.put, List.setIfInBounds_toArray, List.set_cons_zero, List.set_cons_succ]
    refine wpAnyH_ready (rs := [1]) (by kernel_rfl) (by simp) ?_
    refine AllReadyH.cons (o := ⟨some 6, _, _, _, _, _⟩) rfl (fun K hK => ?_) AllReadyH.nil
    go_simp
    refine (iv _).mono ?_
    rintro e w1 ⟨rfl, hb⟩
    go_wp2_with fail
    refine hK.out _ _ ?_ (fun hHeld2 => ?_)
    · exact ⟨cell_later hb hHeld.1, cell_later hb hHeld.2.1, hHeld.2.2.trans (hb.mono hHeld.2.2.size)⟩
    clear hK K hHeld hb
    have hHeld := hHeld2
    clear hHeld2
    try simp only [Act.put, List.setIfInBounds_toArray, List.set_cons_zero, List.set_cons_succ]
    refine wpAnyH_take (i := 2) (oi := ⟨some 7, _, _, _, _, _⟩) (v := ?_) rfl (by kernel_rfl) (by kernel_rfl) (by kernel_rfl) (fun _ _ _ h => h) (Or.inl ⟨by rfl, ?_⟩) (by assumption) ?_
    rotate_left 1
    · intro w hSw; (try dsimp only at hSw); go_simp; try (with_reducible rfl)
    try simp only [Act.put, List.setIfInBounds_toArray, List.set_cons_zero, List.set_cons_succ]
    refine wpAnyH_take (i := 3) (oi := ⟨some 8, _, _, _, _, _⟩) (v := undef) rfl (by kernel_rfl) (by kernel_rfl) (by kernel_rfl) (fun _ _ _ h => h) (Or.inr ⟨by rfl, rfl⟩) (by assumption) ?_
    try simp only [Act.put, List.setIfInBounds_toArray, List.set_cons_zero, List.set_cons_succ]
    refine wpAnyH_take (i := 4) (oi := ⟨some 9, _, _, _, _, _⟩) (v := undef) rfl (by kernel_rfl) (by kernel_rfl) (by kernel_rfl) (fun _ _ _ h => h) (Or.inr ⟨by rfl, rfl⟩) (by assumption) ?_
    try simp only [Act.put, List.setIfInBounds_toArray, List.set_cons_zero, List.set_cons_succ]
    refine wpAnyH_take (i := 5) (oi := ⟨some 10, _, _, _, _, _⟩) (v := undef) rfl (by kernel_rfl) (by kernel_rfl) (by kernel_rfl) (fun _ _ _ h => h) (Or.inr ⟨by rfl, rfl⟩) (by assumption) ?_
    try simp only [Act.put, List.setIfInBounds_toArray, List.set_cons_zero, List.set_cons_succ]
    refine wpAnyH_take (i := 6) (oi := ⟨some 11, _, _, _, _, _⟩) (v := undef) rfl (by kernel_rfl) (by kernel_rfl) (by kernel_rfl) (fun _ _ _ h => h) (Or.inr ⟨by rfl, rfl⟩) (by assumption) ?_
    try simp only [Act.put, List.setIfInBounds_toArray, List.set_cons_zero, List.set_cons_succ]
    refine wpAnyH_take (i := 7) (oi := ⟨some 12, _, _, _, _, _⟩) (v := undef) rfl (by kernel_rfl) (by kernel_rfl) (by kernel_rfl) (fun _ _ _ h => h) (Or.inr ⟨by rfl, rfl⟩) (by assumption) ?_
    try simp only [Act.put, List.setIfInBounds_toArray, List.set_cons_zero, List.set_cons_succ]
    refine wpAnyH_take (i := 8) (oi := ⟨some 13, _, _, _, _, _⟩) (v := undef) rfl (by kernel_rfl) (by kernel_rfl) (by kernel_rfl) (fun _ _ _ h => h) (Or.inr ⟨by rfl, rfl⟩) (by assumption) ?_
    try simp only [Act.put, List.setIfInBounds_toArray, List.set_cons_zero, List.set_cons_succ]
    refine wpAnyH_take (i := 9) (oi := ⟨some 14, _, _, _, _, _⟩) (v := undef) rfl (by kernel_rfl) (by kernel_rfl) (by kernel_rfl) (fun _ _ _ h => h) (Or.inr ⟨by rfl, rfl⟩) (by assumption) ?_
    try simp only [Act.put, List.setIfInBounds_toArray, List.set_cons_zero, List.set_cons_succ]
    refine wpAnyH_take (i := 10) (oi := ⟨some 15, _, _, _, _, _⟩) (v := undef) rfl (by kernel_rfl) (by kernel_rfl) (by kernel_rfl) (fun _ _ _ h => h) (Or.inr ⟨by rfl, rfl⟩) (by assumption) ?_
    try simp only [Act.put, List.setIfInBounds_toArray, List.set_cons_zero, List.set_cons_succ]
    refine wpAnyH_take (i := 11) (oi := ⟨some 16, _, _, _, _, _⟩) (v := undef) rfl (by kernel_rfl) (by kernel_rfl) (by kernel_rfl) (fun _ _ _ h => h) (Or.inr ⟨by rfl, rfl⟩) (by assumption) ?_
    try simp only [Act.put, List.setIfInBounds_toArray, List.set_cons_zero, List.set_cons_succ]
    refine wpAnyH_take (i := 12) (oi := ⟨some 17, _, _, _, _, _⟩) (v := ?_) rfl (by kernel_rfl) (by kernel_rfl) (by kernel_rfl) (fun _ _ _ h => h) (Or.inl ⟨by rfl, ?_⟩) (by assumption) ?_
    rotate_left 1
    · intro w hSw; (try dsimp only at hSw); go_simp; try (with_reducible rfl)
    try simp only [Act.put, List.setIfInBounds_toArray, List.set_cons_zero, List.set_cons_succ]
    refine wpAnyH_take (i := 13) (oi := ⟨some 4, _, _, _, _, _⟩) (v := ?_) rfl (by kernel_rfl) (by kernel_rfl) (by kernel_rfl) (fun _ _ _ h => h) (Or.inl ⟨by rfl, ?_⟩) (by assumption) ?_
    rotate_left 1
    · intro w hSw; (try dsimp only at hSw); go_simp; try (with_reducible rfl)
    try simp only [Act.put, List.setIfInBounds_toArray, List.set_cons_zero, List.set_cons_succ]
    refine wpAnyH_done (by kernel_rfl) ?_ _
    try simp only [Act.put, List.setIfInBounds_toArray, List.set_cons_zero, List.set_cons_succ]
    have D1 := Lib.hid (bstep D.out hHeld.2.2)
    clear hHeld D
    go_wp2_with fail
    go_ret
    exact ⟨⟨_, rfl, by simpa using hn⟩, D1.out⟩
end Go.Proofs.YtbbnchodchgioaaDoor
