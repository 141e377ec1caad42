/- Texts laid together. -/
import Derived.Test.YtfcjhojkfchccaaDoorC07
import Derived.Test.YtfcjhojkfchccaaDoorC08
import Derived.Test.YtfcjhojkfchccaaDoorC09
import Derived.Deep.DeepCutAuto
import Derived.Deep.RegionWith
import Derived.Maps.AppendAt
/- The draw of an entry and of answers: l91Answers. -/
namespace Go.Proofs.YtfcjhojkfchccaaDoor
open Go.RowKit
set_option linter.unusedVariables false

theorem OwnP.at0D {w : World} {b : Nat} {u : Value} {C : List Pid} (h : OwnP w b u C) : ∀ i, i < C.length → w.cell? ⟨b, 0 + i * 2, none⟩ = some (.int .i64 (C.getD i nop).1) ∧ w.cell? ⟨b, 0 + i * 2 + 1, none⟩ = some (.int .i64 (C.getD i nop).2) := fun i hi => by
  rw [Nat.zero_add]; exact h.cell i hi
/-- What stands in a round once the copy has been made. -/
structure AnS (r B T eb m : Nat) (w4 : World) (vo : Value) (LL : EL) (wx : World) (Y : En) (uy : Value) (yb : Nat) : Prop where
  bx : wx.heap[eb]? = some (.cells #[.int .i64 Y.id.1, .int .i64 Y.id.2, .int .i64 Y.bal, .int .i64 Y.st, .int .i64 Y.k, .int .i64 Y.key, .int .i64 Y.v, .int .i64 Y.seq, uy] 29 (0, 0))
  ids : OwnP wx yb uy Y.deps
  yT : T ≤ yb
  eT : T ≤ eb
  ne : yb ≠ eb
  er : ∀ W : World, (∀ b, B ≤ b → b < T → W.heap[b]? = wx.heap[b]?) → ER W B vo LL
  TS : T ≤ wx.heap.size
  BT : B ≤ T
  rd : Rd wx r m
  kp : Keep B r w4 wx
section
variable {r B T eb m m' : Nat} {w4 : World} {vo : Value} {LL : EL} {wx w' : World} {Y : En} {uy : Value} {yb : Nat}
theorem AnS.keep (h : AnS r B T eb m w4 vo LL wx Y uy yb) (hr : r < B) (hrd : Rd w' r m') (hk : Keep wx.heap.size r wx w') : AnS r B T eb m' w4 vo LL w' Y uy yb :=
  ⟨(hk.block eb (lt_of_heap h.bx) (by have := h.eT; have := h.BT; omega)).trans h.bx, h.ids.same (hk.block yb h.ids.lt (by have := h.yT; have := h.BT; omega)), h.yT, h.eT, h.ne, fun W hW => h.er W (fun b h1 h2 => (hW b h1 h2).trans (hk.block b (by have := h.TS; omega) (by omega))), by have := h.TS; have := hk.size; omega, h.BT, hrd, h.kp.trans (hk.mono (by have := h.BT; have := h.TS; omega))⟩
theorem AnS.low (h : AnS r B T eb m w4 vo LL wx Y uy yb) (hr : r < B) (hb : Below wx.heap.size wx w') : AnS r B T eb m w4 vo LL w' Y uy yb :=
  h.keep hr (h.rd.kept ⟨hb.os, hb.tape, hb.output, hb.size, fun k hk => hb.block k (by have := h.rd.lt; omega)⟩) (Keep.of_below hb)
theorem AnS.st (h : AnS r B T eb m w4 vo LL wx Y uy yb) (hr : r < B) (z : Int) : AnS r B T eb m w4 vo LL (wx.setCell ⟨eb, 3, none⟩ (.int .i64 z)) { Y with st := z } uy yb := by
  have e := heap_setCell_same wx eb 3 _ _ (.int .i64 z) h.bx
  simp only [List.setIfInBounds_toArray, List.set_cons_zero, List.set_cons_succ] at e
  have ho : ∀ c, c ≠ eb → (wx.setCell ⟨eb, 3, none⟩ (.int .i64 z)).heap[c]? = wx.heap[c]? := fun c hc => heap_setCell_other _ _ _ _ hc
  exact ⟨e, h.ids.same (ho yb h.ne), h.yT, h.eT, h.ne, fun W hW => h.er W (fun b h1 h2 => (hW b h1 h2).trans (ho b (by have := h.eT; omega))), by have := h.TS; simpa using this, h.BT, h.rd.setCell (p := ⟨eb, 3, none⟩) (by have := h.eT; have := h.BT; show r < eb; omega) _, h.kp.setCell (p := ⟨eb, 3, none⟩) (by have := h.eT; have := h.BT; show B ≤ eb; omega) _⟩
theorem AnS.sq (h : AnS r B T eb m w4 vo LL wx Y uy yb) (hr : r < B) (z : Int) : AnS r B T eb m w4 vo LL (wx.setCell ⟨eb, 7, none⟩ (.int .i64 z)) { Y with seq := z } uy yb := by
  have e := heap_setCell_same wx eb 7 _ _ (.int .i64 z) h.bx
  simp only [List.setIfInBounds_toArray, List.set_cons_zero, List.set_cons_succ] at e
  have ho : ∀ c, c ≠ eb → (wx.setCell ⟨eb, 7, none⟩ (.int .i64 z)).heap[c]? = wx.heap[c]? := fun c hc => heap_setCell_other _ _ _ _ hc
  exact ⟨e, h.ids.same (ho yb h.ne), h.yT, h.eT, h.ne, fun W hW => h.er W (fun b h1 h2 => (hW b h1 h2).trans (ho b (by have := h.eT; omega))), by have := h.TS; simpa using this, h.BT, h.rd.setCell (p := ⟨eb, 7, none⟩) (by have := h.eT; have := h.BT; show r < eb; omega) _, h.kp.setCell (p := ⟨eb, 7, none⟩) (by have := h.eT; have := h.BT; show B ≤ eb; omega) _⟩
theorem AnS.dp (h : AnS r B T eb m w4 vo LL wx Y uy yb) (hr : r < B) {D : List Pid} {u2 : Value} {b2 : Nat} (hO : OwnP wx b2 u2 D) (hb : T ≤ b2) (hn : b2 ≠ eb) : AnS r B T eb m w4 vo LL (wx.setCell ⟨eb, 8, none⟩ u2) { Y with deps := D } u2 b2 := by
  have e := heap_setCell_same wx eb 8 _ _ (u2) h.bx
  simp only [List.setIfInBounds_toArray, List.set_cons_zero, List.set_cons_succ] at e
  have ho : ∀ c, c ≠ eb → (wx.setCell ⟨eb, 8, none⟩ (u2)).heap[c]? = wx.heap[c]? := fun c hc => heap_setCell_other _ _ _ _ hc
  exact ⟨e, hO.same (ho b2 hn), hb, h.eT, hn, fun W hW => h.er W (fun b h1 h2 => (hW b h1 h2).trans (ho b (by have := h.eT; omega))), by have := h.TS; simpa using this, h.BT, h.rd.setCell (p := ⟨eb, 8, none⟩) (by have := h.eT; have := h.BT; show r < eb; omega) _, h.kp.setCell (p := ⟨eb, 8, none⟩) (by have := h.eT; have := h.BT; show B ≤ eb; omega) _⟩
end
theorem EnO.hold1 {w w' : World} {B : Nat} {v : Value} {E : List En} (h : EnO w B v E) (hk : ∀ b, B ≤ b → w'.heap[b]? = w.heap[b]?) : EnO w' B v E := by
  obtain ⟨g, cap, cur, t, rfl, h0, hg, h1, h2, h3⟩ := h
  refine ⟨g, cap, cur, t, rfl, h0, (hk g h0).trans hg, h1, h2, fun i hi => ?_⟩
  obtain ⟨c, u', q1, q2, hc, ho⟩ := h3 i hi
  exact ⟨c, u', q1, q2, hc, ho.same (hk c q1)⟩
theorem EnO.holdD {w w' : World} {B : Nat} {v : Value} {E : List En} (h : EnO w B v E) (hk : ∀ b, B ≤ b → b < w.heap.size → w'.heap[b]? = w.heap[b]?) : EnO w' B v E := by
  obtain ⟨g, cap, cur, t, rfl, h0, hg, h1, h2, h3⟩ := h
  refine ⟨g, cap, cur, t, rfl, h0, (hk g h0 (lt_of_heap hg)).trans hg, h1, h2, fun i hi => ?_⟩
  obtain ⟨c, u', q1, q2, hc, ho⟩ := h3 i hi
  exact ⟨c, u', q1, q2, hc, ho.same (hk c q1 ho.lt)⟩
/-- What l91Answers leaves. -/
def DanP (r n : Nat) (w : World) (e : Ending) (w' : World) : Prop :=
  ∃ X u b E v B, e = .returned (.tuple #[env X u, v]) ∧ w.heap.size < b ∧ OwnP w' b u X.deps ∧ X.deps.length ≤ 3 ∧ w.heap.size < B ∧ EnO w' B v E ∧ E.length ≤ 4 ∧ Rd w' r (n + 60) ∧ Keep w.heap.size r w w'
theorem en_resDn (tm : Array Value) (w : World) (b : Nat) (v x0 x1 x2 x3 x4 x5 x6 x7 x8 : Value) (t : TypeId) (h1 : tm[2]? = some (.pointer (some ⟨b, 0, none⟩))) (h2 : tm[3]? = some v) (h : w.heap[b]? = some (.cells #[x0, x1, x2, x3, x4, x5, x6, x7, x8] t (0, 0))) :
    (results Tryd.f29 tm).run Tryd.prog w = .ok (.tuple #[.agg #[x0, x1, x2, x3, x4, x5, x6, x7, x8], v]) w := by
  obtain ⟨t0, t1, t2, t3, t4, t5, t6, t7, t8⟩ := nine_cells h
  simp [results, Tryd.results29, go_sem, h1, h2, t0, t1, t2, t3, t4, t5, t6, t7, t8]
set_option maxRecDepth 100000 in
set_option maxHeartbeats 16000000 in
theorem dan_any (r n : Nat) (w : World) (hrd : Rd w r n) (hn : n ≤ 500000000) :
    Calls Tryd.prog 29 #[.pointer (some ⟨r, 0, none⟩)] w (DanP r n w) := by
  have hrl := hrd.lt
  obtain ⟨i0, hi, hz0, hz1, hz2⟩ := info_parts info_en
  have Z := Lib.hid (heap_alloc_new w (.cells #[.int .i64 0, .int .i64 0, .int .i64 0, .int .i64 0, .int .i64 0, .int .i64 0, .int .i64 0, .int .i64 0, .slice none 0 0] 29))
  have K := Lib.hid ((Keep.refl w.heap.size r w).alloc (Nat.le_refl _) (.cells #[.int .i64 0, .int .i64 0, .int .i64 0, .int .i64 0, .int .i64 0, .int .i64 0, .int .i64 0, .int .i64 0, .slice none 0 0] 29))
  have R := Lib.hid (hrd.alloc (.cells #[.int .i64 0, .int .i64 0, .int .i64 0, .int .i64 0, .int .i64 0, .int .i64 0, .int .i64 0, .int .i64 0, .slice none 0 0] 29))
  clear hrd
  go_enter Tryd.func29, Tryd.ntmps29
  go_upto_region 1 with fail
  generalize w.alloc (.cells #[.int .i64 0, .int .i64 0, .int .i64 0, .int .i64 0, .int .i64 0, .int .i64 0, .int .i64 0, .int .i64 0, .slice none 0 0] 29) = w1 at Z K R ⊢
  go_wp2_with fail
  refine (pick_any 4 r _ _ R.out (by omega)).mono ?_
  rintro e w2 ⟨t, rfl, t0, t1', hr', hk'⟩
  have t1 := t1' (by omega)
  have hs := K.out.size
  have hzl := lt_of_heap Z.out
  replace Z := Lib.hid ((hk'.block w.heap.size hzl (by omega)).trans Z.out)
  replace K := Lib.hid (K.out.trans (hk'.mono hs))
  replace R := Lib.hid hr'
  clear t1' hr' hk' hs hzl
  go_wp2_with fail
  refine (entry_any r _ 0 (1 + t) _ R.out (by omega)).mono ?_
  rintro e w3 ⟨ib, X, u, hb, rfl, hid, hO, hd, hr', hk'⟩
  obtain ⟨ua, un, uc, rfl⟩ : ∃ ua un uc, u = .slice ua un uc := by obtain ⟨c, e, _⟩ := hO.shape; exact ⟨_, _, _, e⟩
  have hs := K.out.size
  have hzl := lt_of_heap Z.out
  replace Z := Lib.hid ((hk'.block w.heap.size hzl (by omega)).trans Z.out)
  replace K := Lib.hid (K.out.trans (hk'.mono hs))
  have BA := (Below.refl w3.heap.size w3).alloc (Nat.le_refl _) (.cells #[.int .i64 X.id.1, .int .i64 X.id.2, .int .i64 X.bal, .int .i64 X.st, .int .i64 X.k, .int .i64 X.key, .int .i64 X.v, .int .i64 X.seq, .slice ua un uc] 29)
  have hwib : w.heap.size < ib := by omega
  have hs3 := K.out.size
  have hk3 := hk'.size
  have hib := hO.lt
  have hzl3 := lt_of_heap Z.out
  replace Z := Lib.hid ((BA.block _ (lt_of_heap Z.out)).trans Z.out)
  replace K := Lib.hid (K.out.alloc hs3 (.cells #[.int .i64 X.id.1, .int .i64 X.id.2, .int .i64 X.bal, .int .i64 X.st, .int .i64 X.k, .int .i64 X.key, .int .i64 X.v, .int .i64 X.seq, .slice ua un uc] 29))
  replace R := Lib.hid (hr'.alloc (.cells #[.int .i64 X.id.1, .int .i64 X.id.2, .int .i64 X.bal, .int .i64 X.st, .int .i64 X.k, .int .i64 X.key, .int .i64 X.v, .int .i64 X.seq, .slice ua un uc] 29))
  have A := Lib.hid (heap_alloc_new w3 (.cells #[.int .i64 X.id.1, .int .i64 X.id.2, .int .i64 X.bal, .int .i64 X.st, .int .i64 X.k, .int .i64 X.key, .int .i64 X.v, .int .i64 X.seq, .slice ua un uc] 29))
  have hI := Lib.hid (hO.up BA hO.lt)
  have hob : w.heap.size < w3.heap.size := hzl3
  have hibo : ib < w3.heap.size := hib
  clear hid hO hr' hk' hs hzl BA hs3 hib hzl3
  unfold env
  go_upto_region 2 with fail
  obtain ⟨ob, hobe⟩ : ∃ c, Hid (w3.heap.size = c) := ⟨_, Lib.hid rfl⟩
  rw [hobe.out] at A hob hibo ⊢
  generalize w3.alloc (.cells #[.int .i64 X.id.1, .int .i64 X.id.2, .int .i64 X.bal, .int .i64 X.st, .int .i64 X.k, .int .i64 X.key, .int .i64 X.v, .int .i64 X.seq, .slice ua un uc] 29) = w4 at Z K R A hI ⊢
  clear hobe
  go_wp2_with fail
  refine (pick_any 12 r _ _ R.out (by omega)).mono ?_
  rintro e w5 ⟨q, rfl, q0, q1', hr', hk'⟩
  have q1 := q1' (by omega)
  have hs := K.out.size
  have hol := lt_of_heap A.out
  have hzl := lt_of_heap Z.out
  replace Z := Lib.hid ((hk'.block w.heap.size hzl (by omega)).trans Z.out)
  replace A := Lib.hid ((hk'.block ob hol (by omega)).trans A.out)
  replace hI := Lib.hid (hI.out.same (hk'.block ib hI.out.lt (by omega)))
  replace K := Lib.hid (K.out.trans (hk'.mono hs))
  replace R := Lib.hid hr'
  clear q1' hr' hk' hs hol hzl
  go_upto_if 17 with (fail)
  go_cut [] (fun wx => ∃ st', Hid (wx.heap[ob]? = some (.cells #[.int .i64 X.id.1, .int .i64 X.id.2, .int .i64 X.bal, .int .i64 st', .int .i64 X.k, .int .i64 X.key, .int .i64 X.v, .int .i64 X.seq, .slice ua un uc] 29 (0, 0))) ∧ Hid (OwnP wx ib (.slice ua un uc) X.deps) ∧ Hid (wx.heap[w.heap.size]? = some (.cells #[.int .i64 0, .int .i64 0, .int .i64 0, .int .i64 0, .int .i64 0, .int .i64 0, .int .i64 0, .int .i64 0, .slice none 0 0] 29 (0, 0))) ∧ Hid (Rd wx r (n + 25)) ∧ Hid (Keep w.heap.size r w wx))
  case first =>
    by_cases hq : q = 0
    · subst hq
      go_wp2_with fail
      go_meet
      exact ⟨X.st, A, hI, Z, Lib.hid (R.out.more (by omega)), K⟩
    · have hq0 : 0 < q := by omega
      obtain ⟨⟨y0, y1, y2, y3, y4, y5, y6, y7, y8⟩, ⟨f0, f1, f2, f3, f4, f5, f6, f7, f8⟩, yl⟩ := nine_all A.out
      have e := heap_setCell_same w5 ob 3 _ _ (.int .i64 1) A.out
      simp only [List.setIfInBounds_toArray, List.set_cons_zero, List.set_cons_succ] at e
      have e := Lib.hid e
      go_wp2_with fail
      go_meet
      exact ⟨1, e, Lib.hid (hI.out.same (heap_setCell_other _ _ _ _ (by show ib ≠ ob; omega))), Lib.hid ((heap_setCell_other _ _ _ _ (by show w.heap.size ≠ ob; omega)).trans Z.out), Lib.hid ((R.out.setCell (p := ⟨ob, 3, none⟩) (by show r < ob; omega) _).more (by omega)), Lib.hid (K.out.setCell (p := ⟨ob, 3, none⟩) (by show w.heap.size ≤ ob; omega) _)⟩
  case rest =>
    clear A hI Z R K
    obtain ⟨st', A, hI, Z, R, K⟩ := hcut
    obtain ⟨⟨xi1, xi2⟩, xb, xt, xk, xy, xv, xs, XD⟩ := X
    dsimp only at A hI hd hibo ⊢
    obtain ⟨X, hX⟩ : ∃ Y : En, Y = ⟨(xi1, xi2), xb, st', xk, xy, xv, xs, XD⟩ := ⟨_, rfl⟩
    have A0 : wc.heap[ob]? = some (.cells #[.int .i64 X.id.1, .int .i64 X.id.2, .int .i64 X.bal, .int .i64 X.st, .int .i64 X.k, .int .i64 X.key, .int .i64 X.v, .int .i64 X.seq, .slice ua un uc] 29 (0, 0)) := by rw [hX]; exact A.out
    have I0 : OwnP wc ib (.slice ua un uc) X.deps := by rw [hX]; exact hI.out
    have hd0 : X.deps.length ≤ 3 := by rw [hX]; exact hd
    clear A hI hd hX
    have A := Lib.hid A0
    have hI := Lib.hid I0
    have hd := hd0
    clear A0 I0 hd0
    have hs := K.out.size
    have hzl := lt_of_heap Z.out
    have hol := lt_of_heap A.out
    have hil := hI.out.lt
    have ER0 := Lib.hid (er_new wc wc.heap.size (Nat.le_refl _))
    have BA := (Below.refl wc.heap.size wc).alloc (Nat.le_refl _) (.cells #[] 29)
    have A1 := Lib.hid ((BA.block ob hol).trans A.out)
    have I1 := Lib.hid (hI.out.up BA hil)
    have Z1 := Lib.hid ((BA.block _ hzl).trans Z.out)
    have K1 := Lib.hid (K.out.alloc hs (.cells #[] 29))
    have R1 := Lib.hid (R.out.alloc (.cells #[] 29))
    obtain ⟨B, hB⟩ : ∃ B, Hid (wc.heap.size = B) := ⟨_, Lib.hid rfl⟩
    rw [hB.out] at hs hzl hol hil ER0
    have hBw : B ≤ (wc.alloc (.cells #[] 29)).heap.size := by rw [← hB.out]; exact BA.size
    clear A hI Z K R BA
    go_upto_region 5 with fail
    rw [hB.out]
    generalize wc.alloc (.cells #[] 29) = w6 at A1 I1 Z1 K1 R1 ER0 hBw ⊢
    go_wp2_with fail
    refine (pick_any 5 r _ _ R1.out (by omega)).mono ?_
    rintro e w4 ⟨nn, rfl, nn0, nn1', hr', hk'⟩
    have nn1 := nn1' (by omega)
    have hob2 : ob < B := hol
    have ER1 := Lib.hid (ER0.out.same (fun b h1 h2 => hk'.block b h2 (by omega)))
    have A := Lib.hid ((hk'.block ob (by omega) (by omega)).trans A1.out)
    have hI := Lib.hid (I1.out.same (hk'.block ib (by omega) (by omega)))
    have Z := Lib.hid ((hk'.block _ (by omega) (by omega)).trans Z1.out)
    have K4 := Lib.hid (K1.out.trans (hk'.mono (by have := K1.out.size; omega)))
    have R4 := Lib.hid hr'
    have hsB : B ≤ w4.heap.size := Nat.le_trans hBw hk'.size
    clear nn1' hr' hk' ER0 A1 I1 Z1 K1 R1 hB
    obtain ⟨nn, rfl⟩ := Int.eq_ofNat_of_zero_le nn0
    have hnn : nn < 5 := by omega
    have hobB : ob < B := hob2
    have hrB : r < B := by omega
    go_upto_region 7 with fail
    go_loopw [5, 7] (fun v i wr => ∃ (k : Nat) (LL : EL), k ≤ nn ∧ i = .int .i64 k ∧ Hid (LL.length = k) ∧ Hid (ER wr B v LL) ∧ Hid (Rd wr r (n + 30 + 3 * k)) ∧ Hid (Keep B r w4 wr)) (fun _ i _ => nn - (intOf i).toNat)
    case atStart => exact ⟨0, [], Nat.zero_le _, rfl, Lib.hid rfl, ER1, Lib.hid (R4.out.more (by omega)), Lib.hid (Keep.refl _ _ _)⟩
    case round =>
      clear ER1 R4
      obtain ⟨k, LL, hk, rfl, hLl, hER, hRd, hKp⟩ := hrel
      by_cases hlt : k < nn
      · have hER2 := hER.out
        have hs4 := hKp.out.size
        have A2 := Lib.hid ((hKp.out.block ob (by have := hobB; omega) (by omega)).trans A.out)
        have I2 := Lib.hid (hI.out.same (hKp.out.block ib hil (by omega)))
        obtain ⟨vg, vcp, hv, vg0, vg1, _, _⟩ := hER2.shape
        replace hv := Lib.hid hv
        have cp := fun W (hb : Below wr.heap.size wr W) => copy_at X.id.1 X.id.2 X.bal X.st X.k X.key X.v X.seq X.deps (.slice ua un uc) W (I2.out.read.up hb (Nat.le_refl _))
        obtain ⟨⟨y0, y1, y2, y3, y4, y5, y6, y7, y8⟩, ⟨f0, f1, f2, f3, f4, f5, f6, f7, f8⟩, yl⟩ := nine_all A2.out
        go_wp2_with fail
        refine (cp _ (Below.refl _ _)).mono ?_
        rintro e w5 ⟨⟨u5c, rfl, O5⟩, B5⟩
        obtain ⟨yb, hyb, O5⟩ := O5.own (by omega)
        obtain ⟨ycp, rfl⟩ : ∃ c, u5c = .slice (some ⟨yb, 0, none⟩) X.deps.length c := by obtain ⟨c, e, _⟩ := O5.shape; exact ⟨_, e⟩
        have BA := (Below.refl w5.heap.size w5).alloc (Nat.le_refl _) (.cells #[.int .i64 X.id.1, .int .i64 X.id.2, .int .i64 X.bal, .int .i64 X.st, .int .i64 X.k, .int .i64 X.key, .int .i64 X.v, .int .i64 X.seq, .slice (some ⟨yb, 0, none⟩) X.deps.length ycp] 29)
        have hs5 := B5.size
        have S : Hid (AnS r B wr.heap.size w5.heap.size (n + 30 + 3 * k) w4 u5 LL (w5.alloc (.cells #[.int .i64 X.id.1, .int .i64 X.id.2, .int .i64 X.bal, .int .i64 X.st, .int .i64 X.k, .int .i64 X.key, .int .i64 X.v, .int .i64 X.seq, .slice (some ⟨yb, 0, none⟩) X.deps.length ycp] 29)) X (.slice (some ⟨yb, 0, none⟩) X.deps.length ycp) yb) := Lib.hid
          ⟨heap_alloc_new _ _, O5.up BA O5.lt, hyb, hs5, by have := O5.lt; omega, fun W hW => hER2.same (fun b h1 h2 => (hW b h1 h2).trans ((BA.block b (by omega)).trans (B5.block b h2))), by have := BA.size; omega, by omega, hRd.out.kept (by have := (bstep B5 BA); exact ⟨this.os, this.tape, this.output, this.size, fun k hk => this.block k (by omega)⟩), hKp.out.trans ((Keep.of_below (bstep B5 BA)).mono (by omega))⟩
        clear y0 y1 y2 y3 y4 y5 y6 y7 y8 f0 f1 f2 f3 f4 f5 f6 f7 f8 yl B5 BA O5 hyb cp I2 A2 hER2
        go_upto_region 10 with fail
        generalize w5.heap.size = eb at S ⊢
        generalize w5.alloc (.cells #[.int .i64 X.id.1, .int .i64 X.id.2, .int .i64 X.bal, .int .i64 X.st, .int .i64 X.k, .int .i64 X.key, .int .i64 X.v, .int .i64 X.seq, .slice (some ⟨yb, 0, none⟩) X.deps.length ycp] 29) = w6 at S ⊢
        go_wp2_with fail
        refine (pick_any 5 r _ _ S.out.rd (by omega)).mono ?_
        rintro e w7 ⟨z, rfl, z0, z1', hr', hk'⟩
        have z1 := z1' (by omega)
        replace S := Lib.hid (S.out.keep hrB hr' hk')
        clear z1' hr' hk' hs5
        go_upto_if 31 with (fail)
        go_cut [] (fun wx => ∃ Y uy yb, Hid (AnS r B wr.heap.size eb (n + 30 + 3 * k + 2) w4 u5 LL wx Y uy yb))
        case first =>
          by_cases hz : z = 0
          · subst hz
            obtain ⟨⟨y0, y1, y2, y3, y4, y5, y6, y7, y8⟩, ⟨f0, f1, f2, f3, f4, f5, f6, f7, f8⟩, yl⟩ := nine_all S.out.bx
            go_upto_region 12 with fail
            obtain ⟨sq, hsq⟩ : ∃ z, wrap64 (X.seq + 1) = z := ⟨_, rfl⟩
            rw [hsq]
            replace S := Lib.hid (S.out.sq hrB sq)
            clear y0 y1 y2 y3 y4 y5 y6 y7 y8 f0 f1 f2 f3 f4 f5 f6 f7 f8 yl
            generalize w7.setCell ⟨eb, 7, none⟩ (.int .i64 sq) = w8 at S ⊢
            obtain ⟨⟨y0, y1, y2, y3, y4, y5, y6, y7, y8⟩, ⟨f0, f1, f2, f3, f4, f5, f6, f7, f8⟩, yl⟩ := nine_all S.out.bx
            go_region_with (first
              | (go_at_call 41; (with_reducible refine (pick_any _ r _ _ ((S.out.low hrB (Below.drew (Below.refl _ _))).rd) (by omega)).mono ?_); rintro e w9 ⟨j, rfl, j0, j1', hr', hk'⟩; have j1 := j1' (by omega); have S3 := Lib.hid ((S.out.low hrB (Below.drew (Below.refl _ _))).keep hrB hr' hk'); clear y0 y1 y2 y3 y4 y5 y6 y7 y8 f0 f1 f2 f3 f4 f5 f6 f7 f8 yl j1' hr' hk'; obtain ⟨⟨y0, y1, y2, y3, y4, y5, y6, y7, y8⟩, ⟨f0, f1, f2, f3, f4, f5, f6, f7, f8⟩, yl⟩ := nine_all S3.out.bx)
              | (go_at_call 61; have h0 := (show OwnP w9 yb (.slice (some ⟨yb, 0, none⟩) X.deps.length ycp) X.deps from S3.out.ids); have h1 := (fun x y => sput_at yb 0 ycp X.deps x y w9 h0.lt (by omega) h0.at0D); (with_reducible refine (h1 _ _).mono ?_); clear h0 h1; rintro e w10 ⟨b2, u2, hb2, rfl, O2, hb⟩; obtain ⟨pn2, pc2, rfl⟩ : ∃ n c, u2 = .slice (some ⟨b2, 0, none⟩) n c := (by obtain ⟨c, e, _⟩ := O2.shape; exact ⟨_, _, e⟩); have S5 := Lib.hid (S3.out.low hrB hb); have hl5 := hb.size; have hS3 := S3.out.TS; clear y0 y1 y2 y3 y4 y5 y6 y7 y8 f0 f1 f2 f3 f4 f5 f6 f7 f8 yl hb; obtain ⟨⟨y0, y1, y2, y3, y4, y5, y6, y7, y8⟩, ⟨f0, f1, f2, f3, f4, f5, f6, f7, f8⟩, yl⟩ := nine_all S5.out.bx))
            all_goals
              have S6 := Lib.hid (S5.out.dp hrB O2 (by omega) (by have := lt_of_heap S3.out.bx; omega))
              go_wp2_with fail
              go_meet
              exact ⟨_, _, _, Lib.hid S6.out⟩
          · have hzb : (z == 0) = false := by simpa using hz
            go_wp2_with fail
            go_meet
            exact ⟨_, _, _, Lib.hid (S.out.keep hrB (S.out.rd.more (by omega)) (Keep.refl _ _ _))⟩
        case rest =>
          obtain ⟨Y, uy, yb2, S2⟩ := hcut
          clear S
          go_wp2_with fail
          refine (pick_any 40 r _ _ S2.out.rd (by omega)).mono ?_
          rintro e w9 ⟨t, rfl, t0, t1', hr', hk'⟩
          have t1 := t1' (by omega)
          replace S2 := Lib.hid (S2.out.keep hrB hr' hk')
          clear t1' hr' hk'
          go_upto_if 46 with (fail)
          go_cut [] (fun wx => ∃ Y uy yb, Hid (AnS r B wr.heap.size eb (n + 30 + 3 * k + 3) w4 u5 LL wx Y uy yb))
          case first =>
            by_cases ht : t = 0
            · subst ht
              obtain ⟨⟨y0, y1, y2, y3, y4, y5, y6, y7, y8⟩, ⟨f0, f1, f2, f3, f4, f5, f6, f7, f8⟩, yl⟩ := nine_all S2.out.bx
              have S3 := Lib.hid (S2.out.st hrB 2)
              go_wp2_with fail
              go_meet
              exact ⟨_, _, _, Lib.hid S3.out⟩
            · have htb : (t == 0) = false := by simpa using ht
              go_wp2_with fail
              go_meet
              exact ⟨_, _, _, S2⟩
          case rest =>
            obtain ⟨Y, uy, yb3, S⟩ := hcut
            clear S2
            obtain ⟨ya, yn, yc, rfl⟩ : ∃ ua un uc, uy = .slice ua un uc := by obtain ⟨c, e, _⟩ := S.out.ids.shape; exact ⟨_, _, _, e⟩
            obtain ⟨⟨y0, y1, y2, y3, y4, y5, y6, y7, y8⟩, ⟨f0, f1, f2, f3, f4, f5, f6, f7, f8⟩, yl⟩ := nine_all S.out.bx
            have E5 := Lib.hid (S.out.er _ (fun _ _ _ => rfl))
            have hPr := Lib.hid E5.out.row
            rw [hLl.out] at hPr
            have hsz : B ≤ wc.heap.size := by have := S.out.TS; have := S.out.BT; omega
            go_wp2_with (at_builtin; refine wpList_append_own_at _ rfl _ _ 30 rfl B 29 i0 (.agg #[.int .i64 0, .int .i64 0, .int .i64 0, .int .i64 0, .int .i64 0, .int .i64 0, .int .i64 0, .int .i64 0, .slice none 0 0]) 9 88 Tryd.underlying30 hi hz0 hz1 hz2 rfl (by decide) _ k (flatE LL) rfl (hPr.out.alloc _) ⟨wc.heap.size, 0, none⟩ 1 1 [.int .i64 Y.id.1, .int .i64 Y.id.2, .int .i64 Y.bal, .int .i64 Y.st, .int .i64 Y.k, .int .i64 Y.key, .int .i64 Y.v, .int .i64 Y.seq, .slice ya yn yc] rfl rfl ?fc1 ?fc2 ?fc3 ?fc4 ?fc5 ?_)
            case fc1 => exact nine_srcE _ _ _ _ _ _ _ _ _ _ _ _ (by simp)
            case fc2 => exact nine_oneE _ _ _ _ _ _ _ _ _ _ _
            case fc3 => unfold maxLen; omega
            case fc4 => omega
            case fc5 => first | omega | (simp; omega)
            intro v' w' hown' hgrow hnil hat
            have hx : ∃ b, B ≤ b ∧ u5.ownBlock ≠ some b ∧ OwnP wc b (.slice ya yn yc) Y.deps := ⟨yb3, by have := S.out.yT; have := S.out.BT; omega, fun e => by have e2 : vg = yb3 := (by rw [hv.out] at e; simpa [Value.ownBlock] using e); have := S.out.yT; omega, S.out.ids⟩
            have E6 := Lib.hid (E5.out.put (x := (Y, .slice ya yn yc)) (by rw [hLl.out]; exact hown') hgrow (fun e => hnil e) hat hx)
            have B6 := Lib.hid (E5.out.grown hgrow hsz)
            have R6 := Lib.hid (S.out.rd.kept ⟨B6.out.os, B6.out.tape, B6.out.output, B6.out.size, fun k hk => B6.out.block k (by omega)⟩)
            have K6 := Lib.hid (S.out.kp.trans (Keep.of_below B6.out))
            clear hown' hgrow hnil hat hx hPr y0 y1 y2 y3 y4 y5 y6 y7 y8 f0 f1 f2 f3 f4 f5 f6 f7 f8 yl E5
            go_wp2_with fail
            go_roundw
            case rel => exact ⟨k + 1, LL ++ [(Y, .slice ya yn yc)], by omega, by go_num, Lib.hid (by rw [List.length_append, hLl.out]; rfl), E6, Lib.hid (R6.out.more (by omega)), K6⟩
            case measure => simp [intOf]; omega
      · obtain rfl : k = nn := by omega
        have hE := hER.out
        have hs4 := hKp.out.size
        have A2 := Lib.hid ((hKp.out.block ob (by have := hobB; omega) (by omega)).trans A.out)
        have I2 := hI.out.same (hKp.out.block ib hil (by omega))
        have Z2 := Lib.hid ((hKp.out.block w.heap.size (by omega) (by omega)).trans Z.out)
        have hEn := Lib.hid (hE.eno (by have := hLl.out; omega))
        have hEl : (LL.map Prod.fst).length = k := by rw [List.length_map]; exact hLl.out
        obtain ⟨⟨y0, y1, y2, y3, y4, y5, y6, y7, y8⟩, ⟨f0, f1, f2, f3, f4, f5, f6, f7, f8⟩, yl⟩ := nine_all A2.out
        obtain ⟨⟨z0, z1, z2, z3, z4, z5, z6, z7, z8⟩, ⟨g0, g1, g2, g3, g4, g5, g6, g7, g8⟩, zl⟩ := nine_all Z2.out

        go_wp2_with fail
        refine bodyPost_ret (en_resDn _ _ _ _ _ _ _ _ _ _ _ _ _ _ rfl rfl (put9_at (.int .i64 X.id.1) (.int .i64 X.id.2) (.int .i64 X.bal) (.int .i64 X.st) (.int .i64 X.k) (.int .i64 X.key) (.int .i64 X.v) (.int .i64 X.seq) (.slice ua un uc) Z2.out)) rfl ⟨X, _, ib, LL.map Prod.fst, _, B, rfl, by omega, I2.same (put9_other _ _ _ _ _ _ _ _ _ (by omega)), hd, by omega, hEn.out.hold1 (fun b hb => put9_other _ _ _ _ _ _ _ _ _ (by omega)), by rw [hEl]; omega, ?_, ?_⟩
        · exact (hRd.out.kept (put9_below _ _ _ _ _ _ _ _ _ (by omega))).more (by omega)
        · exact (K4.out.trans (hKp.out.mono (by omega))).trans (Keep.of_below (put9_below _ _ _ _ _ _ _ _ _ (Nat.le_refl _)))
end Go.Proofs.YtfcjhojkfchccaaDoor
