/- Texts laid together. -/
import Derived.Test.YtfcjhojkfchccaaDoorC10
import Derived.Test.YtfcjhojkfchccaaDoorC22
import Derived.Test.YtfcjhojkfchccaaDoorC25
import Derived.Test.YtfcjhojkfchccaaDoorC27
import Derived.Test.YtfcjhojkfchccaaDoorC30
import Derived.Test.YtfcjhojkfchccaaDoorC21
/- The draw of a number of replicas, an entry and answers: DrawPathOf. -/
namespace Go.Proofs.YtfcjhojkfchccaaDoor
open Go.RowKit
set_option linter.unusedVariables false

/-- What a draw of a number, of an entry and of answers leaves. -/
def DapP (w : World) (e : Ending) (w' : World) : Prop :=
  ∃ n X u E v, e = .returned (.tuple #[.int .i64 n, env X u, v]) ∧ Ids w' u X.deps ∧ X.deps.length ≤ 3 ∧ Ens w' v E ∧ E.length ≤ 4 ∧ Below w.heap.size w w'
theorem en_resDp (tm : Array Value) (w : World) (b : Nat) (n v x0 x1 x2 x3 x4 x5 x6 x7 x8 : Value) (t : TypeId) (h0 : tm[2]? = some n) (h1 : tm[3]? = some (.pointer (some ⟨b, 0, none⟩))) (h2 : tm[4]? = some v) (h : w.heap[b]? = some (.cells #[x0, x1, x2, x3, x4, x5, x6, x7, x8] t (0, 0))) :
    (results Tryd.f15 tm).run Tryd.prog w = .ok (.tuple #[n, .agg #[x0, x1, x2, x3, x4, x5, x6, x7, x8], v]) w := by
  obtain ⟨t0, t1, t2, t3, t4, t5, t6, t7, t8⟩ := nine_cells h
  simp [results, Tryd.results15, go_sem, h0, h1, h2, t0, t1, t2, t3, t4, t5, t6, t7, t8]
/-- What has been drawn. -/
structure DpS (w : World) (r ob ib B : Nat) (X : En) (u v : Value) (E : List En) (wx : World) : Prop where
  a : wx.heap[ob]? = some (.cells #[.int .i64 X.id.1, .int .i64 X.id.2, .int .i64 X.bal, .int .i64 X.st, .int .i64 X.k, .int .i64 X.key, .int .i64 X.v, .int .i64 X.seq, u] 29 (0, 0))
  z : wx.heap[w.heap.size]? = some (.cells #[.int .i64 0, .int .i64 0, .int .i64 0, .int .i64 0, .int .i64 0, .int .i64 0, .int .i64 0, .int .i64 0, .slice none 0 0] 29 (0, 0))
  ids : OwnP wx ib u X.deps
  en : EnO wx B v E
  zr : w.heap.size < r
  ro : r < ob
  ri : r < ib
  rB : r < B
  Bs : B ≤ wx.heap.size
  kp : Below w.heap.size w wx
section
variable {w : World} {r ob ib B : Nat} {X : En} {u v : Value} {E : List En} {wx w' : World}
theorem DpS.keep (h : DpS w r ob ib B X u v E wx) (hk : Keep wx.heap.size r wx w') : DpS w r ob ib B X u v E w' :=
  ⟨(hk.block ob (lt_of_heap h.a) (by have := h.ro; omega)).trans h.a, (hk.block _ (lt_of_heap h.z) (by have := h.zr; omega)).trans h.z, h.ids.same (hk.block ib h.ids.lt (by have := h.ri; omega)), h.en.holdD (fun b h1 h2 => hk.block b h2 (by have := h.rB; omega)), h.zr, h.ro, h.ri, h.rB, Nat.le_trans h.Bs hk.size, h.kp.trans ((hk.mono (by have := lt_of_heap h.z; omega)).below (by have := h.zr; omega))⟩
theorem DpS.done (h : DpS w r ob ib B X u v E wx) (n : Int) (x0 x1 x2 x3 x4 x5 x6 x7 x8 : Value) (hu : x8 = u) (e0 : .agg #[x0, x1, x2, x3, x4, x5, x6, x7, x8] = env X u) (hd : X.deps.length ≤ 3) (hE : E.length ≤ 4) (q : Bool) :
    DapP w (.returned (.tuple #[.int .i64 n, .agg #[x0, x1, x2, x3, x4, x5, x6, x7, x8], v])) (((((((((wx.setCell ⟨w.heap.size, 0, none⟩ x0).setCell ⟨w.heap.size, 1, none⟩ x1).setCell ⟨w.heap.size, 2, none⟩ x2).setCell ⟨w.heap.size, 3, none⟩ x3).setCell ⟨w.heap.size, 4, none⟩ x4).setCell ⟨w.heap.size, 5, none⟩ x5).setCell ⟨w.heap.size, 6, none⟩ x6).setCell ⟨w.heap.size, 7, none⟩ x7).setCell ⟨w.heap.size, 8, none⟩ x8) := by
  refine ⟨n, X, u, E, v, by rw [e0], (h.ids.same (put9_other _ _ _ _ _ _ _ _ _ (by have := h.zr; have := h.ri; omega))).read, hd, (h.en.hold1 (fun b hb => put9_other _ _ _ _ _ _ _ _ _ (by have := h.zr; have := h.rB; omega))).read, hE, h.kp.trans (put9_below _ _ _ _ _ _ _ _ _ (Nat.le_refl _))⟩
end
set_option maxRecDepth 100000 in
set_option maxHeartbeats 8000000 in
theorem dap_any (a : Option Addr) (len cap : Nat) (w : World) (hc : CodeIn w a len cap) (hcap : cap ≤ maxLen) :
    Calls Tryd.prog 15 #[.slice a len cap] w (DapP w) := by
  have al := (Below.refl w.heap.size w).alloc (Nat.le_refl _) (.cells #[.int .i64 0, .int .i64 0, .int .i64 0, .int .i64 0, .int .i64 0, .int .i64 0, .int .i64 0, .int .i64 0, .slice none 0 0] 29)
  have hc := Lib.hid (hc.up al)
  replace al := Lib.hid al
  have Z := Lib.hid (heap_alloc_new w (.cells #[.int .i64 0, .int .i64 0, .int .i64 0, .int .i64 0, .int .i64 0, .int .i64 0, .int .i64 0, .int .i64 0, .slice none 0 0] 29))
  go_enter Tryd.func15, Tryd.ntmps15
  go_wp2_with fail
  refine (open_any a len cap _ hc.out hcap).mono ?_
  rintro e w1 ⟨r, rfl, hr0, hr', hb'⟩
  have s1 : w.heap.size + 1 ≤ w1.heap.size := by simpa using hb'.size
  have hr0' : w.heap.size + 1 ≤ r := by simpa using hr0
  replace Z := Lib.hid ((hb'.block w.heap.size (by simp)).trans Z.out)
  have D1 : Hid (Below w.heap.size w w1) := Lib.hid (al.out.trans (hb'.mono (by simp)))
  have hr1 := Lib.hid hr'
  have hrl := hr'.lt
  clear hr' hb' hc al hr0
  go_wp2_with fail
  refine (dan_any r 0 _ hr1.out (by omega)).mono ?_
  rintro e w2 ⟨X, u, ib, E, v, B, rfl, hib, hO, hd, hB, hE, hEl, hr', hk'⟩
  obtain ⟨ua, un, uc, rfl⟩ : ∃ ua un uc, u = .slice ua un uc := by obtain ⟨c, e, _⟩ := hO.shape; exact ⟨_, _, _, e⟩
  obtain ⟨vg, vc, rfl⟩ : ∃ g c, v = .slice (some ⟨g, 0, none⟩) E.length c := by obtain ⟨g, c, _, _, e, _⟩ := hE; exact ⟨g, c, e⟩
  have s2 := hk'.size
  have hol := hO.lt
  replace Z := (hk'.block w.heap.size (by omega) (by omega)).trans Z.out
  have D2 := D1.out.trans ((hk'.mono (by omega)).below (B := w.heap.size) (by omega))
  have R := Lib.hid (hr'.alloc (.cells #[.int .i64 X.id.1, .int .i64 X.id.2, .int .i64 X.bal, .int .i64 X.st, .int .i64 X.k, .int .i64 X.key, .int .i64 X.v, .int .i64 X.seq, .slice ua un uc] 29))
  have BA := (Below.refl w2.heap.size w2).alloc (Nat.le_refl _) (.cells #[.int .i64 X.id.1, .int .i64 X.id.2, .int .i64 X.bal, .int .i64 X.st, .int .i64 X.k, .int .i64 X.key, .int .i64 X.v, .int .i64 X.seq, .slice ua un uc] 29)
  have hBs : B ≤ w2.heap.size := by obtain ⟨g, cap, cur, t, _, h0, hg, _⟩ := hE; have := lt_of_heap hg; omega
  have P := Lib.hid (show DpS w r w2.heap.size ib B X (.slice ua un uc) (.slice (some ⟨vg, 0, none⟩) E.length vc) E (w2.alloc (.cells #[.int .i64 X.id.1, .int .i64 X.id.2, .int .i64 X.bal, .int .i64 X.st, .int .i64 X.k, .int .i64 X.key, .int .i64 X.v, .int .i64 X.seq, .slice ua un uc] 29)) from
    ⟨heap_alloc_new w2 _, (BA.block _ (by omega)).trans Z, hO.up BA hol, hE.holdD (fun b _ h2 => BA.block b h2), by omega, by omega, by omega, by omega, Nat.le_trans hBs BA.size, bstep D2 BA⟩)
  clear Z D1 D2 hO hE hr' hk' hr1 BA hBs
  unfold env
  go_upto_region 3 with fail
  generalize w2.heap.size = ob at P ⊢
  generalize w2.alloc (.cells #[.int .i64 X.id.1, .int .i64 X.id.2, .int .i64 X.bal, .int .i64 X.st, .int .i64 X.k, .int .i64 X.key, .int .i64 X.v, .int .i64 X.seq, .slice ua un uc] 29) = w4 at P R ⊢
  go_wp2_with fail
  refine (pick_any 8 r _ _ R.out (by omega)).mono ?_
  rintro e w5 ⟨q, rfl, q0, q1', hr', hk'⟩
  replace P := Lib.hid (P.out.keep hk')
  replace R := Lib.hid hr'
  clear q1' hr' hk'
  have hrw : r < w5.heap.size := R.out.lt
  by_cases hq : q = 0
  · subst hq
    obtain ⟨⟨y0, y1, y2, y3, y4, y5, y6, y7, y8⟩, ⟨f0, f1, f2, f3, f4, f5, f6, f7, f8⟩, yl⟩ := nine_all P.out.a
    obtain ⟨⟨z0, z1, z2, z3, z4, z5, z6, z7, z8⟩, ⟨g0, g1, g2, g3, g4, g5, g6, g7, g8⟩, zl⟩ := nine_all P.out.z
    go_upto_region 4 with fail
    go_region_with (go_at_call 41; (with_reducible refine (pick_any _ r _ _ (R.out.kept (Below.drew (Below.refl _ _))) (by omega)).mono ?_); rintro e w3 ⟨j, rfl, j0, j1', hr', hk'⟩; have j1 := j1' (by omega); have P3 := Lib.hid ((P.out.keep (Keep.of_below (Below.drew (Below.refl _ _)))).keep hk'); clear y0 y1 y2 y3 y4 y5 y6 y7 y8 f0 f1 f2 f3 f4 f5 f6 f7 f8 yl z0 z1 z2 z3 z4 z5 z6 z7 z8 g0 g1 g2 g3 g4 g5 g6 g7 g8 zl j1' hr' hk'; obtain ⟨⟨y0, y1, y2, y3, y4, y5, y6, y7, y8⟩, ⟨f0, f1, f2, f3, f4, f5, f6, f7, f8⟩, yl⟩ := nine_all P3.out.a; obtain ⟨⟨z0, z1, z2, z3, z4, z5, z6, z7, z8⟩, ⟨g0, g1, g2, g3, g4, g5, g6, g7, g8⟩, zl⟩ := nine_all P3.out.z)
    all_goals
      go_wp2_with fail
      exact bodyPost_ret (en_resDp _ _ _ _ _ _ _ _ _ _ _ _ _ _ _ rfl rfl rfl (put9_at (.int .i64 X.id.1) (.int .i64 X.id.2) (.int .i64 X.bal) (.int .i64 X.st) (.int .i64 X.k) (.int .i64 X.key) (.int .i64 X.v) (.int .i64 X.seq) (.slice ua un uc) P3.out.z)) rfl (P3.out.done _ _ _ _ _ _ _ _ _ _ rfl rfl hd hEl true)
  · have hqb : (q == 0) = false := by simpa using hq
    obtain ⟨l, hl⟩ : ∃ l, Hid (E.length = l) := ⟨_, Lib.hid rfl⟩
    rw [hl.out] at P hEl ⊢
    obtain ⟨⟨y0, y1, y2, y3, y4, y5, y6, y7, y8⟩, ⟨f0, f1, f2, f3, f4, f5, f6, f7, f8⟩, yl⟩ := nine_all P.out.a
    obtain ⟨⟨z0, z1, z2, z3, z4, z5, z6, z7, z8⟩, ⟨g0, g1, g2, g3, g4, g5, g6, g7, g8⟩, zl⟩ := nine_all P.out.z
    go_upto_region 5 with fail
    go_region_with (go_at_call 41; (with_reducible refine (pick_any _ r _ _ (R.out.kept (Below.drew (Below.refl _ _))) (by omega)).mono ?_); rintro e w3 ⟨j, rfl, j0, j1', hr', hk'⟩; have j1 := j1' (by omega); have P3 := Lib.hid ((P.out.keep (Keep.of_below (Below.drew (Below.refl _ _)))).keep hk'); clear y0 y1 y2 y3 y4 y5 y6 y7 y8 f0 f1 f2 f3 f4 f5 f6 f7 f8 yl z0 z1 z2 z3 z4 z5 z6 z7 z8 g0 g1 g2 g3 g4 g5 g6 g7 g8 zl j1' hr' hk'; obtain ⟨⟨y0, y1, y2, y3, y4, y5, y6, y7, y8⟩, ⟨f0, f1, f2, f3, f4, f5, f6, f7, f8⟩, yl⟩ := nine_all P3.out.a; obtain ⟨⟨z0, z1, z2, z3, z4, z5, z6, z7, z8⟩, ⟨g0, g1, g2, g3, g4, g5, g6, g7, g8⟩, zl⟩ := nine_all P3.out.z)
    all_goals
      go_wp2_with fail
      all_goals exact bodyPost_ret (en_resDp _ _ _ _ _ _ _ _ _ _ _ _ _ _ _ rfl rfl rfl (put9_at (.int .i64 X.id.1) (.int .i64 X.id.2) (.int .i64 X.bal) (.int .i64 X.st) (.int .i64 X.k) (.int .i64 X.key) (.int .i64 X.v) (.int .i64 X.seq) (.slice ua un uc) P3.out.z)) rfl (P3.out.done _ _ _ _ _ _ _ _ _ _ rfl rfl hd (by rw [hl.out]; exact hEl) true)
end Go.Proofs.YtfcjhojkfchccaaDoor

/- The walk of FnPath. -/
namespace Go.Proofs.YtfcjhojkfchccaaDoor
open Go.RowKit
set_option linter.unusedVariables false

set_option maxRecDepth 100000 in
set_option maxHeartbeats 8000000 in
theorem path_any (a : Option Addr) (len cap : Nat) (w : World) (hc : CodeIn w a len cap) (hcap : cap ≤ maxLen) (hT : TabIn w) :
    Calls Tryd.prog 6 #[.slice a len cap] w fun e w' => e = .returned (.bool true) ∧ Below w.heap.size w w' := by
  have dn := dap_any a len cap w hc hcap
  by_cases hlen : 1048576 < len
  · go_enter Tryd.func6, Tryd.ntmps6
    go_wp2_with fail
    go_ret
    exact ⟨rfl, Below.refl _ _⟩
  · replace hT := Lib.hid hT
    go_enter Tryd.func6, Tryd.ntmps6
    go_wp2_with fail
    refine dn.mono ?_
    rintro e w1 ⟨n, X, u, E, v, rfl, hI, hd, hE, hl4, B⟩
    obtain ⟨ua, un, uc, rfl⟩ : ∃ ua un uc, u = .slice ua un uc := by obtain ⟨a, c, e, _⟩ := hI; exact ⟨a, _, c, e⟩
    obtain ⟨va, vc, rfl⟩ : ∃ a c, v = .slice a E.length c := by obtain ⟨a, c, e, _⟩ := hE; exact ⟨a, c, e⟩
    have BA := (Below.refl w1.heap.size w1).alloc (Nat.le_refl _) (.cells #[.int .i64 X.id.1, .int .i64 X.id.2, .int .i64 X.bal, .int .i64 X.st, .int .i64 X.k, .int .i64 X.key, .int .i64 X.v, .int .i64 X.seq, .slice ua un uc] 29)
    have A := Lib.hid (heap_alloc_new w1 (.cells #[.int .i64 X.id.1, .int .i64 X.id.2, .int .i64 X.bal, .int .i64 X.st, .int .i64 X.k, .int .i64 X.key, .int .i64 X.v, .int .i64 X.seq, .slice ua un uc] 29))
    have D := Lib.hid (bstep B BA)
    have I2 := Lib.hid (hI.up BA (Nat.le_refl _))
    have E2 := Lib.hid (hE.up BA (Nat.le_refl _))
    clear B BA hI hE dn
    unfold env
    go_upto_region 4 with fail
    generalize w1.heap.size = ob at A ⊢
    generalize w1.alloc (.cells #[.int .i64 X.id.1, .int .i64 X.id.2, .int .i64 X.bal, .int .i64 X.st, .int .i64 X.k, .int .i64 X.key, .int .i64 X.v, .int .i64 X.seq, .slice ua un uc] 29) = w2 at A D I2 E2 ⊢
    have ip := fun W (hb : Below w2.heap.size w2 W) => ipath_any n X (.slice ua un uc) (.slice va E.length vc) E W (I2.out.up hb (Nat.le_refl _)) (E2.out.up hb (Nat.le_refl _))
    have sp := fun W (hb : Below w2.heap.size w2 W) => spath_any n X (.slice ua un uc) (.slice va E.length vc) E W (I2.out.up hb (Nat.le_refl _)) (E2.out.up hb (Nat.le_refl _))
    unfold env at ip sp
    obtain ⟨R, hR⟩ : ∃ R, Hid (pathR n X E = R) := ⟨_, Lib.hid rfl⟩
    obtain ⟨l, hl⟩ : ∃ l, Hid (E.length = l) := ⟨_, Lib.hid rfl⟩
    simp only [hR.out, hl.out] at ip sp
    rw [hl.out] at E2 hl4 ⊢
    obtain ⟨⟨y0, y1, y2, y3, y4, y5, y6, y7, y8⟩, _, yl⟩ := nine_all A.out
    go_wp2_with fail
    refine (ip _ (Below.refl _ _)).mono ?_
    rintro e w3 ⟨rfl, B⟩
    have K := Lib.hid B
    have A3 := Lib.hid (bblk B (lt_of_heap A.out) A.out)
    clear B y0 y1 y2 y3 y4 y5 y6 y7 y8 yl ip
    obtain ⟨⟨y0, y1, y2, y3, y4, y5, y6, y7, y8⟩, _, yl⟩ := nine_all A3.out
    go_wp2_with fail
    refine (sp _ K.out).mono ?_
    rintro e w4 ⟨rfl, B⟩
    replace K := Lib.hid (bstep K.out B)
    have A4 := Lib.hid (bblk B (lt_of_heap A3.out) A3.out)
    clear B y0 y1 y2 y3 y4 y5 y6 y7 y8 yl sp A3
    have DK := Lib.hid (bstep D.out K.out)
    by_cases hone : R = 1
    · have hp := path_fast (n := n) (own := X) (A := E) (by rw [hR.out]; exact hone)
      subst hone
      obtain ⟨hn5, hAw, hall, hfa⟩ := hp
      rw [hl.out] at hfa
      have hfs : fastR n = (3 * n + 3) / 4 := if_pos hn5
      have fs := fun W => ifast_any n W
      obtain ⟨g, hg⟩ : ∃ g, Hid ((3 * n + 3) / 4 = g) := ⟨_, Lib.hid rfl⟩
      simp only [hfs, hg.out] at fs
      rw [hg.out] at hfa
      have haf := Lib.hid (ans_fast hAw hall)
      replace hall := Lib.hid hall
      have hTT := Lib.hid (TabIn.up hT.out DK.out (Nat.le_refl _))
      have I4 := Lib.hid (I2.out.up K.out (Nat.le_refl _))
      have E4 := Lib.hid (E2.out.up K.out (Nat.le_refl _))
      clear hfs hn5 hAw I2 E2 hT hR A K D
      replace A4 := Lib.hid A4.out
      go_upto_region 8 with fail
      go_upto_region 9 with fail
      go_loopw [8] (fun i wr => ∃ k : Nat, k ≤ l ∧ i = .int .i64 k ∧ Hid (Below w4.heap.size w4 wr)) (fun i _ => l - (intOf i).toNat)
      case atStart => exact ⟨0, Nat.zero_le _, rfl, Lib.hid (Below.refl _ _)⟩
      case round =>
        obtain ⟨k, hk, rfl, hnx⟩ := hrel
        have A5 := Lib.hid (bblk hnx.out (lt_of_heap A4.out) A4.out)
        by_cases hkl : k < l
        · have hkE : k < E.length := by rw [hl.out]; exact hkl
          obtain ⟨b, off, U, ha, hE⟩ : ∃ b off U, va = some ⟨b, off, none⟩ ∧ EnsAt w4 b off E U := by
            obtain ⟨a9, ca9, he9, _, _, h3⟩ := E4.out
            injection he9 with e1 _ _
            rcases h3 with h3 | ⟨b, off, U, ha, hE⟩
            · have := hl.out; omega
            · exact ⟨b, off, U, e1.trans ha, hE⟩
          subst ha
          · skip
            have hA := hE.up hnx.out (Nat.le_refl _)
            have hbl := hA.lt
            have hP := hA.at_ k hkE
            have hPI := (hE.at_ k hkE).ids
            obtain ⟨ya, yn, yc, hy⟩ : ∃ ua un uc, U k = .slice ua un uc := by obtain ⟨a, c, e, _⟩ := hP.ids; exact ⟨a, _, c, e⟩
            have hlk := List.all_eq_true.1 hall.out _ (enD_mem hkE)
            unfold likeB at hlk
            rw [decide_eq_true_eq] at hlk
            have q7 := hP.c7
            have q8 := hP.c8
            rw [hlk.1] at q7
            rw [hy] at q8 hPI
            rw [hlk.2] at hPI
            have si := fun W (hb : Below wr.heap.size wr W) => same_any (.slice ya yn yc) (.slice ua un uc) X.deps W (hPI.up (bstep hnx.out hb) (Nat.le_refl _)) (I4.out.up (bstep hnx.out hb) (Nat.le_refl _))
            clear hA hE hP hPI hy hlk fs
            obtain ⟨⟨y0, y1, y2, y3, y4, y5, y6, y7, y8⟩, _, yl⟩ := nine_all A5.out
            go_upto_region 11 with fail
            refine wp_region_held_drew (S := fun w' => w'.cell? ⟨ob, 7, none⟩ = some (.int .i64 X.seq) ∧ w'.cell? ⟨ob, 8, none⟩ = some (.slice ua un uc) ∧ w'.cell? ⟨b, off + k * 9 + 7, none⟩ = some (.int .i64 X.seq) ∧ w'.cell? ⟨b, off + k * 9 + 8, none⟩ = some (.slice ya yn yc) ∧ Below wr.heap.size wr w') (by kernel_rfl) ⟨y7, y8, q7, q8, Below.drew (Below.refl _ _)⟩ (fun hHeld => ?_)
            refine wpAnyH_take (i := 0) (oi := ⟨some 44, _, _, _, _, _⟩) (v := ?_) rfl (by kernel_rfl) (by kernel_rfl) (by kernel_rfl) (fun _ _ _ h => h) (Or.inl ⟨by rfl, ?_⟩) (by assumption) ?_
            rotate_left 1
            · intro w hSw; (try dsimp only at hSw); go_simp; try (with_reducible rfl)
            try simp only [Act.put, List.setIfInBounds_toArray, List.set_cons_zero, List.set_cons_succ]
            refine wpAnyH_take (i := 1) (oi := ⟨some 45, _, _, _, _, _⟩) (v := ?_) rfl (by kernel_rfl) (by kernel_rfl) (by kernel_rfl) (fun _ _ _ h => h) (Or.inl ⟨by rfl, ?_⟩) (by assumption) ?_
            rotate_left 1
            · intro w hSw; (try dsimp only at hSw); go_simp; try (with_reducible rfl)
            try simp only [Act.put, List.setIfInBounds_toArray, List.set_cons_zero, List.set_cons_succ]
            refine wpAnyH_take (i := 2) (oi := ⟨some 46, _, _, _, _, _⟩) (v := ?_) rfl (by kernel_rfl) (by kernel_rfl) (by kernel_rfl) (fun _ _ _ h => h) (Or.inl ⟨by rfl, ?_⟩) (by assumption) ?_
            rotate_left 1
            · intro w hSw; (try dsimp only at hSw); go_simp; try (with_reducible rfl)
            try simp only [Act.put, List.setIfInBounds_toArray, List.set_cons_zero, List.set_cons_succ]
            refine wpAnyH_take (i := 3) (oi := ⟨some 47, _, _, _, _, _⟩) (v := ?_) rfl (by kernel_rfl) (by kernel_rfl) (by kernel_rfl) (fun _ _ _ h => h) (Or.inl ⟨by rfl, ?_⟩) (by assumption) ?_
            rotate_left 1
            · intro w hSw; (try dsimp only at hSw); go_simp; try (with_reducible rfl)
            try simp only [Act.put, List.setIfInBounds_toArray, List.set_cons_zero, List.set_cons_succ]
            refine wpAnyH_take (i := 4) (oi := ⟨some 48, _, _, _, _, _⟩) (v := ?_) rfl (by kernel_rfl) (by kernel_rfl) (by kernel_rfl) (fun _ _ _ h => h) (Or.inl ⟨by rfl, ?_⟩) (by assumption) ?_
            rotate_left 1
            · intro w hSw; (try dsimp only at hSw); go_simp; try (with_reducible rfl)
            try simp only [Act.put, List.setIfInBounds_toArray, List.set_cons_zero, List.set_cons_succ]
            refine wpAnyH_take (i := 5) (oi := ⟨some 49, _, _, _, _, _⟩) (v := ?_) rfl (by kernel_rfl) (by kernel_rfl) (by kernel_rfl) (fun _ _ _ h => h) (Or.inl ⟨by rfl, ?_⟩) (by assumption) ?_
            rotate_left 1
            · intro w hSw; (try dsimp only at hSw); go_simp; try (with_reducible rfl)
            try simp only [Act.put, List.setIfInBounds_toArray, List.set_cons_zero, List.set_cons_succ]
            refine wpAnyH_take (i := 6) (oi := ⟨some 50, _, _, _, _, _⟩) (v := ?_) rfl (by kernel_rfl) (by kernel_rfl) (by kernel_rfl) (fun _ _ _ h => h) (Or.inl ⟨by rfl, ?_⟩) (by assumption) ?_
            rotate_left 1
            · intro w hSw; (try dsimp only at hSw); go_simp; try (with_reducible rfl)
            try simp only [Act.put, List.setIfInBounds_toArray, List.set_cons_zero, List.set_cons_succ]
            refine wpAnyH_take (i := 7) (oi := ⟨some 51, _, _, _, _, _⟩) (v := ?_) rfl (by kernel_rfl) (by kernel_rfl) (by kernel_rfl) (fun _ _ _ h => h) (Or.inl ⟨by rfl, ?_⟩) (by assumption) ?_
            rotate_left 1
            · intro w hSw; (try dsimp only at hSw); go_simp; try (with_reducible rfl)
            try simp only [Act.put, List.setIfInBounds_toArray, List.set_cons_zero, List.set_cons_succ]
            refine wpAnyH_take (i := 8) (oi := ⟨some 52, _, _, _, _, _⟩) (v := ?_) rfl (by kernel_rfl) (by kernel_rfl) (by kernel_rfl) (fun _ _ _ h => h) (Or.inl ⟨by rfl, ?_⟩) (by assumption) ?_
            rotate_left 1
            · intro w hSw; (try dsimp only at hSw); go_simp; try (with_reducible rfl)
            try simp only [Act.put, List.setIfInBounds_toArray, List.set_cons_zero, List.set_cons_succ]
            refine wpAnyH_take (i := 9) (oi := ⟨some 53, _, _, _, _, _⟩) (v := ?_) rfl (by kernel_rfl) (by kernel_rfl) (by kernel_rfl) (fun _ _ _ h => h) (Or.inl ⟨by rfl, ?_⟩) (by assumption) ?_
            rotate_left 1
            · intro w hSw; (try dsimp only at hSw); go_simp; try (with_reducible rfl)
            try simp only [Act.put, List.setIfInBounds_toArray, List.set_cons_zero, List.set_cons_succ]
            refine wpAnyH_take (i := 10) (oi := ⟨some 54, _, _, _, _, _⟩) (v := ?_) rfl (by kernel_rfl) (by kernel_rfl) (by kernel_rfl) (fun _ _ _ h => h) (Or.inl ⟨by rfl, ?_⟩) (by assumption) ?_
            rotate_left 1
            · intro w hSw; (try dsimp only at hSw); go_simp; try (with_reducible rfl)
            try simp only [Act.put, List.setIfInBounds_toArray, List.set_cons_zero, List.set_cons_succ]
            refine wpAnyH_take (i := 11) (oi := ⟨some 55, _, _, _, _, _⟩) (v := ?_) rfl (by kernel_rfl) (by kernel_rfl) (by kernel_rfl) (fun _ _ _ h => h) (Or.inl ⟨by rfl, ?_⟩) (by assumption) ?_
            rotate_left 1
            · intro w hSw; (try dsimp only at hSw); go_simp; try (with_reducible rfl)
            try simp only [Act.put, List.setIfInBounds_toArray, List.set_cons_zero, List.set_cons_succ]
            refine wpAnyH_take (i := 12) (oi := ⟨some 56, _, _, _, _, _⟩) (v := ?_) rfl (by kernel_rfl) (by kernel_rfl) (by kernel_rfl) (fun _ _ _ h => h) (Or.inl ⟨by rfl, ?_⟩) (by assumption) ?_
            rotate_left 1
            · intro w hSw; (try dsimp only at hSw); go_simp; try (with_reducible rfl)
            try simp only [Act.put, List.setIfInBounds_toArray, List.set_cons_zero, List.set_cons_succ]
            refine wpAnyH_take (i := 13) (oi := ⟨some 57, _, _, _, _, _⟩) (v := ?_) rfl (by kernel_rfl) (by kernel_rfl) (by kernel_rfl) (fun _ _ _ h => h) (Or.inl ⟨by rfl, ?_⟩) (by assumption) ?_
            rotate_left 1
            · intro w hSw; (try dsimp only at hSw); go_simp; try (with_reducible rfl)
            try simp only [Act.put, List.setIfInBounds_toArray, List.set_cons_zero, List.set_cons_succ]
            refine wpAnyH_take (i := 14) (oi := ⟨some 58, _, _, _, _, _⟩) (v := ?_) rfl (by kernel_rfl) (by kernel_rfl) (by kernel_rfl) (fun _ _ _ h => h) (Or.inl ⟨by rfl, ?_⟩) (by assumption) ?_
            rotate_left 1
            · intro w hSw; (try dsimp only at hSw); go_simp; try (with_reducible rfl)
            try simp only [Act.put, List.setIfInBounds_toArray, List.set_cons_zero, List.set_cons_succ]
            refine wpAnyH_take (i := 15) (oi := ⟨some 59, _, _, _, _, _⟩) (v := ?_) rfl (by kernel_rfl) (by kernel_rfl) (by kernel_rfl) (fun _ _ _ h => h) (Or.inl ⟨by rfl, ?_⟩) (by assumption) ?_
            rotate_left 1
            · intro w hSw; (try dsimp only at hSw); go_simp; try (with_reducible rfl)
            try simp only [Act.put, List.setIfInBounds_toArray, List.set_cons_zero, List.set_cons_succ]
            refine wpAnyH_ready (rs := [16]) (by kernel_rfl) (by simp) ?_
            refine AllReadyH.cons (o := ⟨some 60, _, _, _, _, _⟩) rfl (fun K hK => ?_) AllReadyH.nil
            go_simp
            with_reducible refine (si _ hHeld.2.2.2.2).mono ?_
            rintro e wq ⟨rfl, hb⟩
            go_wp2_with fail
            refine hK.out _ _ ?_ (fun hHeld2 => ?_)
            · exact ⟨cell_later hb hHeld.1, cell_later hb hHeld.2.1, cell_later hb hHeld.2.2.1, cell_later hb hHeld.2.2.2.1, hHeld.2.2.2.2.trans (hb.mono hHeld.2.2.2.2.size)⟩
            clear hK K hHeld hb
            have hHeld := hHeld2
            clear hHeld2
            try simp only [Act.put, List.setIfInBounds_toArray, List.set_cons_zero, List.set_cons_succ]
            refine wpAnyH_take (i := 17) (oi := ⟨some 61, _, _, _, _, _⟩) (v := ?_) rfl (by kernel_rfl) (by kernel_rfl) (by kernel_rfl) (fun _ _ _ h => h) (Or.inl ⟨by rfl, ?_⟩) (by assumption) ?_
            rotate_left 1
            · intro w hSw; (try dsimp only at hSw); go_simp; try (with_reducible rfl)
            try simp only [Act.put, List.setIfInBounds_toArray, List.set_cons_zero, List.set_cons_succ]
            refine wpAnyH_take (i := 18) (oi := ⟨some 62, _, _, _, _, _⟩) (v := ?_) rfl (by kernel_rfl) (by kernel_rfl) (by kernel_rfl) (fun _ _ _ h => h) (Or.inl ⟨by rfl, ?_⟩) (by assumption) ?_
            rotate_left 1
            · intro w hSw; (try dsimp only at hSw); go_simp; try (with_reducible rfl)
            try simp only [Act.put, List.setIfInBounds_toArray, List.set_cons_zero, List.set_cons_succ]
            refine wpAnyH_done (by kernel_rfl) ?_ _
            try simp only [Act.put, List.setIfInBounds_toArray, List.set_cons_zero, List.set_cons_succ]
            have H5 := Lib.hid hHeld.2.2.2.2
            clear hHeld
            go_wp2_with fail
            go_roundw
            case rel => exact ⟨k + 1, by omega, by go_num, Lib.hid (bstep hnx.out H5.out)⟩
            case measure => simp [intOf]; omega
        · obtain rfl : k = l := by omega
          have ia := iaj_any X (.slice ua un uc) (.slice va k vc) E wr (TabIn.up hTT.out hnx.out (Nat.le_refl _)) (I4.out.up hnx.out (Nat.le_refl _)) (E4.out.up hnx.out (Nat.le_refl _))
          unfold AjP at ia
          rw [haf.out] at ia
          dsimp only at ia
          unfold env at ia
          obtain ⟨⟨y0, y1, y2, y3, y4, y5, y6, y7, y8⟩, _, yl⟩ := nine_all A5.out
          go_wp2_with fail
          refine ia.mono ?_
          rintro e w6 ⟨u6, rfl, O6, B⟩
          obtain ⟨za, zn, zc, rfl⟩ : ∃ ua un uc, u6 = .slice ua un uc := by obtain ⟨a, c, e, _⟩ := O6.read; exact ⟨a, _, c, e⟩
          have BA := (Below.refl w6.heap.size w6).alloc (Nat.le_refl _) (.cells #[.int .i64 X.id.1, .int .i64 X.id.2, .int .i64 X.bal, .int .i64 X.st, .int .i64 X.k, .int .i64 X.key, .int .i64 X.v, .int .i64 X.seq, .slice za zn zc] 29)
          have G6 := Lib.hid (heap_alloc_new w6 (.cells #[.int .i64 X.id.1, .int .i64 X.id.2, .int .i64 X.bal, .int .i64 X.st, .int .i64 X.k, .int .i64 X.key, .int .i64 X.v, .int .i64 X.seq, .slice za zn zc] 29))
          have A6 := Lib.hid (bblk (bstep B BA) (lt_of_heap A5.out) A5.out)
          have H6 := Lib.hid (bstep hnx.out (bstep B BA))
          have I6 := Lib.hid (O6.read.up BA (Nat.le_refl _))
          clear y0 y1 y2 y3 y4 y5 y6 y7 y8 yl B BA O6 ia hTT hnx A5
          go_upto_region 14 with fail
          generalize w6.heap.size = xb at G6 ⊢
          generalize w6.alloc (.cells #[.int .i64 X.id.1, .int .i64 X.id.2, .int .i64 X.bal, .int .i64 X.st, .int .i64 X.k, .int .i64 X.key, .int .i64 X.v, .int .i64 X.seq, .slice za zn zc] 29) = w7 at G6 A6 H6 I6 ⊢
          have se := fun W (hb : Below w7.heap.size w7 W) => sameE_one X (.slice za zn zc) (.slice ua un uc) W (I6.out.up hb (Nat.le_refl _)) (I4.out.up (bstep H6.out hb) (Nat.le_refl _))
          unfold env at se
          obtain ⟨⟨y0, y1, y2, y3, y4, y5, y6, y7, y8⟩, _, yl⟩ := nine_all A6.out
          obtain ⟨⟨z0, z1, z2, z3, z4, z5, z6, z7, z8⟩, _, zl⟩ := nine_all G6.out
          go_wp2_with fail
          refine (se _ (Below.refl _ _)).mono ?_
          rintro e w8 ⟨rfl, B⟩
          have D8 := Lib.hid (bstep DK.out (bstep H6.out B))
          clear B y0 y1 y2 y3 y4 y5 y6 y7 y8 yl z0 z1 z2 z3 z4 z5 z6 z7 z8 zl
          go_wp2_with fail
          refine (fs _).mono ?_
          rintro e w' ⟨rfl, rfl⟩
          go_wp2_with fail
          go_ret
          exact ⟨rfl, D8.out⟩
    · have honeb : (R == 1) = false := by simpa using hone
      go_wp2_with fail
      go_ret
      exact ⟨rfl, DK.out⟩
end Go.Proofs.YtfcjhojkfchccaaDoor
