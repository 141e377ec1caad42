/- Texts laid together. -/
import Derived.Test.YtfcjhojkfchccaaDoorC10
/- The draw of an entry and answers, and where the answers lie. -/
namespace Go.Proofs.YtfcjhojkfchccaaDoor
open Go.RowKit
set_option linter.unusedVariables false

theorem EnO.atZ {w : World} {B : Nat} {v : Value} {E : List En} (h : EnO w B v E) : ∃ g c U, v = .slice (some ⟨g, 0, none⟩) E.length c ∧ E.length ≤ c ∧ EnsAt w g 0 E U := by
  obtain ⟨g, cap, cur, t, rfl, _, hg, h1, h2, h3⟩ := h
  have h' : ∀ i, ∃ u, i < E.length → EnC cur i (E.getD i en0) u ∧ Ids w u (E.getD i en0).deps := fun i => by
    by_cases hi : i < E.length
    · obtain ⟨b, u, _, _, hc, hO⟩ := h3 i hi
      exact ⟨u, fun _ => ⟨hc, hO.read⟩⟩
    · exact ⟨.slice none 0 0, fun hh => absurd hh hi⟩
  refine ⟨g, cap, fun i => Classical.choose (h' i), rfl, h1, lt_of_heap hg, fun i hi => ?_⟩
  obtain ⟨hc, hI⟩ := Classical.choose_spec (h' i) hi
  exact enc_at hg hc hI
/-- What a draw of an entry and of answers leaves. -/
def DajZ (w : World) (e : Ending) (w' : World) : Prop :=
  ∃ X u E g c U, e = .returned (.tuple #[env X u, .slice (some ⟨g, 0, none⟩) E.length c]) ∧ Ids w' u X.deps ∧ E.length ≤ c ∧ EnsAt w' g 0 E U ∧ E.length ≤ 4 ∧ Below w.heap.size w w'
theorem en_resDz (tm : Array Value) (w : World) (b : Nat) (v x0 x1 x2 x3 x4 x5 x6 x7 x8 : Value) (t : TypeId) (h1 : tm[2]? = some (.pointer (some ⟨b, 0, none⟩))) (h2 : tm[3]? = some v) (h : w.heap[b]? = some (.cells #[x0, x1, x2, x3, x4, x5, x6, x7, x8] t (0, 0))) :
    (results Tryd.f8 tm).run Tryd.prog w = .ok (.tuple #[.agg #[x0, x1, x2, x3, x4, x5, x6, x7, x8], v]) w := by
  obtain ⟨t0, t1, t2, t3, t4, t5, t6, t7, t8⟩ := nine_cells h
  simp [results, Tryd.results8, go_sem, h1, h2, t0, t1, t2, t3, t4, t5, t6, t7, t8]
set_option maxRecDepth 100000 in
set_option maxHeartbeats 8000000 in
theorem dajz_any (a : Option Addr) (len cap : Nat) (w : World) (hc : CodeIn w a len cap) (hcap : cap ≤ maxLen) :
    Calls Tryd.prog 8 #[.slice a len cap] w (DajZ w) := by
  have al := (Below.refl w.heap.size w).alloc (Nat.le_refl _) (.cells #[.int .i64 0, .int .i64 0, .int .i64 0, .int .i64 0, .int .i64 0, .int .i64 0, .int .i64 0, .int .i64 0, .slice none 0 0] 29)
  have hc := Lib.hid (hc.up al)
  replace al := Lib.hid al
  have Z := Lib.hid (heap_alloc_new w (.cells #[.int .i64 0, .int .i64 0, .int .i64 0, .int .i64 0, .int .i64 0, .int .i64 0, .int .i64 0, .int .i64 0, .slice none 0 0] 29))
  go_enter Tryd.func8, Tryd.ntmps8
  go_wp2_with fail
  refine (open_any a len cap _ hc.out hcap).mono ?_
  rintro e w1 ⟨r, rfl, hr0, hr', hb'⟩
  have s1 : w.heap.size + 1 ≤ w1.heap.size := by simpa using hb'.size
  have hr0' : w.heap.size + 1 ≤ r := by simpa using hr0
  replace Z := Lib.hid ((hb'.block w.heap.size (by simp)).trans Z.out)
  have D1 : Hid (Below w.heap.size w w1) := Lib.hid (al.out.trans (hb'.mono (by simp)))
  have hr1 := Lib.hid hr'
  have hrl := hr'.lt
  clear hr' hb' hc al hr0
  go_wp2_with fail
  refine (dan_any r 0 _ hr1.out (by omega)).mono ?_
  rintro e w2 ⟨X, u, ib, E, v, B, rfl, hib, hO, hd, hB, hE, hEl, hr', hk'⟩
  obtain ⟨ua, un, uc, rfl⟩ : ∃ ua un uc, u = .slice ua un uc := by obtain ⟨c, e, _⟩ := hO.shape; exact ⟨_, _, _, e⟩
  obtain ⟨vg, vc, rfl⟩ : ∃ g c, v = .slice (some ⟨g, 0, none⟩) E.length c := by obtain ⟨g, c, _, _, e, _⟩ := hE; exact ⟨g, c, e⟩
  have s2 := hk'.size
  replace Z := Lib.hid ((hk'.block w.heap.size (by omega) (by omega)).trans Z.out)
  have D2 := Lib.hid (D1.out.trans ((hk'.mono (by omega)).below (B := w.heap.size) (by omega)))
  have hO2 := Lib.hid (hO.same (put9_other (w := w2) (b := w.heap.size) (c := ib) (.int .i64 X.id.1) (.int .i64 X.id.2) (.int .i64 X.bal) (.int .i64 X.st) (.int .i64 X.k) (.int .i64 X.key) (.int .i64 X.v) (.int .i64 X.seq) (.slice ua un uc) (by omega)))
  have hE2 := Lib.hid (hE.hold1 (w' := (((((((((w2.setCell ⟨w.heap.size, 0, none⟩ (.int .i64 X.id.1)).setCell ⟨w.heap.size, 1, none⟩ (.int .i64 X.id.2)).setCell ⟨w.heap.size, 2, none⟩ (.int .i64 X.bal)).setCell ⟨w.heap.size, 3, none⟩ (.int .i64 X.st)).setCell ⟨w.heap.size, 4, none⟩ (.int .i64 X.k)).setCell ⟨w.heap.size, 5, none⟩ (.int .i64 X.key)).setCell ⟨w.heap.size, 6, none⟩ (.int .i64 X.v)).setCell ⟨w.heap.size, 7, none⟩ (.int .i64 X.seq)).setCell ⟨w.heap.size, 8, none⟩ (.slice ua un uc))) (fun b hb => put9_other _ _ _ _ _ _ _ _ _ (by omega)))
  obtain ⟨g9, c9, U, e9, hvc, hU⟩ := hE2.out.atZ
  injection e9 with e1 _ e3
  injection e1 with e1
  injection e1 with e1
  subst e1 e3
  replace hU := Lib.hid hU
  clear hO hE hE2 hr' hk' hr1 D1
  unfold env
  obtain ⟨⟨z0, z1, z2, z3, z4, z5, z6, z7, z8⟩, ⟨g0, g1, g2, g3, g4, g5, g6, g7, g8⟩, zl⟩ := nine_all Z.out
  go_wp2_with fail
  exact bodyPost_ret (en_resDz _ _ _ _ _ _ _ _ _ _ _ _ _ _ rfl rfl (put9_at (.int .i64 X.id.1) (.int .i64 X.id.2) (.int .i64 X.bal) (.int .i64 X.st) (.int .i64 X.k) (.int .i64 X.key) (.int .i64 X.v) (.int .i64 X.seq) (.slice ua un uc) Z.out)) rfl ⟨X, _, E, _, _, _, rfl, hO2.out.read, hvc, hU.out, hEl, D2.out.trans (put9_below _ _ _ _ _ _ _ _ _ (Nat.le_refl _))⟩
end Go.Proofs.YtfcjhojkfchccaaDoor
