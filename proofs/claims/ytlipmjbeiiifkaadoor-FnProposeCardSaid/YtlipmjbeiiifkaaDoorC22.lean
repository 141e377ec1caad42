/- Texts laid together. -/
import Derived.Test.YtlipmjbeiiifkaaDoorC21
import Derived.Test.YtlipmjbeiiifkaaDoorC03
import Derived.Test.YtlipmjbeiiifkaaDoorC23
import Derived.Test.YtlipmjbeiiifkaaDoorC18
import Derived.Test.YtlipmjbeiiifkaaDoorC11
import Derived.Test.YtlipmjbeiiifkaaDoorC20
import Derived.Deep.RegionHeld3
import Derived.Test.YtlipmjbeiiifkaaDoorC25
import Derived.Test.YtlipmjbeiiifkaaDoorC07
import Derived.Test.YtlipmjbeiiifkaaDoorC24
import Derived.Test.YtlipmjbeiiifkaaDoorC26
/- The model's l11Attrs, whatever entries there are. -/
namespace Go.Proofs.YtlipmjbeiiifkaaDoor
open Go.RowKit
set_option linter.unusedVariables false

set_option maxRecDepth 100000 in
set_option maxHeartbeats 2000000 in
theorem slat11_nil (a : Option Addr) (ca : Nat) (x y ck ckey cv : Int) (w : World) :
    Calls Tryd.prog 37 #[.slice a 0 ca, .agg #[.int .i64 x, .int .i64 y], .agg #[.int .i64 ck, .int .i64 ckey, .int .i64 cv]] w fun e w' => (∃ v, e = .returned (.tuple #[.int .i64 1, v]) ∧ Row w' w.heap.size v []) ∧ Below w.heap.size w w' := by
  have R0 := Lib.hid (row_new ((w.alloc (.cells #[.int .i64 x, .int .i64 y] 29)).alloc (.cells #[.int .i64 ck, .int .i64 ckey, .int .i64 cv] 25)) w.heap.size (by simp; omega))
  have B0 := Lib.hid (show Below w.heap.size w (((w.alloc (.cells #[.int .i64 x, .int .i64 y] 29)).alloc (.cells #[.int .i64 ck, .int .i64 ckey, .int .i64 cv] 25)).alloc (.cells #[] 29)) from (((Below.refl _ _).alloc (Nat.le_refl _) _).alloc (by simp) _).alloc (by simp; omega) _)
  have hs : ((w.alloc (.cells #[.int .i64 x, .int .i64 y] 29)).alloc (.cells #[.int .i64 ck, .int .i64 ckey, .int .i64 cv] 25)).heap.size = w.heap.size + 1 + 1 := by simp
  rw [hs] at R0
  clear hs
  go_enter Tryd.func37, Tryd.ntmps37
  go_wp2_with fail
  refine wp_loop_rounds 1 ?_
  rw [rounds_succ]
  go_wp2_with fail
  go_ret2
  exact ⟨⟨_, rfl, R0.out⟩, B0.out⟩
theorem slat11_any (u : Value) (E : List En) (x y ck ckey cv : Int) (w : World) (hv : logB E = true) (h : Ens w u E) :
    Calls Tryd.prog 37 #[u, .agg #[.int .i64 x, .int .i64 y], .agg #[.int .i64 ck, .int .i64 ckey, .int .i64 cv]] w fun e w' => (∃ v, e = .returned (.tuple #[.int .i64 (topE (clsE E (x, y) ck ckey) + 1), v]) ∧ Row w' w.heap.size v (idsE (clsE E (x, y) ck ckey))) ∧ Below w.heap.size w w' := by
  obtain ⟨a, cap, rfl, h1, h2, h3⟩ := h
  rcases h3 with h3 | ⟨b, off, U, rfl, h4⟩
  · obtain rfl : E = [] := List.length_eq_zero_iff.1 h3
    exact slat11_nil a cap x y ck ckey cv w
  · exact slat11_at b off cap E U x y ck ckey cv w hv h4

end Go.Proofs.YtlipmjbeiiifkaaDoor

/- The model's l11Put at no entries, and LogPut. -/
namespace Go.Proofs.YtlipmjbeiiifkaaDoor
open Go.RowKit
set_option linter.unusedVariables false

set_option maxRecDepth 100000 in
set_option maxHeartbeats 4000000 in
theorem sput11_nil (a : Option Addr) (ca : Nat) (X : En) (u : Value) (w : World) (hu : Ids w u X.deps) :
    Calls Tryd.prog 38 #[.slice a 0 ca, env X u] w fun e w' => (∃ v, e = .returned v ∧ EnO w' w.heap.size v (endE X (runE X []))) ∧ Below w.heap.size w w' := by
  obtain ⟨i0, hi, hz0, hz1, hz2⟩ := info_parts info_en
  obtain ⟨ua0, un0, uc0, rfl⟩ : ∃ ua un uc, u = .slice ua un uc := by obtain ⟨a, c, e, _⟩ := hu; exact ⟨a, _, c, e⟩
  have uat := fun W (hb : Below w.heap.size w W) => hu.up hb (Nat.le_refl _)
  obtain ⟨LL, hLL⟩ : ∃ l : EL, Hid (l = []) := ⟨[], Lib.hid rfl⟩
  have P : Hid (PtE w ((w.alloc (.cells #[.int .i64 X.id.1, .int .i64 X.id.2, .int .i64 X.bal, .int .i64 X.st, .int .i64 X.k, .int .i64 X.key, .int .i64 X.v, .int .i64 X.seq, .slice ua0 un0 uc0] 32)).alloc (.cells #[] 32)) X (.slice ua0 un0 uc0) (.slice (some ⟨w.heap.size + 1, 0, none⟩) 0 0) LL) := Lib.hid
    ⟨by rw [hLL.out]; have := er_new (w.alloc (.cells #[.int .i64 X.id.1, .int .i64 X.id.2, .int .i64 X.bal, .int .i64 X.st, .int .i64 X.k, .int .i64 X.key, .int .i64 X.v, .int .i64 X.seq, .slice ua0 un0 uc0] 32)) (w.heap.size + 1) (by simp); simpa using this, (Below.heap_alloc _ _ _ (by simp)).trans (heap_alloc_new w _), ((Below.refl _ _).alloc (Nat.le_refl _) _).alloc (by simp) _⟩
  have hM : Hid (LL.map Prod.fst = []) := Lib.hid (by rw [hLL.out]; rfl)
  have hLl : LL.length ≤ 24 := by rw [hLL.out]; exact Nat.zero_le _
  have ui := uat _ P.out.kp
  clear hu hLL uat
  unfold env
  go_enter Tryd.func38, Tryd.ntmps38
  go_wp2_with fail
  refine wp_loop_rounds 1 ?_
  rw [rounds_succ]
  generalize (w.alloc (.cells #[.int .i64 X.id.1, .int .i64 X.id.2, .int .i64 X.bal, .int .i64 X.st, .int .i64 X.k, .int .i64 X.key, .int .i64 X.v, .int .i64 X.seq, .slice ua0 un0 uc0] 32)).alloc (.cells #[] 32) = w0 at P ui ⊢
  obtain ⟨⟨y0, y1, y2, y3, y4, y5, y6, y7, y8⟩, _, ys⟩ := nine_all P.out.bx
  go_wp2_with fail
  refine (copy_at X.id.1 X.id.2 X.bal X.st X.k X.key X.v X.seq X.deps (.slice ua0 un0 uc0) _ ui).mono ?_
  rintro e wc6 ⟨⟨cu6, rfl, hrow⟩, B⟩
  have hDl : X.deps.length ≤ 2000000 := by obtain ⟨_, _, _, _, hh, _⟩ := ui; exact hh
  obtain ⟨b6, hb6, hO⟩ := hrow.own hDl
  obtain ⟨cc6, rfl, _⟩ := hO.shape
  have hx6 := Lib.hid (P.out.fresh (x := (X, .slice (some ⟨b6, 0, none⟩) X.deps.length cc6)) hb6 hO)
  replace P := Lib.hid (P.out.up B)
  have hPs := P.out.kp.size
  have hPr := Lib.hid P.out.er.row
  obtain ⟨m, hm'⟩ : ∃ m, Hid (LL.length = m) := ⟨_, Lib.hid rfl⟩
  rw [hm'.out] at hPr hLl
  clear hrow hO B
  clear y0 y1 y2 y3 y4 y5 y6 y7 y8 ys
  clear ui
  go_wp2_with (at_builtin; refine wpList_append_own_at _ rfl _ _ 23 rfl (w.heap.size + 1) 32 i0 (.agg #[.int .i64 0, .int .i64 0, .int .i64 0, .int .i64 0, .int .i64 0, .int .i64 0, .int .i64 0, .int .i64 0, .slice none 0 0]) 9 88 Tryd.underlying23 hi hz0 hz1 hz2 rfl (by decide) _ m (flatE LL) rfl (hPr.out.alloc _) ⟨wc6.heap.size, 0, none⟩ 1 1 [.int .i64 X.id.1, .int .i64 X.id.2, .int .i64 X.bal, .int .i64 X.st, .int .i64 X.k, .int .i64 X.key, .int .i64 X.v, .int .i64 X.seq, .slice (some ⟨b6, 0, none⟩) X.deps.length cc6] rfl rfl ?fc1 ?fc2 ?fc3 ?fc4 ?fc5 ?_)
  case fc1 => exact nine_srcE _ _ _ _ _ _ _ _ _ _ _ _ (by simp)
  case fc2 => exact nine_oneE _ _ _ _ _ _ _ _ _ _ _
  case fc3 => unfold maxLen; omega
  case fc4 => omega
  case fc5 => first | omega | (simp; omega)
  intro v' w' hown' hgrow hnil hat
  obtain ⟨LL2, P5, hM5, hl5⟩ := P.out.next (x := (X, .slice (some ⟨b6, 0, none⟩) X.deps.length cc6)) (by rw [hm'.out]; exact hown') hgrow (fun e => hnil e) (hat.imp (fun h => h) (fun h => by simpa using h)) hx6.out hM.out hm'.out
  clear hown' hgrow hnil hat hPr hPs hx6 hM hb6 hDl hm' P
  have P := Lib.hid P5
  have hM := Lib.hid hM5
  replace hLl : LL2.length ≤ 25 := by omega
  clear P5 hM5 hl5
  have R := ((P.out.er.wide (Nat.le_succ _)).eno (by omega))
  rw [hM.out] at R
  replace R := Lib.hid (show EnO _ w.heap.size _ (endE X (runE X [])) from by simpa [endE, runE] using R)
  have B := Lib.hid P.out.kp
  clear P hM
  go_wp2_with fail
  go_ret
  exact ⟨⟨_, rfl, R.out⟩, B.out⟩
theorem sput11_any (u : Value) (E : List En) (X : En) (v : Value) (w : World) (hm : E.length ≤ 12) (h : Ens w u E) (hv : Ids w v X.deps) :
    Calls Tryd.prog 38 #[u, env X v] w fun e w' => (∃ v, e = .returned v ∧ EnO w' w.heap.size v (endE X (runE X E))) ∧ Below w.heap.size w w' := by
  obtain ⟨a, cap, rfl, h1, h2, h3⟩ := h
  rcases h3 with h3 | ⟨b, off, U, rfl, h4⟩
  · obtain rfl : E = [] := List.length_eq_zero_iff.1 h3
    exact sput11_nil a cap X v w hv
  · exact sput11_at b off cap E U X v w hm h4 hv
theorem EnO.len {w : World} {B : Nat} {v : Value} {E : List En} (h : EnO w B v E) : ∃ g cap, v = .slice (some ⟨g, 0, none⟩) E.length cap := by
  obtain ⟨g, cap, _, _, rfl, _⟩ := h; exact ⟨g, cap, rfl⟩

theorem EnO.wide {w : World} {B B' : Nat} {v : Value} {E : List En} (h : EnO w B v E) (hB : B' ≤ B) : EnO w B' v E := by
  obtain ⟨g, cap, cur, t, rfl, h0, hg, h1, h2, h3⟩ := h
  refine ⟨g, cap, cur, t, rfl, Nat.le_trans hB h0, hg, h1, h2, fun i hi => ?_⟩
  obtain ⟨b, u, q1, q2, hc, ho⟩ := h3 i hi
  exact ⟨b, u, Nat.le_trans hB q1, q2, hc, ho⟩
/-- What LogPut leaves. -/
def LpP (E : List En) (X : En) (w : World) (e : Ending) (w' : World) : Prop :=
  (∃ v, e = .returned (.tuple #[v, .bool (lputR E X).2]) ∧ EnO w' w.heap.size v (lputR E X).1) ∧ Below w.heap.size w w'
theorem lp_fail {E : List En} {X : En} {w w2 : World} (B : Below w.heap.size w w2) (h : lputR E X = ([], false)) : LpP E X w (.returned (.tuple #[.slice (some ⟨w2.heap.size, 0, none⟩) 0 0, .bool false])) (w2.alloc (.cells #[] 32)) := by
  unfold LpP
  rw [h]
  exact ⟨⟨_, rfl, (er_new w2 w.heap.size B.size).eno (Nat.zero_le _)⟩, B.alloc B.size _⟩

set_option maxRecDepth 100000 in
set_option maxHeartbeats 4000000 in
theorem slput_any (u : Value) (E : List En) (X : En) (v : Value) (w : World) (h : Ens w u E) (hv : Ids w v X.deps) :
    Calls Tryd.prog 60 #[u, env X v] w (LpP E X w) := by
  have sv := fun W (hb : Below w.heap.size w W) => slogv_any u E W (h.up hb (Nat.le_refl _))
  have se := fun W (hb : Below w.heap.size w W) => sentry_any X v W (hv.up hb (Nat.le_refl _))
  have sp := fun W (hm : E.length ≤ 12) (hb : Below w.heap.size w W) => sput11_any u E X v W hm (h.up hb (Nat.le_refl _)) (hv.up hb (Nat.le_refl _))
  obtain ⟨a, cap, hu⟩ : ∃ a cap, u = .slice a E.length cap := by obtain ⟨a, c, e, _⟩ := h; exact ⟨a, c, e⟩
  subst hu
  obtain ⟨ua0, un0, uc0, rfl⟩ : ∃ ua un uc, v = .slice ua un uc := by obtain ⟨a, c, e, _⟩ := hv; exact ⟨a, _, c, e⟩
  clear h hv
  obtain ⟨n, hn⟩ : ∃ n, Hid (E.length = n) := ⟨_, Lib.hid rfl⟩
  rw [hn.out] at sv sp ⊢
  have A0 := Lib.hid (heap_alloc_new w (.cells #[.int .i64 X.id.1, .int .i64 X.id.2, .int .i64 X.bal, .int .i64 X.st, .int .i64 X.k, .int .i64 X.key, .int .i64 X.v, .int .i64 X.seq, .slice ua0 un0 uc0] 32))
  have B0 := Lib.hid ((Below.refl w.heap.size w).alloc (Nat.le_refl _) (.cells #[.int .i64 X.id.1, .int .i64 X.id.2, .int .i64 X.bal, .int .i64 X.st, .int .i64 X.k, .int .i64 X.key, .int .i64 X.v, .int .i64 X.seq, .slice ua0 un0 uc0] 32))
  unfold env at sp se ⊢
  go_enter Tryd.func60, Tryd.ntmps60
  go_wp2_with fail
  refine (sv _ B0.out).mono ?_
  rintro e w1 ⟨rfl, B⟩
  have A1 := Lib.hid (bblk B (lt_of_heap A0.out) A0.out)
  have B1 := Lib.hid (bstep B0.out B)
  obtain ⟨q, hq⟩ : ∃ q, Hid (logB E = q) := ⟨_, Lib.hid rfl⟩
  rw [hq.out]
  clear B sv A0 B0
  obtain ⟨⟨y0, y1, y2, y3, y4, y5, y6, y7, y8⟩, _, ys⟩ := nine_all A1.out
  cases q
  · have R := Lib.hid (lp_fail B1.out (lputR_bad (e := X) hq.out))
    go_wp2_with fail
    go_ret2
    exact R.out
  · go_wp2_with fail
    refine (se _ B1.out).mono ?_
    rintro e w2 ⟨rfl, B⟩
    have A2 := Lib.hid (bblk B (lt_of_heap A1.out) A1.out)
    have B2 := Lib.hid (bstep B1.out B)
    obtain ⟨p, hp⟩ : ∃ q, Hid (enB X = q) := ⟨_, Lib.hid rfl⟩
    rw [hp.out]
    clear B se A1 B1 y0 y1 y2 y3 y4 y5 y6 y7 y8 ys
    obtain ⟨⟨y0, y1, y2, y3, y4, y5, y6, y7, y8⟩, _, ys⟩ := nine_all A2.out
    cases p
    · have R := Lib.hid (lp_fail B2.out (lputR_bad2 (E := E) hp.out))
      go_wp2_with fail
      go_ret2
      exact R.out
    · have hl := (log_of hq.out).1
      rw [hn.out] at hl
      have hs2 := B2.out.size
      have hA := Lib.hid (runE_put (e := X) (log_of hq.out).2.2)
      go_wp2_with fail
      refine (sp _ hl B2.out).mono ?_
      rintro e w3 ⟨⟨v3, rfl, O3⟩, B⟩
      rw [hA.out] at O3
      have B3 := Lib.hid (bstep B2.out B)
      obtain ⟨g, c, rfl⟩ := O3.len
      obtain ⟨m, hm⟩ : ∃ m, Hid ((putE X E).length = m) := ⟨_, Lib.hid rfl⟩
      have hm63 : m ≤ 25 := by
        have h1 := putE_len (e := X) (log_of hq.out).2.2
        rw [← hm.out, h1]
        have := hn.out; split <;> omega
      have O3 := Lib.hid O3
      rw [hm.out]
      clear B sp hA A2 B2 y0 y1 y2 y3 y4 y5 y6 y7 y8 ys
      by_cases h12 : m ≤ 12
      · have R := Lib.hid (lputR_good (E := E) hq.out hp.out (by rw [hm.out]; exact h12))
        have hg : ¬ 12 < m := by omega
        go_wp2_with fail
        go_ret2
        rw [LpP, R.out]
        exact ⟨⟨_, rfl, by have := O3.out; rw [hm.out] at this; exact this.wide hs2⟩, B3.out⟩
      · have R := Lib.hid (lp_fail B3.out (lputR_long (E := E) (e := X) (by rw [hm.out]; exact h12)))
        have hg : 12 < m := by omega
        go_wp2_with fail
        go_ret2
        exact R.out
end Go.Proofs.YtlipmjbeiiifkaaDoor

/- The model's Propose. -/
namespace Go.Proofs.YtlipmjbeiiifkaaDoor
open Go.RowKit
set_option linter.unusedVariables false

/-- What the model's Propose and PreAccept leave. -/
def PmP (Q : List En × En × Bool) (w : World) (e : Ending) (w' : World) : Prop :=
  ∃ v u, e = .returned (.tuple #[v, env Q.2.1 u, .bool Q.2.2]) ∧ EnO w' w.heap.size v Q.1 ∧ Ids w' u Q.2.1.deps ∧ Below w.heap.size w w'
theorem EnO.abv {w w' : World} {B : Nat} {v : Value} {E : List En} (h : EnO w B v E) (hk : ∀ b, B ≤ b → w'.heap[b]? = w.heap[b]?) : EnO w' B v E := by
  obtain ⟨g, cap, cur, t, rfl, h0, hg, h1, h2, h3⟩ := h
  refine ⟨g, cap, cur, t, rfl, h0, (hk g h0).trans hg, h1, h2, fun i hi => ?_⟩
  obtain ⟨c, u', q1, q2, hc, ho⟩ := h3 i hi
  exact ⟨c, u', q1, q2, hc, ho.same (hk c q1)⟩
theorem pm_fail {w W : World} {rb : Nat} {t : TypeId} {y0 y1 y2 y3 y4 y5 y6 y7 y8 : Value} (D : Below w.heap.size w W) (hr : w.heap.size ≤ rb) (hR : W.heap[rb]? = some (.cells #[y0, y1, y2, y3, y4, y5, y6, y7, y8] t (0, 0))) :
    PmP ([], en0, false) w (.returned (.tuple #[.slice (some ⟨W.heap.size, 0, none⟩) 0 0, .agg #[.int .i64 0, .int .i64 0, .int .i64 0, .int .i64 0, .int .i64 0, .int .i64 0, .int .i64 0, .int .i64 0, .slice none 0 0], .bool false])) (((((((((((W.setCell ⟨rb, 0, none⟩ (.int .i64 0)).setCell ⟨rb, 1, none⟩ (.int .i64 0)).setCell ⟨rb, 2, none⟩ (.int .i64 0)).setCell ⟨rb, 3, none⟩ (.int .i64 0)).setCell ⟨rb, 4, none⟩ (.int .i64 0)).setCell ⟨rb, 5, none⟩ (.int .i64 0)).setCell ⟨rb, 6, none⟩ (.int .i64 0)).setCell ⟨rb, 7, none⟩ (.int .i64 0)).setCell ⟨rb, 8, none⟩ (.slice none 0 0))).alloc (.cells #[] 32)) ∧ (((((((((((W.setCell ⟨rb, 0, none⟩ (.int .i64 0)).setCell ⟨rb, 1, none⟩ (.int .i64 0)).setCell ⟨rb, 2, none⟩ (.int .i64 0)).setCell ⟨rb, 3, none⟩ (.int .i64 0)).setCell ⟨rb, 4, none⟩ (.int .i64 0)).setCell ⟨rb, 5, none⟩ (.int .i64 0)).setCell ⟨rb, 6, none⟩ (.int .i64 0)).setCell ⟨rb, 7, none⟩ (.int .i64 0)).setCell ⟨rb, 8, none⟩ (.slice none 0 0))).alloc (.cells #[] 32)).heap[rb]? = some (.cells #[.int .i64 0, .int .i64 0, .int .i64 0, .int .i64 0, .int .i64 0, .int .i64 0, .int .i64 0, .int .i64 0, .slice none 0 0] t (0, 0)) := by
  have hl := lt_of_heap hR
  have X := put9_exc (w := W) (b := rb) (.int .i64 0) (.int .i64 0) (.int .i64 0) (.int .i64 0) (.int .i64 0) (.int .i64 0) (.int .i64 0) (.int .i64 0) (.slice none 0 0)
  have hR9 := put9_at (.int .i64 0) (.int .i64 0) (.int .i64 0) (.int .i64 0) (.int .i64 0) (.int .i64 0) (.int .i64 0) (.int .i64 0) (.slice none 0 0) hR
  have hz : ((((((((((W.setCell ⟨rb, 0, none⟩ (.int .i64 0)).setCell ⟨rb, 1, none⟩ (.int .i64 0)).setCell ⟨rb, 2, none⟩ (.int .i64 0)).setCell ⟨rb, 3, none⟩ (.int .i64 0)).setCell ⟨rb, 4, none⟩ (.int .i64 0)).setCell ⟨rb, 5, none⟩ (.int .i64 0)).setCell ⟨rb, 6, none⟩ (.int .i64 0)).setCell ⟨rb, 7, none⟩ (.int .i64 0)).setCell ⟨rb, 8, none⟩ (.slice none 0 0))).heap.size = W.heap.size := by simp only [World.size_setCell]
  generalize (((((((((W.setCell ⟨rb, 0, none⟩ (.int .i64 0)).setCell ⟨rb, 1, none⟩ (.int .i64 0)).setCell ⟨rb, 2, none⟩ (.int .i64 0)).setCell ⟨rb, 3, none⟩ (.int .i64 0)).setCell ⟨rb, 4, none⟩ (.int .i64 0)).setCell ⟨rb, 5, none⟩ (.int .i64 0)).setCell ⟨rb, 6, none⟩ (.int .i64 0)).setCell ⟨rb, 7, none⟩ (.int .i64 0)).setCell ⟨rb, 8, none⟩ (.slice none 0 0)) = W9 at X hR9 hz ⊢
  have hs := D.size
  have L := (er_new W9 w.heap.size (by omega)).eno (Nat.zero_le _)
  rw [hz] at L
  refine ⟨⟨_, .slice none 0 0, rfl, L, ⟨none, 0, rfl, Nat.zero_le _, Nat.zero_le _, .inl rfl⟩, ?_⟩, (Below.heap_alloc _ _ _ (by omega)).trans hR9⟩
  exact (D.trans (X.to (by omega) (fun b e => by omega))).alloc (by omega) _
theorem en_resSp (tm : Array Value) (w : World) (b : Nat) (l q : Value) (x0 x1 x2 x3 x4 x5 x6 x7 x8 : Value) (t : TypeId) (h1 : tm[6]? = some l) (h2 : tm[7]? = some (.pointer (some ⟨b, 0, none⟩))) (h3 : tm[8]? = some q) (h : w.heap[b]? = some (.cells #[x0, x1, x2, x3, x4, x5, x6, x7, x8] t (0, 0))) :
    (results Tryd.f12 tm).run Tryd.prog w = .ok (.tuple #[l, .agg #[x0, x1, x2, x3, x4, x5, x6, x7, x8], q]) w := by
  obtain ⟨t0, t1, t2, t3, t4, t5, t6, t7, t8⟩ := nine_cells h
  simp [results, Tryd.results12, go_sem, h1, h2, h3, t0, t1, t2, t3, t4, t5, t6, t7, t8]
section
variable {w wc w' : World} {eb : Nat} {x0 x1 x2 x3 x4 x5 x6 x7 x8 : Value}
theorem spr_keep (hb : Below wc.heap.size wc w') (h : (wc.cell? ⟨eb, 0, none⟩ = some (x0) ∧ wc.cell? ⟨eb, 1, none⟩ = some (x1) ∧ wc.cell? ⟨eb, 2, none⟩ = some (x2) ∧ wc.cell? ⟨eb, 3, none⟩ = some (x3) ∧ wc.cell? ⟨eb, 4, none⟩ = some (x4) ∧ wc.cell? ⟨eb, 5, none⟩ = some (x5) ∧ wc.cell? ⟨eb, 6, none⟩ = some (x6) ∧ wc.cell? ⟨eb, 7, none⟩ = some (x7) ∧ wc.cell? ⟨eb, 8, none⟩ = some (x8)) ∧ Below w.heap.size w wc) : (w'.cell? ⟨eb, 0, none⟩ = some (x0) ∧ w'.cell? ⟨eb, 1, none⟩ = some (x1) ∧ w'.cell? ⟨eb, 2, none⟩ = some (x2) ∧ w'.cell? ⟨eb, 3, none⟩ = some (x3) ∧ w'.cell? ⟨eb, 4, none⟩ = some (x4) ∧ w'.cell? ⟨eb, 5, none⟩ = some (x5) ∧ w'.cell? ⟨eb, 6, none⟩ = some (x6) ∧ w'.cell? ⟨eb, 7, none⟩ = some (x7) ∧ w'.cell? ⟨eb, 8, none⟩ = some (x8)) ∧ Below w.heap.size w w' := ⟨⟨cell_later hb h.1.1, cell_later hb h.1.2.1, cell_later hb h.1.2.2.1, cell_later hb h.1.2.2.2.1, cell_later hb h.1.2.2.2.2.1, cell_later hb h.1.2.2.2.2.2.1, cell_later hb h.1.2.2.2.2.2.2.1, cell_later hb h.1.2.2.2.2.2.2.2.1, cell_later hb h.1.2.2.2.2.2.2.2.2⟩, h.2.trans (hb.mono h.2.size)⟩
theorem spr_drew (h : (wc.cell? ⟨eb, 0, none⟩ = some (x0) ∧ wc.cell? ⟨eb, 1, none⟩ = some (x1) ∧ wc.cell? ⟨eb, 2, none⟩ = some (x2) ∧ wc.cell? ⟨eb, 3, none⟩ = some (x3) ∧ wc.cell? ⟨eb, 4, none⟩ = some (x4) ∧ wc.cell? ⟨eb, 5, none⟩ = some (x5) ∧ wc.cell? ⟨eb, 6, none⟩ = some (x6) ∧ wc.cell? ⟨eb, 7, none⟩ = some (x7) ∧ wc.cell? ⟨eb, 8, none⟩ = some (x8)) ∧ Below w.heap.size w wc) : (wc.drew.cell? ⟨eb, 0, none⟩ = some (x0) ∧ wc.drew.cell? ⟨eb, 1, none⟩ = some (x1) ∧ wc.drew.cell? ⟨eb, 2, none⟩ = some (x2) ∧ wc.drew.cell? ⟨eb, 3, none⟩ = some (x3) ∧ wc.drew.cell? ⟨eb, 4, none⟩ = some (x4) ∧ wc.drew.cell? ⟨eb, 5, none⟩ = some (x5) ∧ wc.drew.cell? ⟨eb, 6, none⟩ = some (x6) ∧ wc.drew.cell? ⟨eb, 7, none⟩ = some (x7) ∧ wc.drew.cell? ⟨eb, 8, none⟩ = some (x8)) ∧ Below w.heap.size w wc.drew := ⟨h.1, h.2.drew⟩
theorem spr_set {c i : Nat} {u : Value} (hc : w.heap.size ≤ c) (he : eb ≠ c) (h : (wc.cell? ⟨eb, 0, none⟩ = some (x0) ∧ wc.cell? ⟨eb, 1, none⟩ = some (x1) ∧ wc.cell? ⟨eb, 2, none⟩ = some (x2) ∧ wc.cell? ⟨eb, 3, none⟩ = some (x3) ∧ wc.cell? ⟨eb, 4, none⟩ = some (x4) ∧ wc.cell? ⟨eb, 5, none⟩ = some (x5) ∧ wc.cell? ⟨eb, 6, none⟩ = some (x6) ∧ wc.cell? ⟨eb, 7, none⟩ = some (x7) ∧ wc.cell? ⟨eb, 8, none⟩ = some (x8)) ∧ Below w.heap.size w wc) : ((wc.setCell ⟨c, i, none⟩ u).cell? ⟨eb, 0, none⟩ = some (x0) ∧ (wc.setCell ⟨c, i, none⟩ u).cell? ⟨eb, 1, none⟩ = some (x1) ∧ (wc.setCell ⟨c, i, none⟩ u).cell? ⟨eb, 2, none⟩ = some (x2) ∧ (wc.setCell ⟨c, i, none⟩ u).cell? ⟨eb, 3, none⟩ = some (x3) ∧ (wc.setCell ⟨c, i, none⟩ u).cell? ⟨eb, 4, none⟩ = some (x4) ∧ (wc.setCell ⟨c, i, none⟩ u).cell? ⟨eb, 5, none⟩ = some (x5) ∧ (wc.setCell ⟨c, i, none⟩ u).cell? ⟨eb, 6, none⟩ = some (x6) ∧ (wc.setCell ⟨c, i, none⟩ u).cell? ⟨eb, 7, none⟩ = some (x7) ∧ (wc.setCell ⟨c, i, none⟩ u).cell? ⟨eb, 8, none⟩ = some (x8)) ∧ Below w.heap.size w (wc.setCell ⟨c, i, none⟩ u) := ⟨⟨cell_set u he h.1.1, cell_set u he h.1.2.1, cell_set u he h.1.2.2.1, cell_set u he h.1.2.2.2.1, cell_set u he h.1.2.2.2.2.1, cell_set u he h.1.2.2.2.2.2.1, cell_set u he h.1.2.2.2.2.2.2.1, cell_set u he h.1.2.2.2.2.2.2.2.1, cell_set u he h.1.2.2.2.2.2.2.2.2⟩, h.2.setCell (p := ⟨c, i, none⟩) hc u⟩
end

set_option maxRecDepth 100000 in
set_option maxHeartbeats 8000000 in
theorem sprop_any (u : Value) (E : List En) (p ck ckey cv : Int) (w : World) (h : Ens w u E) :
    Calls Tryd.prog 12 #[u, .int .i64 p, .agg #[.int .i64 ck, .int .i64 ckey, .int .i64 cv]] w (PmP (propR E p ck ckey cv) w) := by
  have A0 := Lib.hid ((Below.heap_alloc _ (.cells #[.int .i64 0, .int .i64 0, .int .i64 0, .int .i64 0, .int .i64 0, .int .i64 0, .int .i64 0, .int .i64 0, .slice none 0 0] 32) _ (by simp)).trans (heap_alloc_new w (.cells #[.int .i64 ck, .int .i64 ckey, .int .i64 cv] 25)))
  have R0 := Lib.hid (heap_alloc_at (w.alloc (.cells #[.int .i64 ck, .int .i64 ckey, .int .i64 cv] 25)) (.cells #[.int .i64 0, .int .i64 0, .int .i64 0, .int .i64 0, .int .i64 0, .int .i64 0, .int .i64 0, .int .i64 0, .slice none 0 0] 32) (w.heap.size + 1) (by simp))
  have D0 := Lib.hid (((Below.refl w.heap.size w).alloc (Nat.le_refl _) (.cells #[.int .i64 ck, .int .i64 ckey, .int .i64 cv] 25)).alloc (by simp) (.cells #[.int .i64 0, .int .i64 0, .int .i64 0, .int .i64 0, .int .i64 0, .int .i64 0, .int .i64 0, .int .i64 0, .slice none 0 0] 32))
  have sn := fun W (hb : Below w.heap.size w W) => snextn_any u E p W (h.up hb (Nat.le_refl _))
  have sa := fun (hv : logB E = true) x y W (hb : Below w.heap.size w W) => slat11_any u E x y ck ckey cv W hv (h.up hb (Nat.le_refl _))
  have sp := fun X v W (hm : E.length ≤ 12) (hb : Below w.heap.size w W) (hI : Ids W v X.deps) => sput11_any u E X v W hm (h.up hb (Nat.le_refl _)) hI
  obtain ⟨la, lc, hu⟩ : ∃ a c, u = .slice a E.length c := by obtain ⟨a, c, e, _⟩ := h; exact ⟨a, c, e⟩
  subst hu
  obtain ⟨n, hn⟩ : ∃ n, Hid (nextR E p = n) := ⟨_, Lib.hid rfl⟩
  obtain ⟨l, hl⟩ : ∃ n, Hid (E.length = n) := ⟨_, Lib.hid rfl⟩
  have hl2 : l ≤ 2000000 := by obtain ⟨_, _, _, _, h3, _⟩ := h; rw [← hl.out]; exact h3
  rw [hn.out] at sn
  rw [hl.out] at sn sa sp ⊢
  clear h
  go_enter Tryd.func12, Tryd.ntmps12
  go_upto_region 1 with fail
  generalize ((w.alloc (.cells #[.int .i64 ck, .int .i64 ckey, .int .i64 cv] 25)).alloc (.cells #[.int .i64 0, .int .i64 0, .int .i64 0, .int .i64 0, .int .i64 0, .int .i64 0, .int .i64 0, .int .i64 0, .slice none 0 0] 32)) = w1 at A0 R0 D0 ⊢
  go_wp2_with fail
  refine (sn _ D0.out).mono ?_
  rintro e w2 ⟨rfl, B⟩
  have A1 := Lib.hid (bblk B (lt_of_heap A0.out) A0.out)
  have R1 := Lib.hid (bblk B (lt_of_heap R0.out) R0.out)
  have D1 := Lib.hid (bstep D0.out B)
  clear B A0 R0 D0 sn
  by_cases hneg : n < 0
  · have hQ := Lib.hid (prop_num (k := ck) (key := ckey) (v := cv) (show nextR E p < 0 by rw [hn.out]; exact hneg))
    clear A1 sa sp
    have hPP := Lib.hid (pm_fail D1.out (Nat.le_succ _) R1.out)
    obtain ⟨⟨z0, z1, z2, z3, z4, z5, z6, z7, z8⟩, ⟨f0, f1, f2, f3, f4, f5, f6, f7, f8⟩, zl⟩ := nine_all R1.out
    go_wp2_with fail
    refine bodyPost_ret (en_resSp _ _ _ _ _ _ _ _ _ _ _ _ _ _ _ rfl rfl rfl hPP.out.2) rfl ?_
    rw [hQ.out]
    exact hPP.out.1
  · obtain ⟨c0, c1, c2, _, _, cl⟩ := blk3 A1.out
    have hneg' : ¬ n < 0 := hneg
    go_wp2_with fail
    refine (svalid_any ck ckey cv _).mono ?_
    rintro e w3 ⟨rfl, B⟩
    have A2 := Lib.hid (bblk B (lt_of_heap A1.out) A1.out)
    have R2 := Lib.hid (bblk B (lt_of_heap R1.out) R1.out)
    have D2 := Lib.hid (bstep D1.out B)
    clear B A1 R1 D1 c0 c1 c2 cl
    obtain ⟨q, hq⟩ : ∃ q, Hid (cvB ck ckey cv = q) := ⟨_, Lib.hid rfl⟩
    rw [hq.out]
    cases q
    · have hQ := Lib.hid (prop_cmd (E := E) (p := p) hq.out)
      clear A2 sa sp
      have hPP := Lib.hid (pm_fail D2.out (Nat.le_succ _) R2.out)
      obtain ⟨⟨z0, z1, z2, z3, z4, z5, z6, z7, z8⟩, ⟨f0, f1, f2, f3, f4, f5, f6, f7, f8⟩, zl⟩ := nine_all R2.out
      go_wp2_with fail
      refine bodyPost_ret (en_resSp _ _ _ _ _ _ _ _ _ _ _ _ _ _ _ rfl rfl rfl hPP.out.2) rfl ?_
      rw [hQ.out]
      exact hPP.out.1
    · by_cases h12 : l = 12
      · have hQ := Lib.hid (prop_full (p := p) (k := ck) (key := ckey) (v := cv) (show E.length = 12 by rw [hl.out]; exact h12))
        clear A2 sa sp
        subst h12
        have hPP := Lib.hid (pm_fail D2.out (Nat.le_succ _) R2.out)
        obtain ⟨⟨z0, z1, z2, z3, z4, z5, z6, z7, z8⟩, ⟨f0, f1, f2, f3, f4, f5, f6, f7, f8⟩, zl⟩ := nine_all R2.out
        go_wp2_with fail
        refine bodyPost_ret (en_resSp _ _ _ _ _ _ _ _ _ _ _ _ _ _ _ rfl rfl rfl hPP.out.2) rfl ?_
        rw [hQ.out]
        exact hPP.out.1
      · obtain ⟨hv, hnx, hp, hn50⟩ := next_is (E := E) (p := p) (by rw [hn.out]; omega)
        have h12b : ((l : Int) == 12) = false := by simp; omega
        have hE12 : E.length ≤ 12 := (log_of hv).1
        have hY0 : proE E p ck ckey cv = ⟨(p, n), 0, 1, ck, ckey, cv, topE (clsE E (p, n) ck ckey) + 1, idsE (clsE E (p, n) ck ckey)⟩ := by unfold proE; rw [← hnx, hn.out]
        have htt := top_rank hv (p, n) ck ckey
        have sa2 := sa hv p n
        obtain ⟨t, ht⟩ : ∃ t, Hid (topE (clsE E (p, n) ck ckey) + 1 = t) := ⟨_, Lib.hid rfl⟩
        obtain ⟨C, hC⟩ : ∃ t, Hid (idsE (clsE E (p, n) ck ckey) = t) := ⟨_, Lib.hid rfl⟩
        have hCl : C.length ≤ 12 := by rw [← hC.out]; exact cls_len hv _ _ _
        rw [ht.out, hC.out] at sa2 hY0
        have ht1 : 1 ≤ t ∧ t ≤ 100 := by rw [← ht.out]; omega
        have hY0 := Lib.hid hY0
        have BA := (Below.refl w3.heap.size w3).alloc (Nat.le_refl _) (.cells #[.int .i64 p, .int .i64 n] 29)
        have I4 := Lib.hid (heap_alloc_new w3 (.cells #[.int .i64 p, .int .i64 n] 29))
        obtain ⟨c0, c1, c2, _, _, cl⟩ := blk3 A2.out
        have A3 := Lib.hid (bblk BA (lt_of_heap A2.out) A2.out)
        have R3 := Lib.hid (bblk BA (lt_of_heap R2.out) R2.out)
        have D3 := Lib.hid (bstep D2.out BA)
        clear BA A2 R2 D2 c0 c1 c2 cl hnx
        go_upto_region 5 with fail
        obtain ⟨ib, hib⟩ : ∃ c, Hid (w3.heap.size = c) := ⟨_, Lib.hid rfl⟩
        rw [hib.out] at I4 ⊢
        generalize w3.alloc (.cells #[.int .i64 p, .int .i64 n] 29) = w4 at I4 A3 R3 D3 ⊢
        clear hib
        obtain ⟨c0, c1, c2, _, _, cl⟩ := blk3 A3.out
        obtain ⟨i0, i1, _, _⟩ := blk2 I4.out
        have il := lt_of_heap I4.out
        go_wp2_with fail
        refine (sa2 _ D3.out).mono ?_
        rintro e w5 ⟨⟨v5, rfl, O5⟩, B⟩
        obtain ⟨b5, hb5, O5⟩ := O5.own (by omega)
        have hrb5 : w.heap.size + 1 < b5 := Nat.lt_of_lt_of_le (lt_of_heap R3.out) hb5
        obtain ⟨c5, rfl⟩ : ∃ c, v5 = .slice (some ⟨b5, 0, none⟩) C.length c := by obtain ⟨c, e, _⟩ := O5.shape; exact ⟨_, e⟩
        have A4 := Lib.hid (bblk B (lt_of_heap A3.out) A3.out)
        have I5 := Lib.hid (bblk B (lt_of_heap I4.out) I4.out)
        have R4 := Lib.hid (bblk B (lt_of_heap R3.out) R3.out)
        have D4 := Lib.hid (bstep D3.out B)
        have O5 := Lib.hid O5
        clear B A3 I4 R3 D3 sa sa2 c0 c1 c2 cl i0 i1 il
        by_cases h99 : 99 < t
        · have hQ := Lib.hid (prop_seq (E := E) (p := p) (k := ck) (key := ckey) (v := cv) (by rw [hY0.out]; exact h99))
          clear A4 I5 sp
          have hPP := Lib.hid (pm_fail D4.out (Nat.le_succ _) R4.out)
          obtain ⟨⟨z0, z1, z2, z3, z4, z5, z6, z7, z8⟩, ⟨f0, f1, f2, f3, f4, f5, f6, f7, f8⟩, zl⟩ := nine_all R4.out
          go_wp2_with fail
          refine bodyPost_ret (en_resSp _ _ _ _ _ _ _ _ _ _ _ _ _ _ _ rfl rfl rfl hPP.out.2) rfl ?_
          rw [hQ.out]
          exact hPP.out.1
        · have hQ := Lib.hid (prop_good (E := E) (p := p) (k := ck) (key := ckey) (v := cv) (by rw [hn.out]; omega) hq.out (by rw [hl.out]; exact h12) (by rw [hY0.out]; exact h99))
          obtain ⟨c0, c1, c2, _, _, cl⟩ := blk3 A4.out
          obtain ⟨i0, i1, _, _⟩ := blk2 I5.out
          have il := lt_of_heap I5.out
          obtain ⟨Y, hY⟩ : ∃ Y : En, Hid (proE E p ck ckey cv = Y) := ⟨_, Lib.hid rfl⟩
          rw [hY.out] at hQ hY0
          have BA := (Below.refl w5.heap.size w5).alloc (Nat.le_refl _) (.cells #[.int .i64 p, .int .i64 n, .int .i64 0, .int .i64 1, .int .i64 ck, .int .i64 ckey, .int .i64 cv, .int .i64 t, .slice (some ⟨b5, 0, none⟩) C.length c5] 32)
          have E6 := Lib.hid (heap_alloc_new w5 (.cells #[.int .i64 p, .int .i64 n, .int .i64 0, .int .i64 1, .int .i64 ck, .int .i64 ckey, .int .i64 cv, .int .i64 t, .slice (some ⟨b5, 0, none⟩) C.length c5] 32))
          have R5 := Lib.hid (bblk BA (lt_of_heap R4.out) R4.out)
          have D5 := Lib.hid (bstep D4.out BA)
          have hrb : w.heap.size + 1 < w5.heap.size := lt_of_heap R4.out
          have O6 := Lib.hid (O5.out.up BA O5.out.lt)
          clear BA A4 I5 R4 D4 O5
          go_upto_region 9 with fail
          clear c0 c1 c2 cl i0 i1 il
          obtain ⟨eb, heb⟩ : ∃ c, Hid (w5.heap.size = c) := ⟨_, Lib.hid rfl⟩
          rw [heb.out] at E6 hrb ⊢
          generalize w5.alloc (.cells #[.int .i64 p, .int .i64 n, .int .i64 0, .int .i64 1, .int .i64 ck, .int .i64 ckey, .int .i64 cv, .int .i64 t, .slice (some ⟨b5, 0, none⟩) C.length c5] 32) = w6 at E6 R5 D5 O6 ⊢
          clear heb
          have e1 : Y.id.1 = p := by rw [hY0.out]
          have e2 : Y.id.2 = n := by rw [hY0.out]
          have e3 : Y.bal = 0 := by rw [hY0.out]
          have e4 : Y.st = 1 := by rw [hY0.out]
          have e5 : Y.k = ck := by rw [hY0.out]
          have e6 : Y.key = ckey := by rw [hY0.out]
          have e7 : Y.v = cv := by rw [hY0.out]
          have e8 : Y.seq = t := by rw [hY0.out]
          have e9 : Y.deps = C := by rw [hY0.out]
          have sp6 := fun W (hb : Below w.heap.size w W) (hI : Ids W (.slice (some ⟨b5, 0, none⟩) C.length c5) C) => sp Y (.slice (some ⟨b5, 0, none⟩) C.length c5) W (by rw [← hl.out]; exact hE12) hb (by rw [e9]; exact hI)
          rw [runE_put (log_of hv).2.2] at sp6
          unfold env at sp6
          rw [e1, e2, e3, e4, e5, e6, e7, e8] at sp6
          have R0 := R5
          have H9 := Lib.hid (show (w6.cell? ⟨eb, 0, none⟩ = some (.int .i64 p) ∧ w6.cell? ⟨eb, 1, none⟩ = some (.int .i64 n) ∧ w6.cell? ⟨eb, 2, none⟩ = some (.int .i64 0) ∧ w6.cell? ⟨eb, 3, none⟩ = some (.int .i64 1) ∧ w6.cell? ⟨eb, 4, none⟩ = some (.int .i64 ck) ∧ w6.cell? ⟨eb, 5, none⟩ = some (.int .i64 ckey) ∧ w6.cell? ⟨eb, 6, none⟩ = some (.int .i64 cv) ∧ w6.cell? ⟨eb, 7, none⟩ = some (.int .i64 t) ∧ w6.cell? ⟨eb, 8, none⟩ = some (.slice (some ⟨b5, 0, none⟩) C.length c5)) ∧ Below w.heap.size w w6 from ⟨(nine_all E6.out).1, D5.out⟩)
          clear R5 E6 D5 sp
          generalize hcn : C.length = cn at H9 O6 sp6 ⊢
          go_region_held3 (fun w' => (w'.cell? ⟨eb, 0, none⟩ = some (.int .i64 p) ∧ w'.cell? ⟨eb, 1, none⟩ = some (.int .i64 n) ∧ w'.cell? ⟨eb, 2, none⟩ = some (.int .i64 0) ∧ w'.cell? ⟨eb, 3, none⟩ = some (.int .i64 1) ∧ w'.cell? ⟨eb, 4, none⟩ = some (.int .i64 ck) ∧ w'.cell? ⟨eb, 5, none⟩ = some (.int .i64 ckey) ∧ w'.cell? ⟨eb, 6, none⟩ = some (.int .i64 cv) ∧ w'.cell? ⟨eb, 7, none⟩ = some (.int .i64 t) ∧ w'.cell? ⟨eb, 8, none⟩ = some (.slice (some ⟨b5, 0, none⟩) cn c5)) ∧ Below w.heap.size w w') (first | (with_reducible assumption) | ((with_reducible refine spr_set (c := w.heap.size + 1) (Nat.le_succ _) (by omega) ?_); (with_reducible refine spr_set (c := w.heap.size + 1) (Nat.le_succ _) (by omega) ?_); (with_reducible refine spr_set (c := w.heap.size + 1) (Nat.le_succ _) (by omega) ?_); (with_reducible refine spr_set (c := w.heap.size + 1) (Nat.le_succ _) (by omega) ?_); (with_reducible refine spr_set (c := w.heap.size + 1) (Nat.le_succ _) (by omega) ?_); (with_reducible refine spr_set (c := w.heap.size + 1) (Nat.le_succ _) (by omega) ?_); (with_reducible refine spr_set (c := w.heap.size + 1) (Nat.le_succ _) (by omega) ?_); (with_reducible refine spr_set (c := w.heap.size + 1) (Nat.le_succ _) (by omega) ?_); (with_reducible refine spr_set (c := w.heap.size + 1) (Nat.le_succ _) (by omega) ?_); (with_reducible assumption)) | (with_reducible exact spr_drew H9.out) | (with_reducible exact spr_drew (by assumption)) | (with_reducible exact spr_keep (by assumption) (by assumption)) | (with_reducible exact spr_keep (by assumption) (spr_drew (by assumption))))
            (first | (go_at_call 38; (with_reducible refine (sp6 _ (by assumption : (_ ∧ _ ∧ _ ∧ _ ∧ _ ∧ _ ∧ _ ∧ _ ∧ _) ∧ Below w.heap.size w _).2 (by first | exact O6.out.read | exact (O6.out.up (Below.drew (Below.refl _ _)) O6.out.lt).read)).mono ?_); rintro e w' ⟨⟨v9, rfl, O9⟩, hb⟩; have hz9 := lt_of_heap R0.out; obtain ⟨g9, c9, rfl⟩ := O9.len; have O9 := Lib.hid O9; have K9 := Lib.hid hb; replace R0 := Lib.hid (by first | exact bblk hb (lt_of_heap R0.out) R0.out | exact bblk_d hb (lt_of_heap R0.out) R0.out); obtain ⟨⟨z0, z1, z2, z3, z4, z5, z6, z7, z8⟩, ⟨f0, f1, f2, f3, f4, f5, f6, f7, f8⟩, zl⟩ := nine_all R0.out))
          all_goals
            rename_i H10
            have D10 := Lib.hid (show (_ ∧ _ ∧ _ ∧ _ ∧ _ ∧ _ ∧ _ ∧ _ ∧ _) ∧ Below w.heap.size w _ from H10).2
            have O10 := Lib.hid (((O6.out.up (Below.drew (Below.refl _ _)) O6.out.lt).up K9.out O6.out.lt))
            go_wp2_with fail
            refine bodyPost_ret (en_resSp _ _ _ _ _ _ _ _ _ _ _ _ _ _ _ rfl rfl rfl (put9_at _ _ _ _ _ _ _ _ _ R0.out)) rfl ?_
            rw [hQ.out]
            refine ⟨_, .slice (some ⟨b5, 0, none⟩) cn c5, by unfold env; rw [e1, e2, e3, e4, e5, e6, e7, e8]; rfl, (O9.out.abv (fun c hc => put9_other _ _ _ _ _ _ _ _ _ (by have : w.heap.size + 1 < c := Nat.lt_of_lt_of_le hz9 hc; omega))).wide (Nat.le_of_lt (Nat.lt_of_le_of_lt (Nat.le_succ _) hz9)), ?_, D10.out⟩
            rw [e9]
            exact (O10.out.same (put9_other _ _ _ _ _ _ _ _ _ (by omega))).read
end Go.Proofs.YtlipmjbeiiifkaaDoor

/- Draws of logs: l91Log, DrawLogValid. -/
namespace Go.Proofs.YtlipmjbeiiifkaaDoor
open Go.RowKit
set_option linter.unusedVariables false

theorem OwnP.keeps {w w' : World} {b r : Nat} {v : Value} {C : List Pid} (h : OwnP w b v C) (hk : Keep w.heap.size r w w') (hr : b ≠ r) : OwnP w' b v C := h.same (hk.block b h.lt hr)
theorem EnO.keep {w w' : World} {B r : Nat} {v : Value} {E : List En} (h : EnO w B v E) (hk : Keep w.heap.size r w w') (hr : r < B) : EnO w' B v E := by
  obtain ⟨g, cap, cur, t, rfl, h0, hg, h1, h2, h3⟩ := h
  refine ⟨g, cap, cur, t, rfl, h0, (hk.block g (lt_of_heap hg) (by omega)).trans hg, h1, h2, fun i hi => ?_⟩
  obtain ⟨b, u, q1, q2, hc, ho⟩ := h3 i hi
  exact ⟨b, u, q1, q2, hc, ho.keeps hk (by omega)⟩
/-- A rank is put in another's place. -/
theorem EnO.setq {w : World} {B : Nat} {E : List En} {g n cap : Nat} (h : EnO w B (.slice (some ⟨g, 0, none⟩) n cap) E) {k : Nat} (hk : k < E.length) (s : Int) :
    EnO (w.setCell ⟨g, k * 9 + 7, none⟩ (.int .i64 s)) B (.slice (some ⟨g, 0, none⟩) n cap) (E.set k { E.getD k en0 with seq := s }) := by
  obtain ⟨g', cap', cur, t, e, h0, hg, h1, h2, h3⟩ := h
  injection e with e1 e2 e3; injection e1 with e1; injection e1 with e1
  subst e1; subst e2; subst e3
  have hsz : k * 9 + 7 < cur.size := by
    obtain ⟨_, _, _, _, hc, _⟩ := h3 k hk
    have c7 := hc 7 (by omega)
    rcases Nat.lt_or_ge (k * 9 + 7) cur.size with hh | hh
    · exact hh
    · rw [Array.getElem?_eq_none hh] at c7; exact absurd c7 (by simp [enc9])
  have oth : ∀ c, c ≠ g → (w.setCell ⟨g, k * 9 + 7, none⟩ (.int .i64 s)).heap[c]? = w.heap[c]? := fun c hc => heap_setCell_other _ _ _ _ hc
  refine ⟨g, cap, _, t, by rw [List.length_set], h0, heap_setCell_same w g (k * 9 + 7) cur t _ hg, by rw [List.length_set]; exact h1, by rw [List.length_set]; exact h2, fun i hi => ?_⟩
  rw [List.length_set] at hi
  obtain ⟨b, u, q1, q2, hc, ho⟩ := h3 i hi
  by_cases e : i = k
  · subst e
    have hs : (E.set i { E.getD i en0 with seq := s }).getD i en0 = { E.getD i en0 with seq := s } := by
      rw [List.getD_eq_getElem?_getD, List.getElem?_set_self hi]; rfl
    rw [hs]
    refine ⟨b, u, q1, q2, fun j hj => ?_, ho.same (oth b q2)⟩
    by_cases hj7 : j = 7
    · subst hj7; rw [Array.getElem?_setIfInBounds, if_pos rfl, if_pos hsz]; rfl
    · rw [Array.getElem?_setIfInBounds, if_neg (by omega), hc j hj]
      rcases (show j = 0 ∨ j = 1 ∨ j = 2 ∨ j = 3 ∨ j = 4 ∨ j = 5 ∨ j = 6 ∨ j = 8 by omega) with rfl | rfl | rfl | rfl | rfl | rfl | rfl | rfl <;> rfl
  · have hs : (E.set k { E.getD k en0 with seq := s }).getD i en0 = E.getD i en0 := by
      rw [List.getD_eq_getElem?_getD, List.getElem?_set_ne (fun x => e x.symm), ← List.getD_eq_getElem?_getD]
    rw [hs]
    refine ⟨b, u, q1, q2, fun j hj => ?_, ho.same (oth b q2)⟩
    rw [Array.getElem?_setIfInBounds, if_neg (by omega)]; exact hc j hj
theorem EnO.cell7 {w : World} {B : Nat} {E : List En} {g n cap : Nat} (h : EnO w B (.slice (some ⟨g, 0, none⟩) n cap) E) {k : Nat} (hk : k < E.length) : (∃ y, w.cell? ⟨g, k * 9 + 7, none⟩ = some y) ∧ w.frozen? ⟨g, k * 9 + 7, none⟩ = false ∧ g < w.heap.size ∧ B ≤ g := by
  obtain ⟨g', cap', cur, t, e, h0, hg, h1, h2, h3⟩ := h
  injection e with e1 e2 e3; injection e1 with e1; injection e1 with e1
  subst e1
  obtain ⟨_, _, _, _, hc, _⟩ := h3 k hk
  exact ⟨⟨_, (cell_of_cells hg).trans (hc 7 (by omega))⟩, by simp [World.frozen?, hg], lt_of_heap hg, h0⟩

theorem set_id {E : List En} {k : Nat} (hk : k < E.length) (h : ∀ i, i < E.length → okP (E.getD i en0).id = true) (s : Int) : ∀ i, i < E.length → okP ((E.set k { E.getD k en0 with seq := s }).getD i en0).id = true := fun i hi => by
  by_cases e : i = k
  · subst e
    have hs : (E.set i { E.getD i en0 with seq := s }).getD i en0 = { E.getD i en0 with seq := s } := by
      rw [List.getD_eq_getElem?_getD, List.getElem?_set_self hi]; rfl
    rw [hs]; exact h i hi
  · have hs : (E.set k { E.getD k en0 with seq := s }).getD i en0 = E.getD i en0 := by
      rw [List.getD_eq_getElem?_getD, List.getElem?_set_ne (fun x => e x.symm), ← List.getD_eq_getElem?_getD]
    rw [hs]; exact h i hi
/-- What l91Log leaves. -/
def DlgP (r n : Nat) (w : World) (e : Ending) (w' : World) : Prop :=
  ∃ v E, e = .returned v ∧ EnO w' w.heap.size v E ∧ E.length ≤ 12 ∧ (∀ k, k < E.length → okP (E.getD k en0).id = true) ∧ Rd w' r (n + 700) ∧ Keep w.heap.size r w w'

set_option maxRecDepth 100000 in
set_option maxHeartbeats 8000000 in
theorem dlog_any (r n : Nat) (w : World) (hrd : Rd w r n) (hn : n ≤ 600000000) :
    Calls Tryd.prog 29 #[.pointer (some ⟨r, 0, none⟩)] w (DlgP r n w) := by
  have hrl := hrd.lt
  have O := Lib.hid ((er_new w w.heap.size (Nat.le_refl _)).eno (Nat.zero_le _))
  have K := Lib.hid ((Keep.refl w.heap.size r w).alloc (Nat.le_refl _) (.cells #[] 32))
  have R := Lib.hid (hrd.alloc (.cells #[] 32))
  clear hrd
  go_enter Tryd.func29, Tryd.ntmps29
  go_wp2_with fail
  refine (pick_any 7 r _ _ R.out (by omega)).mono ?_
  rintro e w1 ⟨m, rfl, m0, m1', hr', hk'⟩
  have m1 := m1' (by omega)
  replace O := Lib.hid (O.out.keep hk' hrl)
  replace K := Lib.hid (K.out.trans (hk'.mono K.out.size))
  replace R := Lib.hid hr'
  clear m1' hr' hk'
  go_wp2_with fail
  refine (pick_any 16 r _ _ R.out (by omega)).mono ?_
  rintro e w2 ⟨z, rfl, z0, z1', hr', hk'⟩
  have z1 := z1' (by omega)
  replace O := Lib.hid (O.out.keep hk' hrl)
  replace K := Lib.hid (K.out.trans (hk'.mono K.out.size))
  replace R := Lib.hid hr'
  clear z1' hr' hk'
  obtain ⟨m, rfl⟩ := Int.eq_ofNat_of_zero_le m0
  obtain ⟨M, hM⟩ : ∃ M : Nat, M = if z = 0 then 24 else m := ⟨_, rfl⟩
  have hM24 : M ≤ 24 := by rw [hM]; split <;> omega
  by_cases hz : z = 0
  · subst hz
    obtain rfl : M = 24 := by rw [hM]; rfl
    clear hM
    go_wp2_with fail
    go_loopw [3, 5] (fun vo i wr => ∃ (k : Nat) (E : List En), k ≤ 24 ∧ i = .int .i64 k ∧ E.length ≤ 12 ∧ Hid (logB E = true) ∧ Hid (EnO wr w.heap.size vo E) ∧ Hid (Rd wr r (n + 2 + 22 * k)) ∧ Hid (Keep w.heap.size r w wr)) (fun _ i _ => 24 - (intOf i).toNat)
    case atStart => exact ⟨0, [], Nat.zero_le _, rfl, Nat.zero_le _, Lib.hid (by decide), O, Lib.hid (R.out.more (by omega)), K⟩
    case round =>
      clear O K R
      obtain ⟨k, E, hk, rfl, hl, hL, O, R, K⟩ := hrel
      by_cases hlt : k < 24
      · go_wp2_with fail
        refine (pick_any 3 r _ _ R.out (by omega)).mono ?_
        rintro e w3 ⟨p, rfl, p0, p1', hr', hk'⟩
        have p1 := p1' (by omega)
        replace O := Lib.hid (O.out.keep hk' hrl)
        replace K := Lib.hid (K.out.trans (hk'.mono K.out.size))
        replace R := Lib.hid hr'
        clear p1' hr' hk'
        go_wp2_with fail
        refine (pick_any 5 r _ _ R.out (by omega)).mono ?_
        rintro e w4 ⟨q, rfl, q0, q1', hr', hk'⟩
        have q1 := q1' (by omega)
        replace O := Lib.hid (O.out.keep hk' hrl)
        replace K := Lib.hid (K.out.trans (hk'.mono K.out.size))
        replace R := Lib.hid hr'
        clear q1' hr' hk'
        go_wp2_with fail
        refine (entry_any r _ _ _ _ R.out (by omega)).mono ?_
        rintro e w5 ⟨b5, X, u5, hb5, rfl, _, hO5, hl5, hr5, hk5⟩
        replace O := Lib.hid (O.out.keep hk5 hrl)
        have hI5 := Lib.hid hO5.read
        replace K := Lib.hid (K.out.trans (hk5.mono K.out.size))
        replace R := Lib.hid hr5
        obtain ⟨⟨E', ok⟩, hR⟩ : ∃ r, Hid (lputR E X = r) := ⟨_, Lib.hid rfl⟩
        have lp := slput_any _ E X _ _ O.out.read hI5.out
        unfold LpP at lp
        rw [hR.out] at lp
        have hl' : E'.length ≤ 12 := by have := lputR_len E X; rw [hR.out] at this; exact this
        clear hb5 hO5 hl5 hr5 hk5 hI5
        go_wp2_with fail
        refine lp.mono ?_
        rintro e w6 ⟨⟨v6, rfl, O6⟩, B⟩
        have hs6 := K.out.size
        replace O := Lib.hid (O.out.up B)
        have O6 := Lib.hid (O6.wide hs6)
        replace R := Lib.hid (R.out.kept (B.mono (Nat.succ_le_of_lt R.out.lt)))
        replace K := Lib.hid (K.out.trans (Keep.of_below (B.mono hs6)))
        have hL' := Lib.hid (fun (h : ok = true) => (show logB E' = true by have := lputR_log (E := E) (e := X) (by rw [hR.out]; exact h); rw [hR.out] at this; exact this))
        clear lp B hR
        cases ok
        · go_wp2_with fail
          refine ⟨⟨k + 1, E, by omega, by go_num, hl, hL, O, Lib.hid (R.out.more (by omega)), K⟩, ?_⟩
          simp [intOf]; omega
        · go_wp2_with fail
          refine ⟨⟨k + 1, E', by omega, by go_num, hl', Lib.hid (hL'.out (by first | rfl | trivial)), O6, Lib.hid (R.out.more (by omega)), K⟩, ?_⟩
          simp [intOf]; omega
      · obtain rfl : k = 24 := by omega
        obtain ⟨g, cap, hv⟩ := O.out.len
        subst hv
        obtain ⟨ln, hln⟩ : ∃ x, Hid (E.length = x) := ⟨_, Lib.hid rfl⟩
        rw [hln.out] at O hl ⊢
        by_cases h0 : ln = 0
        · subst h0
          go_wp2_with fail
          go_ret
          exact ⟨_, E, rfl, O.out, by rw [hln.out]; exact hl, fun k hk => log_num hL.out hk, R.out.more (by omega), K.out⟩
        · have h0' : 0 < ln := by omega
          go_wp2_with fail
          refine (pick_any 30 r _ _ R.out (by omega)).mono ?_
          rintro e w7 ⟨z2, rfl, z20, z21', hr', hk'⟩
          have z21 := z21' (by omega)
          replace O := Lib.hid (O.out.keep hk' hrl)
          replace K := Lib.hid (K.out.trans (hk'.mono K.out.size))
          replace R := Lib.hid hr'
          clear z21' hr' hk'
          by_cases hz : z2 = 0
          · subst hz
            go_wp2_with fail
            refine (pick_any _ r _ _ R.out (by omega)).mono ?_
            rintro e w8 ⟨j, rfl, j0, j1', hr', hk'⟩
            have j1 := j1' (by omega)
            replace O := Lib.hid (O.out.keep hk' hrl)
            replace K := Lib.hid (K.out.trans (hk'.mono K.out.size))
            replace R := Lib.hid hr'
            obtain ⟨j, rfl⟩ := Int.eq_ofNat_of_zero_le j0
            have hjE : j < E.length := by rw [hln.out]; omega
            clear j1' hr' hk'
            have BA := (Below.refl w8.heap.size w8).alloc (Nat.le_refl _) (.cells #[.int .i64 0, .int .i64 99, .int .i64 100] 3)
            replace O := Lib.hid (O.out.up BA)
            have hs8 := K.out.size
            replace R := Lib.hid (R.out.kept (BA.mono (Nat.succ_le_of_lt R.out.lt)))
            replace K := Lib.hid (K.out.trans (Keep.of_below (BA.mono hs8)))
            have L8 := Lib.hid (heap_alloc_new w8 (.cells #[.int .i64 0, .int .i64 99, .int .i64 100] 3))
            clear BA
            go_wp2_with fail
            refine (pick_any 3 r _ _ R.out (by omega)).mono ?_
            rintro e w9 ⟨i, rfl, i0, i1', hr', hk'⟩
            have i1 := i1' (by omega)
            have hrx : r < w8.heap.size := by omega
            have L9 := (hk'.block w8.heap.size (by simp) (by omega)).trans L8.out
            replace O := Lib.hid (O.out.keep hk' hrl)
            replace K := Lib.hid (K.out.trans (hk'.mono K.out.size))
            replace R := Lib.hid hr'
            obtain ⟨l0, l1, l2, _, _, _⟩ := blk3 L9
            have hll := lt_of_heap L9
            obtain ⟨⟨y7, c7⟩, f7, hgl, hgB⟩ := O.out.cell7 hjE
            have hs9 := K.out.size
            have hN := Lib.hid (fun (s : Int) => O.out.setq hjE s)
            have hKN := Lib.hid (fun (s : Int) => K.out.setCell (p := ⟨g, j * 9 + 7, none⟩) hgB (.int .i64 s))
            have hRN := Lib.hid (fun (s : Int) => R.out.setCell (p := ⟨g, j * 9 + 7, none⟩) (by show r < g; omega) (.int .i64 s))
            clear i1' hr' hk' L8
            rcases (show i = 0 ∨ i = 1 ∨ i = 2 by omega) with rfl | rfl | rfl
            · go_wp2_with fail
              go_ret
              exact ⟨_, _, rfl, hN.out 0, by rw [List.length_set, hln.out]; exact hl, fun i hi => set_id hjE (fun i hi => log_num hL.out hi) _ i (by rw [List.length_set] at hi; exact hi), (hRN.out 0).more (by omega), hKN.out 0⟩
            · go_wp2_with fail
              go_ret
              exact ⟨_, _, rfl, hN.out 99, by rw [List.length_set, hln.out]; exact hl, fun i hi => set_id hjE (fun i hi => log_num hL.out hi) _ i (by rw [List.length_set] at hi; exact hi), (hRN.out 99).more (by omega), hKN.out 99⟩
            · go_wp2_with fail
              go_ret
              exact ⟨_, _, rfl, hN.out 100, by rw [List.length_set, hln.out]; exact hl, fun i hi => set_id hjE (fun i hi => log_num hL.out hi) _ i (by rw [List.length_set] at hi; exact hi), (hRN.out 100).more (by omega), hKN.out 100⟩
          · have hzb : (z2 == 0) = false := by simpa using hz
            go_wp2_with fail
            go_ret
            exact ⟨_, E, rfl, O.out, by rw [hln.out]; exact hl, fun k hk => log_num hL.out hk, R.out.more (by omega), K.out⟩
  · have hzb : (z == 0) = false := by simpa using hz
    obtain rfl : M = m := by rw [hM, if_neg hz]
    clear hM
    go_wp2_with fail
    go_loopw [3, 5] (fun vo i wr => ∃ (k : Nat) (E : List En), k ≤ M ∧ i = .int .i64 k ∧ E.length ≤ 12 ∧ Hid (logB E = true) ∧ Hid (EnO wr w.heap.size vo E) ∧ Hid (Rd wr r (n + 2 + 22 * k)) ∧ Hid (Keep w.heap.size r w wr)) (fun _ i _ => M - (intOf i).toNat)
    case atStart => exact ⟨0, [], Nat.zero_le _, rfl, Nat.zero_le _, Lib.hid (by decide), O, Lib.hid (R.out.more (by omega)), K⟩
    case round =>
      clear O K R
      obtain ⟨k, E, hk, rfl, hl, hL, O, R, K⟩ := hrel
      by_cases hlt : k < M
      · go_wp2_with fail
        refine (pick_any 3 r _ _ R.out (by omega)).mono ?_
        rintro e w3 ⟨p, rfl, p0, p1', hr', hk'⟩
        have p1 := p1' (by omega)
        replace O := Lib.hid (O.out.keep hk' hrl)
        replace K := Lib.hid (K.out.trans (hk'.mono K.out.size))
        replace R := Lib.hid hr'
        clear p1' hr' hk'
        go_wp2_with fail
        refine (pick_any 5 r _ _ R.out (by omega)).mono ?_
        rintro e w4 ⟨q, rfl, q0, q1', hr', hk'⟩
        have q1 := q1' (by omega)
        replace O := Lib.hid (O.out.keep hk' hrl)
        replace K := Lib.hid (K.out.trans (hk'.mono K.out.size))
        replace R := Lib.hid hr'
        clear q1' hr' hk'
        go_wp2_with fail
        refine (entry_any r _ _ _ _ R.out (by omega)).mono ?_
        rintro e w5 ⟨b5, X, u5, hb5, rfl, _, hO5, hl5, hr5, hk5⟩
        replace O := Lib.hid (O.out.keep hk5 hrl)
        have hI5 := Lib.hid hO5.read
        replace K := Lib.hid (K.out.trans (hk5.mono K.out.size))
        replace R := Lib.hid hr5
        obtain ⟨⟨E', ok⟩, hR⟩ : ∃ r, Hid (lputR E X = r) := ⟨_, Lib.hid rfl⟩
        have lp := slput_any _ E X _ _ O.out.read hI5.out
        unfold LpP at lp
        rw [hR.out] at lp
        have hl' : E'.length ≤ 12 := by have := lputR_len E X; rw [hR.out] at this; exact this
        clear hb5 hO5 hl5 hr5 hk5 hI5
        go_wp2_with fail
        refine lp.mono ?_
        rintro e w6 ⟨⟨v6, rfl, O6⟩, B⟩
        have hs6 := K.out.size
        replace O := Lib.hid (O.out.up B)
        have O6 := Lib.hid (O6.wide hs6)
        replace R := Lib.hid (R.out.kept (B.mono (Nat.succ_le_of_lt R.out.lt)))
        replace K := Lib.hid (K.out.trans (Keep.of_below (B.mono hs6)))
        have hL' := Lib.hid (fun (h : ok = true) => (show logB E' = true by have := lputR_log (E := E) (e := X) (by rw [hR.out]; exact h); rw [hR.out] at this; exact this))
        clear lp B hR
        cases ok
        · go_wp2_with fail
          refine ⟨⟨k + 1, E, by omega, by go_num, hl, hL, O, Lib.hid (R.out.more (by omega)), K⟩, ?_⟩
          simp [intOf]; omega
        · go_wp2_with fail
          refine ⟨⟨k + 1, E', by omega, by go_num, hl', Lib.hid (hL'.out (by first | rfl | trivial)), O6, Lib.hid (R.out.more (by omega)), K⟩, ?_⟩
          simp [intOf]; omega
      · obtain rfl : k = M := by omega
        obtain ⟨g, cap, hv⟩ := O.out.len
        subst hv
        obtain ⟨ln, hln⟩ : ∃ x, Hid (E.length = x) := ⟨_, Lib.hid rfl⟩
        rw [hln.out] at O hl ⊢
        by_cases h0 : ln = 0
        · subst h0
          go_wp2_with fail
          go_ret
          exact ⟨_, E, rfl, O.out, by rw [hln.out]; exact hl, fun k hk => log_num hL.out hk, R.out.more (by omega), K.out⟩
        · have h0' : 0 < ln := by omega
          go_wp2_with fail
          refine (pick_any 30 r _ _ R.out (by omega)).mono ?_
          rintro e w7 ⟨z2, rfl, z20, z21', hr', hk'⟩
          have z21 := z21' (by omega)
          replace O := Lib.hid (O.out.keep hk' hrl)
          replace K := Lib.hid (K.out.trans (hk'.mono K.out.size))
          replace R := Lib.hid hr'
          clear z21' hr' hk'
          by_cases hz : z2 = 0
          · subst hz
            go_wp2_with fail
            refine (pick_any _ r _ _ R.out (by omega)).mono ?_
            rintro e w8 ⟨j, rfl, j0, j1', hr', hk'⟩
            have j1 := j1' (by omega)
            replace O := Lib.hid (O.out.keep hk' hrl)
            replace K := Lib.hid (K.out.trans (hk'.mono K.out.size))
            replace R := Lib.hid hr'
            obtain ⟨j, rfl⟩ := Int.eq_ofNat_of_zero_le j0
            have hjE : j < E.length := by rw [hln.out]; omega
            clear j1' hr' hk'
            have BA := (Below.refl w8.heap.size w8).alloc (Nat.le_refl _) (.cells #[.int .i64 0, .int .i64 99, .int .i64 100] 3)
            replace O := Lib.hid (O.out.up BA)
            have hs8 := K.out.size
            replace R := Lib.hid (R.out.kept (BA.mono (Nat.succ_le_of_lt R.out.lt)))
            replace K := Lib.hid (K.out.trans (Keep.of_below (BA.mono hs8)))
            have L8 := Lib.hid (heap_alloc_new w8 (.cells #[.int .i64 0, .int .i64 99, .int .i64 100] 3))
            clear BA
            go_wp2_with fail
            refine (pick_any 3 r _ _ R.out (by omega)).mono ?_
            rintro e w9 ⟨i, rfl, i0, i1', hr', hk'⟩
            have i1 := i1' (by omega)
            have hrx : r < w8.heap.size := by omega
            have L9 := (hk'.block w8.heap.size (by simp) (by omega)).trans L8.out
            replace O := Lib.hid (O.out.keep hk' hrl)
            replace K := Lib.hid (K.out.trans (hk'.mono K.out.size))
            replace R := Lib.hid hr'
            obtain ⟨l0, l1, l2, _, _, _⟩ := blk3 L9
            have hll := lt_of_heap L9
            obtain ⟨⟨y7, c7⟩, f7, hgl, hgB⟩ := O.out.cell7 hjE
            have hs9 := K.out.size
            have hN := Lib.hid (fun (s : Int) => O.out.setq hjE s)
            have hKN := Lib.hid (fun (s : Int) => K.out.setCell (p := ⟨g, j * 9 + 7, none⟩) hgB (.int .i64 s))
            have hRN := Lib.hid (fun (s : Int) => R.out.setCell (p := ⟨g, j * 9 + 7, none⟩) (by show r < g; omega) (.int .i64 s))
            clear i1' hr' hk' L8
            rcases (show i = 0 ∨ i = 1 ∨ i = 2 by omega) with rfl | rfl | rfl
            · go_wp2_with fail
              go_ret
              exact ⟨_, _, rfl, hN.out 0, by rw [List.length_set, hln.out]; exact hl, fun i hi => set_id hjE (fun i hi => log_num hL.out hi) _ i (by rw [List.length_set] at hi; exact hi), (hRN.out 0).more (by omega), hKN.out 0⟩
            · go_wp2_with fail
              go_ret
              exact ⟨_, _, rfl, hN.out 99, by rw [List.length_set, hln.out]; exact hl, fun i hi => set_id hjE (fun i hi => log_num hL.out hi) _ i (by rw [List.length_set] at hi; exact hi), (hRN.out 99).more (by omega), hKN.out 99⟩
            · go_wp2_with fail
              go_ret
              exact ⟨_, _, rfl, hN.out 100, by rw [List.length_set, hln.out]; exact hl, fun i hi => set_id hjE (fun i hi => log_num hL.out hi) _ i (by rw [List.length_set] at hi; exact hi), (hRN.out 100).more (by omega), hKN.out 100⟩
          · have hzb : (z2 == 0) = false := by simpa using hz
            go_wp2_with fail
            go_ret
            exact ⟨_, E, rfl, O.out, by rw [hln.out]; exact hl, fun k hk => log_num hL.out hk, R.out.more (by omega), K.out⟩

/-- What DrawLogValid leaves. -/
def DlvP (w : World) (e : Ending) (w' : World) : Prop := ∃ v E, e = .returned v ∧ EnO w' w.heap.size v E ∧ E.length ≤ 12 ∧ (∀ k, k < E.length → okP (E.getD k en0).id = true) ∧ Below w.heap.size w w'
end Go.Proofs.YtlipmjbeiiifkaaDoor

/- DrawPropose. -/
namespace Go.Proofs.YtlipmjbeiiifkaaDoor
open Go.RowKit
set_option linter.unusedVariables false

/-- What DrawPropose leaves. -/
def DprP (w : World) (e : Ending) (w' : World) : Prop :=
  ∃ v E p k key c, e = .returned (.tuple #[v, .int .i64 p, .agg #[.int .i64 k, .int .i64 key, .int .i64 c]]) ∧ EnO w' w.heap.size v E ∧ E.length ≤ 12 ∧ (-4 ≤ p ∧ p ≤ 3) ∧ Below w.heap.size w w'
theorem put3_at {w : World} {b : Nat} {t : TypeId} {y0 y1 y2 : Value} (x0 x1 x2 : Value) (h : w.heap[b]? = some (.cells #[y0, y1, y2] t (0, 0))) :
    (((w.setCell ⟨b, 0, none⟩ x0).setCell ⟨b, 1, none⟩ x1).setCell ⟨b, 2, none⟩ x2).heap[b]? = some (.cells #[x0, x1, x2] t (0, 0)) := by
  have e := heap_setCell_same _ b 2 _ _ x2 (heap_setCell_same _ b 1 _ _ x1 (heap_setCell_same _ b 0 _ _ x0 h))
  simp only [List.setIfInBounds_toArray, List.set_cons_zero, List.set_cons_succ] at e
  exact e
theorem cm_resDr (tm : Array Value) (w : World) (b : Nat) (l n x0 x1 x2 : Value) (t : TypeId) (h1 : tm[2]? = some l) (h2 : tm[3]? = some n) (h3 : tm[4]? = some (.pointer (some ⟨b, 0, none⟩))) (h : w.heap[b]? = some (.cells #[x0, x1, x2] t (0, 0))) :
    (results Tryd.f10 tm).run Tryd.prog w = .ok (.tuple #[l, n, .agg #[x0, x1, x2]]) w := by
  obtain ⟨t0, t1, t2, _, _, _⟩ := blk3 h
  simp [results, Tryd.results10, go_sem, h1, h2, h3, t0, t1, t2]
set_option maxRecDepth 100000 in
set_option maxHeartbeats 4000000 in
theorem dpr_any (a : Option Addr) (len cap : Nat) (w : World) (hc : CodeIn w a len cap) (hcap : cap ≤ maxLen) :
    Calls Tryd.prog 10 #[.slice a len cap] w (DprP w) := by
  have al := (Below.refl w.heap.size w).alloc (Nat.le_refl _) (.cells #[.int .i64 0, .int .i64 0, .int .i64 0] 25)
  have hc := Lib.hid (hc.up al)
  have al := Lib.hid al
  have A := Lib.hid (heap_alloc_new w (.cells #[.int .i64 0, .int .i64 0, .int .i64 0] 25))
  go_enter Tryd.func10, Tryd.ntmps10
  go_wp2_with fail
  refine (open_any a len cap _ hc.out hcap).mono ?_
  rintro e w1 ⟨r, rfl, hr0, hr', hb'⟩
  have s1 : w.heap.size + 1 ≤ w1.heap.size := by simpa using hb'.size
  have hr0' : w.heap.size + 1 ≤ r := by simpa using hr0
  replace A := Lib.hid ((hb'.block w.heap.size (by simp)).trans A.out)
  have D1 : Hid (Below w.heap.size w w1) := Lib.hid (al.out.trans (hb'.mono (by simp)))
  have R := Lib.hid hr'
  have hrl := hr'.lt
  clear hr' hb' hc al hr0
  go_wp2_with fail
  refine (dlog_any r 0 _ R.out (by omega)).mono ?_
  rintro e w2 ⟨v, E, rfl, O, hl, _, hr', hk⟩
  have s2 := hk.size
  obtain ⟨g, cap', hv⟩ := O.len
  subst hv
  have O := Lib.hid O
  have D2 := Lib.hid (D1.out.trans ((hk.mono (show w.heap.size ≤ w1.heap.size by omega)).below (by omega)))
  replace A := Lib.hid ((hk.block w.heap.size (by omega) (by omega)).trans A.out)
  replace R := Lib.hid hr'
  clear hk D1 hr'
  have D := D2
  clear D2
  go_wp2_with fail
  refine (pick_any 4 r _ _ R.out (by omega)).mono ?_
  rintro e w3 ⟨x, rfl, x0, x1', hr', hk'⟩
  have x1 := x1' (by omega)
  have hs := D.out.size
  replace O := Lib.hid (O.out.keep hk' hrl)
  replace A := Lib.hid ((hk'.block w.heap.size (lt_of_heap A.out) (by omega)).trans A.out)
  replace D := Lib.hid (D.out.trans ((hk'.mono hs).below (by omega)))
  replace R := Lib.hid hr'
  clear hk' hr' x1' hs
  go_wp2_with fail
  refine (pick_any 20 r _ _ R.out (by omega)).mono ?_
  rintro e w4 ⟨y, rfl, y0, y1', hr', hk'⟩
  have y1 := y1' (by omega)
  have hs := D.out.size
  replace O := Lib.hid (O.out.keep hk' hrl)
  replace A := Lib.hid ((hk'.block w.heap.size (lt_of_heap A.out) (by omega)).trans A.out)
  replace D := Lib.hid (D.out.trans ((hk'.mono hs).below (by omega)))
  replace R := Lib.hid hr'
  clear hk' hr' y1' hs
  go_wp2_with fail
  refine (cmd_any r _ _ R.out (by omega)).mono ?_
  rintro e w5 ⟨k, key, c, rfl, _, _, _, _, hk'⟩
  have hs := D.out.size
  replace O := Lib.hid (O.out.keep hk' hrl)
  replace A := Lib.hid ((hk'.block w.heap.size (lt_of_heap A.out) (by omega)).trans A.out)
  replace D := Lib.hid (D.out.trans ((hk'.mono hs).below (by omega)))
  clear hk' hs R
  obtain ⟨b0, b1, b2, f0, f1, f2⟩ := blk3 A.out
  have hal := lt_of_heap A.out
  go_wp2_with fail
  refine bodyPost_ret (cm_resDr _ _ _ _ _ _ _ _ _ rfl rfl rfl (put3_at _ _ _ A.out)) rfl ⟨_, E, _, k, key, c, rfl, ?_, hl, by omega, ?_⟩
  · have O2 := O.out
    obtain ⟨g', cap2, cur, t, e, h0, hg, h1, h2, h3⟩ := O2
    refine ⟨g', cap2, cur, t, e, by omega, ?_, h1, h2, fun i hi => ?_⟩
    · rw [heap_setCell_other _ _ _ _ (by show g' ≠ w.heap.size; omega), heap_setCell_other _ _ _ _ (by show g' ≠ w.heap.size; omega), heap_setCell_other _ _ _ _ (by show g' ≠ w.heap.size; omega)]; exact hg
    · obtain ⟨b, u, q1, q2, hcc, ho⟩ := h3 i hi
      refine ⟨b, u, by omega, q2, hcc, ho.same ?_⟩
      rw [heap_setCell_other _ _ _ _ (by show b ≠ w.heap.size; omega), heap_setCell_other _ _ _ _ (by show b ≠ w.heap.size; omega), heap_setCell_other _ _ _ _ (by show b ≠ w.heap.size; omega)]
  · exact ((D.out.setCell (p := ⟨w.heap.size, 0, none⟩) (Nat.le_refl _) _).setCell (p := ⟨w.heap.size, 1, none⟩) (Nat.le_refl _) _).setCell (p := ⟨w.heap.size, 2, none⟩) (Nat.le_refl _) _
end Go.Proofs.YtlipmjbeiiifkaaDoor

/- The walk of FnProposeAttrs. -/
namespace Go.Proofs.YtlipmjbeiiifkaaDoor
open Go.RowKit
set_option linter.unusedVariables false

set_option maxRecDepth 100000 in
set_option maxHeartbeats 8000000 in
theorem fnProposeAttrs_walk (a : Option Addr) (len cap : Nat) (w : World) (hc : CodeIn w a len cap) (hcap : cap ≤ maxLen) (hT : TabIn w) :
    Calls Tryd.prog 4 #[.slice a len cap] w fun e w' => e = .returned (.bool true) ∧ Below w.heap.size w w' := by
  have dn := dpr_any a len cap w hc hcap
  by_cases hlen : 1048576 < len
  · go_enter Tryd.func4, Tryd.ntmps4
    go_wp2_with fail
    go_ret
    exact ⟨rfl, Below.refl _ _⟩
  · have hT := Lib.hid hT
    go_enter Tryd.func4, Tryd.ntmps4
    go_wp2_with fail
    refine dn.mono ?_
    rintro e w1 ⟨v, E, p, k, key, c, rfl, O, hl, hp, B⟩
    obtain ⟨g, cp, hv⟩ := O.len
    subst hv
    have BA := (Below.refl w1.heap.size w1).alloc (Nat.le_refl _) (.cells #[.int .i64 k, .int .i64 key, .int .i64 c] 25)
    have C2 := Lib.hid (heap_alloc_new w1 (.cells #[.int .i64 k, .int .i64 key, .int .i64 c] 25))
    have O2 := Lib.hid (O.up BA).read
    have D := Lib.hid (bstep B BA)
    have T2 := Lib.hid (TabIn.up hT.out D.out (Nat.le_refl _))
    clear BA B O dn hT
    go_upto_region 4 with fail
    obtain ⟨cb, hx2⟩ : ∃ c, Hid (w1.heap.size = c) := ⟨_, Lib.hid rfl⟩
    rw [hx2.out] at C2 ⊢
    generalize w1.alloc (.cells #[.int .i64 k, .int .i64 key, .int .i64 c] 25) = w2 at C2 O2 D T2 ⊢
    clear hx2
    have iv := iprop_any _ E p k key c w2 T2.out O2.out
    have sv := fun W (hb : Below w2.heap.size w2 W) => sprop_any _ E p k key c W (O2.out.up hb (Nat.le_refl _))
    obtain ⟨⟨N, Y, q⟩, hR⟩ : ∃ r, Hid (propR E p k key c = r) := ⟨_, Lib.hid rfl⟩
    unfold PrP at iv
    unfold PmP at sv
    rw [hR.out] at iv sv
    dsimp only at iv sv
    unfold env at iv sv
    obtain ⟨n, hn⟩ : ∃ n, Hid (E.length = n) := ⟨_, Lib.hid rfl⟩
    rw [hn.out] at iv sv O2 hl ⊢
    obtain ⟨b0, b1, b2, _, _, _⟩ := blk3 C2.out
    have hcl := lt_of_heap C2.out
    go_wp2_with fail
    refine iv.mono ?_
    rintro e w3 ⟨v5, u5, S5, rfl, _, _, O5, L5, B⟩
    obtain ⟨g5, c5, hv5, _⟩ := L5.shape
    subst hv5
    obtain ⟨va5, vn5, vc5, rfl⟩ : ∃ ua un uc, u5 = .slice ua un uc := by obtain ⟨a, c, e, _⟩ := O5.read; exact ⟨a, _, c, e⟩
    have BA := (Below.refl w3.heap.size w3).alloc (Nat.le_refl _) (.cells #[.int .i64 Y.id.1, .int .i64 Y.id.2, .int .i64 Y.bal, .int .i64 Y.st, .int .i64 Y.k, .int .i64 Y.key, .int .i64 Y.v, .int .i64 Y.seq, .slice va5 vn5 vc5] 32)
    have G5 := Lib.hid (show BxE (w3.alloc (.cells #[.int .i64 Y.id.1, .int .i64 Y.id.2, .int .i64 Y.bal, .int .i64 Y.st, .int .i64 Y.k, .int .i64 Y.key, .int .i64 Y.v, .int .i64 Y.seq, .slice va5 vn5 vc5] 32)) w3.heap.size Y (.slice va5 vn5 vc5) from heap_alloc_new _ _)
    have I5 := Lib.hid ((O5.up BA).read)
    have L5 := Lib.hid ((L5.up BA).read)
    have F := Lib.hid (bstep B BA)
    have C3 := Lib.hid (bblk F.out hcl C2.out)
    clear iv B BA O5 b0 b1 b2 hcl C2
    go_upto_region 5 with fail
    obtain ⟨xb5, hx5⟩ : ∃ c, Hid (w3.heap.size = c) := ⟨_, Lib.hid rfl⟩
    rw [hx5.out] at G5 ⊢
    generalize w3.alloc (.cells #[.int .i64 Y.id.1, .int .i64 Y.id.2, .int .i64 Y.bal, .int .i64 Y.st, .int .i64 Y.k, .int .i64 Y.key, .int .i64 Y.v, .int .i64 Y.seq, .slice va5 vn5 vc5] 32) = w4 at G5 I5 L5 F C3 ⊢
    clear hx5
    obtain ⟨b0, b1, b2, _, _, _⟩ := blk3 C3.out
    have hcl := lt_of_heap C3.out
    go_wp2_with fail
    refine (sv _ F.out).mono ?_
    rintro e w5 ⟨v6, u6, rfl, O6, I6, B⟩
    obtain ⟨g6, c6, hv6⟩ := O6.len
    subst hv6
    obtain ⟨va6, vn6, vc6, rfl⟩ : ∃ ua un uc, u6 = .slice ua un uc := by obtain ⟨a, c, e, _⟩ := I6; exact ⟨a, _, c, e⟩
    have BA := (Below.refl w5.heap.size w5).alloc (Nat.le_refl _) (.cells #[.int .i64 Y.id.1, .int .i64 Y.id.2, .int .i64 Y.bal, .int .i64 Y.st, .int .i64 Y.k, .int .i64 Y.key, .int .i64 Y.v, .int .i64 Y.seq, .slice va6 vn6 vc6] 32)
    have G6 := Lib.hid (show BxE (w5.alloc (.cells #[.int .i64 Y.id.1, .int .i64 Y.id.2, .int .i64 Y.bal, .int .i64 Y.st, .int .i64 Y.k, .int .i64 Y.key, .int .i64 Y.v, .int .i64 Y.seq, .slice va6 vn6 vc6] 32)) w5.heap.size Y (.slice va6 vn6 vc6) from heap_alloc_new _ _)
    have I6 := Lib.hid (I6.up BA (Nat.le_refl _))
    have L6 := Lib.hid ((O6.up BA).read)
    have B2 := bstep B BA
    replace G5 := Lib.hid (G5.out.up B2)
    replace I5 := Lib.hid (I5.out.up B2 (Nat.le_refl _))
    replace L5 := Lib.hid (L5.out.up B2 (Nat.le_refl _))
    replace C3 := Lib.hid (bblk B2 hcl C3.out)
    replace F := Lib.hid (bstep F.out B2)
    clear sv B BA B2 O6 b0 b1 b2 hcl
    go_upto_region 6 with fail
    obtain ⟨xb6, hx6⟩ : ∃ c, Hid (w5.heap.size = c) := ⟨_, Lib.hid rfl⟩
    rw [hx6.out] at G6 ⊢
    generalize w5.alloc (.cells #[.int .i64 Y.id.1, .int .i64 Y.id.2, .int .i64 Y.bal, .int .i64 Y.st, .int .i64 Y.k, .int .i64 Y.key, .int .i64 Y.v, .int .i64 Y.seq, .slice va6 vn6 vc6] 32) = w6 at G5 I5 L5 G6 I6 L6 F C3 ⊢
    clear hx6
    have hm12 : N.length ≤ 12 := by have := propR_len E p k key c; rw [hR.out] at this; exact this
    obtain ⟨m, hm⟩ : ∃ m, Hid (N.length = m) := ⟨_, Lib.hid rfl⟩
    have se := fun W (hb : Below w6.heap.size w6 W) => sameE_self Y (.slice va5 vn5 vc5) (.slice va6 vn6 vc6) W (I5.out.up hb (Nat.le_refl _)) (I6.out.up hb (Nat.le_refl _))
    have sm := fun W (hb : Below w6.heap.size w6 W) => smL_any _ _ N W (L5.out.up hb (Nat.le_refl _)) (L6.out.up hb (Nat.le_refl _))
    unfold env at se
    rw [hm.out] at sm L5 L6 hm12 ⊢
    obtain ⟨⟨p0, p1, p2, p3, p4, p5, p6, p7, p8⟩, pl⟩ := G5.out.cells
    obtain ⟨⟨r0, r1, r2, r3, r4, r5, r6, r7, r8⟩, rl⟩ := G6.out.cells
    go_wp2_with fail
    refine (se _ (Below.refl _ _)).mono ?_
    rintro e w7 ⟨rfl, B⟩
    have K7 := Lib.hid B
    clear B p0 p1 p2 p3 p4 p5 p6 p7 p8 pl r0 r1 r2 r3 r4 r5 r6 r7 r8 rl
    go_wp2_with fail
    refine (sm _ K7.out).mono ?_
    rintro e w8 ⟨rfl, B⟩
    replace K7 := Lib.hid (bstep K7.out B)
    clear B
    cases q
    · have G5b := G5.out.up K7.out
      have G6b := G6.out.up K7.out
      obtain ⟨⟨p0, p1, p2, p3, p4, p5, p6, p7, p8⟩, pl⟩ := G5b.cells
      obtain ⟨⟨r0, r1, r2, r3, r4, r5, r6, r7, r8⟩, rl⟩ := G6b.cells
      clear G5b G6b
      go_wp2_with fail
      refine (se _ K7.out).mono ?_
      rintro e w9 ⟨rfl, B⟩
      replace K7 := Lib.hid (bstep K7.out B)
      clear B p0 p1 p2 p3 p4 p5 p6 p7 p8 pl r0 r1 r2 r3 r4 r5 r6 r7 r8 rl
      go_wp2_with fail
      refine (sm _ K7.out).mono ?_
      rintro e w10 ⟨rfl, B⟩
      replace K7 := Lib.hid (bstep K7.out B)
      have D9 := Lib.hid (bstep D.out (bstep F.out K7.out))
      clear B
      go_wp2_with fail
      go_ret
      exact ⟨rfl, D9.out⟩
    · clear se sm
      have hP := prop_is (E := E) (p := p) (k := k) (key := key) (v := c) (by rw [hR.out])
      rw [hR.out] at hP
      obtain ⟨hlog, hN, hY, henB, hN12⟩ := hP
      dsimp only at hN hY
      rw [← hY] at hN henB hN12
      have hbd := enB_of henB
      have e1 : Y.id = (p, topF (ofR p) (fun x => x.id.2) E + 1) := by rw [hY]; rfl
      have e2 : Y.k = k ∧ Y.key = key ∧ Y.v = c ∧ Y.bal = 0 ∧ Y.st = 1 := by rw [hY]; exact ⟨rfl, rfl, rfl, rfl, rfl⟩
      have e3 : Y.seq = topE (clsE E Y.id k key) + 1 ∧ Y.deps = idsE (clsE E Y.id k key) := by rw [e1, hY]; exact ⟨rfl, rfl⟩
      have hcv : cvB k key c = true := by have := hbd.2.2.2.2.2.2; rw [e2.1, e2.2.1, e2.2.2.1] at this; exact this
      replace G5 := Lib.hid (G5.out.up K7.out)
      replace I5 := Lib.hid (I5.out.up K7.out (Nat.le_refl _))
      replace L5 := Lib.hid (L5.out.up K7.out (Nat.le_refl _))
      replace C3 := Lib.hid (bblk K7.out (lt_of_heap C3.out) C3.out)
      replace F := Lib.hid (bstep F.out K7.out)
      have O8 := Lib.hid (O2.out.up F.out (Nat.le_refl _))
      have T8 := Lib.hid (TabIn.up T2.out F.out (Nat.le_refl _))
      have D8 := Lib.hid (bstep D.out F.out)
      clear G6 I6 L6 F K7 O2 T2 D hR
      have hlat : Hid (lattR E (Y.id.1, Y.id.2) k key c = (Y.seq, Y.deps, true)) := Lib.hid (by
        have h4 : topE (clsE E Y.id k key) + 1 ≤ 99 := by rw [← e3.1]; exact hbd.2.1.2
        rw [show ((Y.id.1, Y.id.2) : Pid) = Y.id from rfl, lattR_good hlog hbd.1 hcv h4, ← e3.1, ← e3.2])
      have hput : Hid (lputR E Y = (N, true)) := Lib.hid (by rw [lputR_good hlog henB hN12, hN])
      have hmn : Hid (m = n + 1) := Lib.hid (by
        have := prop_len (p := p) (k := k) (key := key) (v := c) hlog
        rw [← hY, ← hN, hm.out, hn.out] at this; exact this)
      clear hlog hN hY henB hN12 e1 e2 e3 hcv hbd
      have la := ilatt_any _ E Y.id.1 Y.id.2 k key c w8 T8.out O8.out
      unfold LatP at la
      rw [hlat.out] at la
      dsimp only at la
      obtain ⟨⟨p0, p1, p2, p3, p4, p5, p6, p7, p8⟩, pl⟩ := G5.out.cells
      obtain ⟨b0, b1, b2, _, _, _⟩ := blk3 C3.out
      have hcl := lt_of_heap C3.out
      go_wp2_with fail
      refine la.mono ?_
      rintro e w9 ⟨⟨u9, rfl, b9, _, O9⟩, B⟩
      obtain ⟨cu9, hu9⟩ : ∃ c, u9 = .slice (some ⟨b9, 0, none⟩) Y.deps.length c := by obtain ⟨c, e, _⟩ := O9.shape; exact ⟨_, e⟩
      subst hu9
      have O9 := Lib.hid O9.read
      replace G5 := Lib.hid (G5.out.up B)
      replace I5 := Lib.hid (I5.out.up B (Nat.le_refl _))
      replace L5 := Lib.hid (L5.out.up B (Nat.le_refl _))
      replace O8 := Lib.hid (O8.out.up B (Nat.le_refl _))
      replace D8 := Lib.hid (bstep D8.out B)
      clear B la b0 b1 b2 hcl C3 T8 p0 p1 p2 p3 p4 p5 p6 p7 p8 pl
      have lp := ilput_any _ E Y (.slice va5 vn5 vc5) w9 O8.out I5.out
      unfold LpZ at lp
      rw [hput.out] at lp
      dsimp only at lp
      unfold env at lp
      obtain ⟨⟨p0, p1, p2, p3, p4, p5, p6, p7, p8⟩, pl⟩ := G5.out.cells
      go_wp2_with fail
      refine lp.mono ?_
      rintro e w10 ⟨⟨v10, rfl, L10⟩, B⟩
      obtain ⟨g10, c10, hv10, _⟩ := L10.shape
      subst hv10
      have L10 := Lib.hid L10.read
      rw [hm.out] at L10 ⊢
      replace G5 := Lib.hid (G5.out.up B)
      replace I5 := Lib.hid (I5.out.up B (Nat.le_refl _))
      replace L5 := Lib.hid (L5.out.up B (Nat.le_refl _))
      replace O9 := Lib.hid (O9.out.up B (Nat.le_refl _))
      replace D8 := Lib.hid (bstep D8.out B)
      clear B lp O8 p0 p1 p2 p3 p4 p5 p6 p7 p8 pl
      obtain ⟨⟨p0, p1, p2, p3, p4, p5, p6, p7, p8⟩, pl⟩ := G5.out.cells
      have si := sameg_any _ _ Y.deps Y.deps w10 O9.out I5.out
      rw [show decide (Y.deps = Y.deps) = true from decide_eq_true rfl] at si
      have hmn := hmn.out
      go_wp2_with fail
      refine si.mono ?_
      rintro e w11 ⟨rfl, B⟩
      replace L5 := Lib.hid (L5.out.up B (Nat.le_refl _))
      replace L10 := Lib.hid (L10.out.up B (Nat.le_refl _))
      replace D8 := Lib.hid (bstep D8.out B)
      clear B si p0 p1 p2 p3 p4 p5 p6 p7 p8 pl
      have sl := smL_any _ _ N w11 L10.out L5.out
      rw [hmn] at sl
      go_wp2_with fail
      refine sl.mono ?_
      rintro e w12 ⟨rfl, B⟩
      replace D8 := Lib.hid (bstep D8.out B)
      clear B sl
      have hmi : (m : Int) = (n : Int) + 1 := by omega
      go_wp2_with fail
      go_ret
      exact ⟨rfl, D8.out⟩
end Go.Proofs.YtlipmjbeiiifkaaDoor
