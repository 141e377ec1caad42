/- Texts laid together. -/
import Derived.Test.YtiolhjjkjmepcaaGreatDoorC13
import Derived.Test.YtiolhjjkjmepcaaGreatDoorC08
import Derived.Test.YtiolhjjkjmepcaaGreatDoorC17
import Derived.BigQuiet
import Derived.Deep.DeepCutAuto
import Derived.Test.YtiolhjjkjmepcaaGreatDoorC19
import Derived.Test.YtiolhjjkjmepcaaGreatDoorC01
import Derived.Test.YtiolhjjkjmepcaaGreatDoorC18
import Derived.Deep.RegionWith
import Derived.Maps.AppendAt
import Derived.Test.YtiolhjjkjmepcaaGreatDoorC07
import Derived.Test.YtiolhjjkjmepcaaGreatDoorC21
import Derived.IntWalk
import Derived.Test.YtiolhjjkjmepcaaGreatDoorC22
import Derived.Test.YtiolhjjkjmepcaaGreatDoorC20
/- The model's l11Put at no entries, and LogPut. -/
namespace Go.Proofs.YtiolhjjkjmepcaaGreatDoor
open Go.RowKit
set_option linter.unusedVariables false

set_option maxRecDepth 100000 in
set_option maxHeartbeats 4000000 in
theorem sput11_nil (a : Option Addr) (ca : Nat) (X : En) (u : Value) (w : World) (hu : Ids w u X.deps) :
    Calls Tryz.prog 70 #[.slice a 0 ca, env X u] w fun e w' => (∃ v, e = .returned v ∧ EnO w' w.heap.size v (endE X (runE X []))) ∧ Below w.heap.size w w' := by
  obtain ⟨i0, hi, hz0, hz1, hz2⟩ := info_parts info_en
  obtain ⟨ua0, un0, uc0, rfl⟩ : ∃ ua un uc, u = .slice ua un uc := by obtain ⟨a, c, e, _⟩ := hu; exact ⟨a, _, c, e⟩
  have uat := fun W (hb : Below w.heap.size w W) => hu.up hb (Nat.le_refl _)
  obtain ⟨LL, hLL⟩ : ∃ l : EL, Hid (l = []) := ⟨[], Lib.hid rfl⟩
  have P : Hid (PtE w ((w.alloc (.cells #[.int .i64 X.id.1, .int .i64 X.id.2, .int .i64 X.bal, .int .i64 X.st, .int .i64 X.k, .int .i64 X.key, .int .i64 X.v, .int .i64 X.seq, .slice ua0 un0 uc0] 30)).alloc (.cells #[] 30)) X (.slice ua0 un0 uc0) (.slice (some ⟨w.heap.size + 1, 0, none⟩) 0 0) LL) := Lib.hid
    ⟨by rw [hLL.out]; have := er_new (w.alloc (.cells #[.int .i64 X.id.1, .int .i64 X.id.2, .int .i64 X.bal, .int .i64 X.st, .int .i64 X.k, .int .i64 X.key, .int .i64 X.v, .int .i64 X.seq, .slice ua0 un0 uc0] 30)) (w.heap.size + 1) (by simp); simpa using this, (Below.heap_alloc _ _ _ (by simp)).trans (heap_alloc_new w _), ((Below.refl _ _).alloc (Nat.le_refl _) _).alloc (by simp) _⟩
  have hM : Hid (LL.map Prod.fst = []) := Lib.hid (by rw [hLL.out]; rfl)
  have hLl : LL.length ≤ 24 := by rw [hLL.out]; exact Nat.zero_le _
  have ui := uat _ P.out.kp
  clear hu hLL uat
  unfold env
  go_enter Tryz.func70, Tryz.ntmps70
  go_wp2_with fail
  refine wp_loop_rounds 1 ?_
  rw [rounds_succ]
  generalize (w.alloc (.cells #[.int .i64 X.id.1, .int .i64 X.id.2, .int .i64 X.bal, .int .i64 X.st, .int .i64 X.k, .int .i64 X.key, .int .i64 X.v, .int .i64 X.seq, .slice ua0 un0 uc0] 30)).alloc (.cells #[] 30) = w0 at P ui ⊢
  obtain ⟨⟨y0, y1, y2, y3, y4, y5, y6, y7, y8⟩, _, ys⟩ := nine_all P.out.bx
  go_wp2_with fail
  refine (copy_at X.id.1 X.id.2 X.bal X.st X.k X.key X.v X.seq X.deps (.slice ua0 un0 uc0) _ ui).mono ?_
  rintro e wc6 ⟨⟨cu6, rfl, hrow⟩, B⟩
  have hDl : X.deps.length ≤ 2000000 := by obtain ⟨_, _, _, _, hh, _⟩ := ui; exact hh
  obtain ⟨b6, hb6, hO⟩ := hrow.own hDl
  obtain ⟨cc6, rfl, _⟩ := hO.shape
  have hx6 := Lib.hid (P.out.fresh (x := (X, .slice (some ⟨b6, 0, none⟩) X.deps.length cc6)) hb6 hO)
  replace P := Lib.hid (P.out.up B)
  have hPs := P.out.kp.size
  have hPr := Lib.hid P.out.er.row
  obtain ⟨m, hm'⟩ : ∃ m, Hid (LL.length = m) := ⟨_, Lib.hid rfl⟩
  rw [hm'.out] at hPr hLl
  clear hrow hO B
  clear y0 y1 y2 y3 y4 y5 y6 y7 y8 ys
  clear ui
  go_wp2_with (at_builtin; refine wpList_append_own_at _ rfl _ _ 23 rfl (w.heap.size + 1) 30 i0 (.agg #[.int .i64 0, .int .i64 0, .int .i64 0, .int .i64 0, .int .i64 0, .int .i64 0, .int .i64 0, .int .i64 0, .slice none 0 0]) 9 88 Tryz.underlying23 hi hz0 hz1 hz2 rfl (by decide) _ m (flatE LL) rfl (hPr.out.alloc _) ⟨wc6.heap.size, 0, none⟩ 1 1 [.int .i64 X.id.1, .int .i64 X.id.2, .int .i64 X.bal, .int .i64 X.st, .int .i64 X.k, .int .i64 X.key, .int .i64 X.v, .int .i64 X.seq, .slice (some ⟨b6, 0, none⟩) X.deps.length cc6] rfl rfl ?fc1 ?fc2 ?fc3 ?fc4 ?fc5 ?_)
  case fc1 => exact nine_srcE _ _ _ _ _ _ _ _ _ _ _ _ (by simp)
  case fc2 => exact nine_oneE _ _ _ _ _ _ _ _ _ _ _
  case fc3 => unfold maxLen; omega
  case fc4 => omega
  case fc5 => first | omega | (simp; omega)
  intro v' w' hown' hgrow hnil hat
  obtain ⟨LL2, P5, hM5, hl5⟩ := P.out.next (x := (X, .slice (some ⟨b6, 0, none⟩) X.deps.length cc6)) (by rw [hm'.out]; exact hown') hgrow (fun e => hnil e) (hat.imp (fun h => h) (fun h => by simpa using h)) hx6.out hM.out hm'.out
  clear hown' hgrow hnil hat hPr hPs hx6 hM hb6 hDl hm' P
  have P := Lib.hid P5
  have hM := Lib.hid hM5
  replace hLl : LL2.length ≤ 25 := by omega
  clear P5 hM5 hl5
  have R := ((P.out.er.wide (Nat.le_succ _)).eno (by omega))
  rw [hM.out] at R
  replace R := Lib.hid (show EnO _ w.heap.size _ (endE X (runE X [])) from by simpa [endE, runE] using R)
  have B := Lib.hid P.out.kp
  clear P hM
  go_wp2_with fail
  go_ret
  exact ⟨⟨_, rfl, R.out⟩, B.out⟩
theorem sput11_any (u : Value) (E : List En) (X : En) (v : Value) (w : World) (hm : E.length ≤ 12) (h : Ens w u E) (hv : Ids w v X.deps) :
    Calls Tryz.prog 70 #[u, env X v] w fun e w' => (∃ v, e = .returned v ∧ EnO w' w.heap.size v (endE X (runE X E))) ∧ Below w.heap.size w w' := by
  obtain ⟨a, cap, rfl, h1, h2, h3⟩ := h
  rcases h3 with h3 | ⟨b, off, U, rfl, h4⟩
  · obtain rfl : E = [] := List.length_eq_zero_iff.1 h3
    exact sput11_nil a cap X v w hv
  · exact sput11_at b off cap E U X v w hm h4 hv
theorem EnO.len {w : World} {B : Nat} {v : Value} {E : List En} (h : EnO w B v E) : ∃ g cap, v = .slice (some ⟨g, 0, none⟩) E.length cap := by
  obtain ⟨g, cap, _, _, rfl, _⟩ := h; exact ⟨g, cap, rfl⟩

theorem EnO.wide {w : World} {B B' : Nat} {v : Value} {E : List En} (h : EnO w B v E) (hB : B' ≤ B) : EnO w B' v E := by
  obtain ⟨g, cap, cur, t, rfl, h0, hg, h1, h2, h3⟩ := h
  refine ⟨g, cap, cur, t, rfl, Nat.le_trans hB h0, hg, h1, h2, fun i hi => ?_⟩
  obtain ⟨b, u, q1, q2, hc, ho⟩ := h3 i hi
  exact ⟨b, u, Nat.le_trans hB q1, q2, hc, ho⟩
/-- What LogPut leaves. -/
def LpP (E : List En) (X : En) (w : World) (e : Ending) (w' : World) : Prop :=
  (∃ v, e = .returned (.tuple #[v, .bool (lputR E X).2]) ∧ EnO w' w.heap.size v (lputR E X).1) ∧ Below w.heap.size w w'
theorem lp_fail {E : List En} {X : En} {w w2 : World} (B : Below w.heap.size w w2) (h : lputR E X = ([], false)) : LpP E X w (.returned (.tuple #[.slice (some ⟨w2.heap.size, 0, none⟩) 0 0, .bool false])) (w2.alloc (.cells #[] 30)) := by
  unfold LpP
  rw [h]
  exact ⟨⟨_, rfl, (er_new w2 w.heap.size B.size).eno (Nat.zero_le _)⟩, B.alloc B.size _⟩

set_option maxRecDepth 100000 in
set_option maxHeartbeats 4000000 in
theorem slput_any (u : Value) (E : List En) (X : En) (v : Value) (w : World) (h : Ens w u E) (hv : Ids w v X.deps) :
    Calls Tryz.prog 42 #[u, env X v] w (LpP E X w) := by
  have sv := fun W (hb : Below w.heap.size w W) => slogv_any u E W (h.up hb (Nat.le_refl _))
  have se := fun W (hb : Below w.heap.size w W) => sentry_any X v W (hv.up hb (Nat.le_refl _))
  have sp := fun W (hm : E.length ≤ 12) (hb : Below w.heap.size w W) => sput11_any u E X v W hm (h.up hb (Nat.le_refl _)) (hv.up hb (Nat.le_refl _))
  obtain ⟨a, cap, hu⟩ : ∃ a cap, u = .slice a E.length cap := by obtain ⟨a, c, e, _⟩ := h; exact ⟨a, c, e⟩
  subst hu
  obtain ⟨ua0, un0, uc0, rfl⟩ : ∃ ua un uc, v = .slice ua un uc := by obtain ⟨a, c, e, _⟩ := hv; exact ⟨a, _, c, e⟩
  clear h hv
  obtain ⟨n, hn⟩ : ∃ n, Hid (E.length = n) := ⟨_, Lib.hid rfl⟩
  rw [hn.out] at sv sp ⊢
  have A0 := Lib.hid (heap_alloc_new w (.cells #[.int .i64 X.id.1, .int .i64 X.id.2, .int .i64 X.bal, .int .i64 X.st, .int .i64 X.k, .int .i64 X.key, .int .i64 X.v, .int .i64 X.seq, .slice ua0 un0 uc0] 30))
  have B0 := Lib.hid ((Below.refl w.heap.size w).alloc (Nat.le_refl _) (.cells #[.int .i64 X.id.1, .int .i64 X.id.2, .int .i64 X.bal, .int .i64 X.st, .int .i64 X.k, .int .i64 X.key, .int .i64 X.v, .int .i64 X.seq, .slice ua0 un0 uc0] 30))
  unfold env at sp se ⊢
  go_enter Tryz.func42, Tryz.ntmps42
  go_wp2_with fail
  refine (sv _ B0.out).mono ?_
  rintro e w1 ⟨rfl, B⟩
  have A1 := Lib.hid (bblk B (lt_of_heap A0.out) A0.out)
  have B1 := Lib.hid (bstep B0.out B)
  obtain ⟨q, hq⟩ : ∃ q, Hid (logB E = q) := ⟨_, Lib.hid rfl⟩
  rw [hq.out]
  clear B sv A0 B0
  obtain ⟨⟨y0, y1, y2, y3, y4, y5, y6, y7, y8⟩, _, ys⟩ := nine_all A1.out
  cases q
  · have R := Lib.hid (lp_fail B1.out (lputR_bad (e := X) hq.out))
    go_wp2_with fail
    go_ret2
    exact R.out
  · go_wp2_with fail
    refine (se _ B1.out).mono ?_
    rintro e w2 ⟨rfl, B⟩
    have A2 := Lib.hid (bblk B (lt_of_heap A1.out) A1.out)
    have B2 := Lib.hid (bstep B1.out B)
    obtain ⟨p, hp⟩ : ∃ q, Hid (enB X = q) := ⟨_, Lib.hid rfl⟩
    rw [hp.out]
    clear B se A1 B1 y0 y1 y2 y3 y4 y5 y6 y7 y8 ys
    obtain ⟨⟨y0, y1, y2, y3, y4, y5, y6, y7, y8⟩, _, ys⟩ := nine_all A2.out
    cases p
    · have R := Lib.hid (lp_fail B2.out (lputR_bad2 (E := E) hp.out))
      go_wp2_with fail
      go_ret2
      exact R.out
    · have hl := (log_of hq.out).1
      rw [hn.out] at hl
      have hs2 := B2.out.size
      have hA := Lib.hid (runE_put (e := X) (log_of hq.out).2.2)
      go_wp2_with fail
      refine (sp _ hl B2.out).mono ?_
      rintro e w3 ⟨⟨v3, rfl, O3⟩, B⟩
      rw [hA.out] at O3
      have B3 := Lib.hid (bstep B2.out B)
      obtain ⟨g, c, rfl⟩ := O3.len
      obtain ⟨m, hm⟩ : ∃ m, Hid ((putE X E).length = m) := ⟨_, Lib.hid rfl⟩
      have hm63 : m ≤ 25 := by
        have h1 := putE_len (e := X) (log_of hq.out).2.2
        rw [← hm.out, h1]
        have := hn.out; split <;> omega
      have O3 := Lib.hid O3
      rw [hm.out]
      clear B sp hA A2 B2 y0 y1 y2 y3 y4 y5 y6 y7 y8 ys
      by_cases h12 : m ≤ 12
      · have R := Lib.hid (lputR_good (E := E) hq.out hp.out (by rw [hm.out]; exact h12))
        have hg : ¬ 12 < m := by omega
        go_wp2_with fail
        go_ret2
        rw [LpP, R.out]
        exact ⟨⟨_, rfl, by have := O3.out; rw [hm.out] at this; exact this.wide hs2⟩, B3.out⟩
      · have R := Lib.hid (lp_fail B3.out (lputR_long (E := E) (e := X) (by rw [hm.out]; exact h12)))
        have hg : 12 < m := by omega
        go_wp2_with fail
        go_ret2
        exact R.out
end Go.Proofs.YtiolhjjkjmepcaaGreatDoor

/- The model's TakeEntry. -/
namespace Go.Proofs.YtiolhjjkjmepcaaGreatDoor
open Go.RowKit
set_option linter.unusedVariables false

/-- What the model's TakeEntry and FixEntry leave. -/
def StkP (Q : List En × Bool) (w : World) (e : Ending) (w' : World) : Prop :=
  ∃ v, e = .returned (.tuple #[v, .bool Q.2]) ∧ EnO w' w.heap.size v Q.1 ∧ Below w.heap.size w w'
theorem stk_fail {w W : World} (D : Below w.heap.size w W) : StkP ([], false) w (.returned (.tuple #[.slice (some ⟨W.heap.size, 0, none⟩) 0 0, .bool false])) (W.alloc (.cells #[] 30)) :=
  ⟨_, rfl, (er_new W w.heap.size D.size).eno (Nat.zero_le _), D.alloc D.size _⟩
theorem fixB_none {E : List En} {a : Pid} (h : ¬ a ∈ idsE E) : fixedB E a = false := by
  unfold fixedB; rw [lfindR_none (fun k hk e => h (mem_idsE.2 ⟨k, hk, e⟩))]; rfl
theorem passB_none {E : List En} {X : En} (h : ¬ X.id ∈ idsE E) : passB E X = false := by
  unfold passB; rw [lfindR_none (fun k hk e => h (mem_idsE.2 ⟨k, hk, e⟩))]; rfl
theorem fixB_at {E : List En} {a : Pid} {k : Nat} (hv : logB E = true) (hk : k < E.length) (e : (E.getD k en0).id = a) : fixedB E a = ((E.getD k en0).st == 3) := by
  unfold fixedB; rw [lfindR_some hv hk e]; simp
theorem passB_at {E : List En} {X : En} {k : Nat} (hv : logB E = true) (hk : k < E.length) (e : (E.getD k en0).id = X.id) : passB E X = decide (X.bal < (E.getD k en0).bal) := by
  unfold passB; rw [lfindR_some hv hk e]; simp
set_option maxRecDepth 100000 in
set_option maxHeartbeats 8000000 in
theorem stake_any (u ux : Value) (E : List En) (X : En) (w : World) (h : Ens w u E) (hu : Ids w ux X.deps) :
    Calls Tryz.prog 14 #[u, env X ux] w (StkP (takeR E X) w) := by
  obtain ⟨xa, xn, xc, rfl⟩ : ∃ ua un uc, ux = .slice ua un uc := by obtain ⟨a, c, e, _⟩ := hu; exact ⟨a, _, c, e⟩
  have sv := fun W (hb : Below w.heap.size w W) => slogv_any u E W (h.up hb (Nat.le_refl _))
  have ev := fun W (hb : Below w.heap.size w W) => sentry_any X (.slice xa xn xc) W (hu.up hb (Nat.le_refl _))
  have sa := fun W (hb : Below w.heap.size w W) => seat_any u E X.id.1 X.id.2 W (h.up hb (Nat.le_refl _))
  have sp := fun W (hb : Below w.heap.size w W) => slput_any u E X (.slice xa xn xc) W (h.up hb (Nat.le_refl _)) (hu.up hb (Nat.le_refl _))
  obtain ⟨la, lc, hlu, hl1, hl2, hl3⟩ := h
  subst hlu
  have hl3 := Lib.hid hl3
  obtain ⟨l, hl⟩ : ∃ n, Hid (E.length = n) := ⟨_, Lib.hid rfl⟩
  rw [hl.out] at sv sa sp hl1 hl2 ⊢
  unfold env at ev sp ⊢
  have A := Lib.hid (heap_alloc_new w (.cells #[.int .i64 X.id.1, .int .i64 X.id.2, .int .i64 X.bal, .int .i64 X.st, .int .i64 X.k, .int .i64 X.key, .int .i64 X.v, .int .i64 X.seq, .slice xa xn xc] 30))
  have D := Lib.hid ((Below.refl w.heap.size w).alloc (Nat.le_refl _) (.cells #[.int .i64 X.id.1, .int .i64 X.id.2, .int .i64 X.bal, .int .i64 X.st, .int .i64 X.k, .int .i64 X.key, .int .i64 X.v, .int .i64 X.seq, .slice xa xn xc] 30))
  clear hu
  go_enter Tryz.func14, Tryz.ntmps14
  go_upto_region 1 with fail
  generalize w.alloc (.cells #[.int .i64 X.id.1, .int .i64 X.id.2, .int .i64 X.bal, .int .i64 X.st, .int .i64 X.k, .int .i64 X.key, .int .i64 X.v, .int .i64 X.seq, .slice xa xn xc] 30) = w1 at A D ⊢
  go_wp2_with fail
  refine (sv _ D.out).mono ?_
  rintro e w2 ⟨rfl, B⟩
  replace A := Lib.hid (bblk B (lt_of_heap A.out) A.out)
  replace D := Lib.hid (bstep D.out B)
  clear B
  clear sv
  obtain ⟨q, hq⟩ : ∃ q, Hid (logB E = q) := ⟨_, Lib.hid rfl⟩
  rw [hq.out]
  cases q
  · clear A ev sa sp
    have hQ := Lib.hid (show takeR E X = ([], false) from if_neg (fun hh => by have := hh.1; rw [hq.out] at this; cases this))
    have hL := Lib.hid (stk_fail D.out)
    go_wp2_with fail
    go_ret2
    rw [hQ.out]
    exact hL.out
  · obtain ⟨⟨y0, y1, y2, y3, y4, y5, y6, y7, y8⟩, _, yl⟩ := nine_all A.out
    go_wp2_with fail
    refine (ev _ D.out).mono ?_
    rintro e w3 ⟨rfl, B⟩
    clear y0 y1 y2 y3 y4 y5 y6 y7 y8 yl ev
    replace A := Lib.hid (bblk B (lt_of_heap A.out) A.out)
    replace D := Lib.hid (bstep D.out B)
    clear B
    obtain ⟨p, hp⟩ : ∃ q, Hid (enB X = q) := ⟨_, Lib.hid rfl⟩
    rw [hp.out]
    cases p
    · clear A sa sp
      have hQ := Lib.hid (show takeR E X = ([], false) from if_neg (fun hh => by have := hh.2.1; rw [hp.out] at this; cases this))
      have hL := Lib.hid (stk_fail D.out)
      go_wp2_with fail
      go_ret2
      rw [hQ.out]
      exact hL.out
    · by_cases hst : X.st = 2
      · have hst2 := hst
        replace hst := Lib.hid hst
        obtain ⟨⟨y0, y1, y2, y3, y4, y5, y6, y7, y8⟩, _, yl⟩ := nine_all A.out
        rw [hst2] at y3
        go_wp2_with fail
        refine (sa _ D.out).mono ?_
        rintro e w4 ⟨⟨z, rfl, hz⟩, B⟩
        clear y0 y1 y2 y3 y4 y5 y6 y7 y8 yl hst2 sa
        replace A := Lib.hid (bblk B (lt_of_heap A.out) A.out)
        replace D := Lib.hid (bstep D.out B)
        clear B
        have hz := Lib.hid hz
        obtain ⟨fb, hfb⟩ : ∃ q, Hid (fixedB E X.id = q) := ⟨_, Lib.hid rfl⟩
        obtain ⟨pb, hpb⟩ : ∃ q, Hid (passB E X = q) := ⟨_, Lib.hid rfl⟩
        go_upto_region 4 with fail
        go_cut [44] from 25 to 43 (fun s wx => Hid (s = .bool (fb || pb) ∧ wx.heap[w.heap.size]? = some (.cells #[.int .i64 X.id.1, .int .i64 X.id.2, .int .i64 X.bal, .int .i64 X.st, .int .i64 X.k, .int .i64 X.key, .int .i64 X.v, .int .i64 X.seq, .slice xa xn xc] 30 (0, 0)) ∧ Below w.heap.size w wx))
        case first =>
          clear sp
          obtain ⟨⟨y0, y1, y2, y3, y4, y5, y6, y7, y8⟩, _, yl⟩ := nine_all A.out
          rcases hz.out with ⟨rfl, hno⟩ | ⟨k, rfl, hk, hid⟩
          · obtain rfl : false = fb := by rw [← hfb.out]; exact (fixB_none hno).symm
            obtain rfl : false = pb := by rw [← hpb.out]; exact (passB_none hno).symm
            clear hz hno hfb hpb
            go_upto_region 4 with fail
            go_quiet (fail)
            go_wp2_with fail
            go_meet
            exact Lib.hid ⟨rfl, A.out, bdrewN D.out _⟩
          · obtain ⟨b, off, U, hla, hA⟩ := hl3.out.resolve_left (by have := hl.out; omega)
            subst hla
            have hX := (hA.up D.out (Nat.le_refl _)).at_ k hk
            have hbl := (hA.up D.out (Nat.le_refl _)).lt
            have hkl : k < l := by rw [← hl.out]; exact hk
            have h1 := fixB_at hq.out hk hid
            have h2 := passB_at (X := X) hq.out hk hid
            rw [show ((X.id.1, X.id.2) : Pid) = X.id from rfl] at h1
            rw [hfb.out] at h1
            rw [hpb.out] at h2
            obtain ⟨Z, hZ⟩ : ∃ Z, Hid (E.getD k en0 = Z) := ⟨_, Lib.hid rfl⟩
            rw [hZ.out] at hX h1 h2
            have e2 := hX.c2
            have e3 := hX.c3
            clear hz hA hX hid hZ hfb hpb hl3 hk
            obtain ⟨zs, hzs⟩ : ∃ z, Hid (Z.st = z) := ⟨_, Lib.hid rfl⟩
            obtain ⟨zb, hzb⟩ : ∃ z, Hid (Z.bal = z) := ⟨_, Lib.hid rfl⟩
            rw [hzs.out] at e3 h1
            rw [hzb.out] at e2 h2
            by_cases g1 : zs = 3
            · subst g1
              obtain rfl : fb = true := by rw [h1]; rfl
              clear h1 h2
              go_upto_region 4 with fail
              go_quiet (fail)
              go_wp2_with fail
              go_meet
              exact Lib.hid ⟨rfl, A.out, bdrewN D.out _⟩
            · have g1b : (zs == 3) = false := by simpa using g1
              obtain rfl : fb = false := by rw [h1]; exact g1b
              clear h1
              by_cases g2 : X.bal < zb
              · obtain rfl : pb = true := by rw [h2]; exact decide_eq_true g2
                clear h2
                go_upto_region 4 with fail
                go_quiet (fail)
                go_wp2_with fail
                go_meet
                exact Lib.hid ⟨rfl, A.out, bdrewN D.out _⟩
              · obtain rfl : pb = false := by rw [h2]; exact decide_eq_false g2
                clear h2
                go_upto_region 4 with fail
                go_quiet (fail)
                go_wp2_with fail
                go_meet
                exact Lib.hid ⟨rfl, A.out, bdrewN D.out _⟩
        case rest =>
          obtain ⟨hs, hA5, hD5⟩ := hcut.out
          subst hs
          clear hcut A D hz
          have A := Lib.hid hA5
          have D := Lib.hid hD5
          clear hA5 hD5
          cases hfp : (fb || pb)
          · have hQ := Lib.hid (show takeR E X = lputR E X from if_pos ⟨hq.out, hp.out, hst.out, hfb.out.trans (Bool.or_eq_false_iff.1 hfp).1, hpb.out.trans (Bool.or_eq_false_iff.1 hfp).2⟩)
            clear hfp
            obtain ⟨⟨y0, y1, y2, y3, y4, y5, y6, y7, y8⟩, _, yl⟩ := nine_all A.out
            go_wp2_with fail
            refine (sp _ D.out).mono ?_
            rintro e w5 hP
            obtain ⟨⟨v, rfl, hO⟩, B⟩ := hP
            have hO2 := Lib.hid (hO.wide D.out.size)
            have D2 := Lib.hid (bstep D.out B)
            clear B hO y0 y1 y2 y3 y4 y5 y6 y7 y8 yl
            go_wp2_with fail
            go_ret2
            rw [hQ.out]
            exact ⟨v, rfl, hO2.out, D2.out⟩
          · clear A sp
            have hQ := Lib.hid (show takeR E X = ([], false) from if_neg (fun hh => by have h1 := hfb.out.symm.trans hh.2.2.2.1; have h2 := hpb.out.symm.trans hh.2.2.2.2; rw [h1, h2] at hfp; cases hfp))
            have hL := Lib.hid (stk_fail D.out)
            go_wp2_with fail
            go_ret2
            rw [hQ.out]
            exact hL.out
      · have hstb : (X.st == 2) = false := by simpa using hst
        have hQ0 := Lib.hid (show ¬ X.st = 2 from hst)
        obtain ⟨⟨y0, y1, y2, y3, y4, y5, y6, y7, y8⟩, _, yl⟩ := nine_all A.out
        have hQ := Lib.hid (show takeR E X = ([], false) from if_neg (fun hh => hQ0.out hh.2.2.1))
        have hL := Lib.hid (stk_fail D.out)
        go_wp2_with fail
        go_ret2
        rw [hQ.out]
        exact hL.out
end Go.Proofs.YtiolhjjkjmepcaaGreatDoor

/- Draws of logs: l91Log, DrawLogValid. -/
namespace Go.Proofs.YtiolhjjkjmepcaaGreatDoor
open Go.RowKit
set_option linter.unusedVariables false

theorem OwnP.keeps {w w' : World} {b r : Nat} {v : Value} {C : List Pid} (h : OwnP w b v C) (hk : Keep w.heap.size r w w') (hr : b ≠ r) : OwnP w' b v C := h.same (hk.block b h.lt hr)
theorem EnO.keep {w w' : World} {B r : Nat} {v : Value} {E : List En} (h : EnO w B v E) (hk : Keep w.heap.size r w w') (hr : r < B) : EnO w' B v E := by
  obtain ⟨g, cap, cur, t, rfl, h0, hg, h1, h2, h3⟩ := h
  refine ⟨g, cap, cur, t, rfl, h0, (hk.block g (lt_of_heap hg) (by omega)).trans hg, h1, h2, fun i hi => ?_⟩
  obtain ⟨b, u, q1, q2, hc, ho⟩ := h3 i hi
  exact ⟨b, u, q1, q2, hc, ho.keeps hk (by omega)⟩
/-- A rank is put in another's place. -/
theorem EnO.setq {w : World} {B : Nat} {E : List En} {g n cap : Nat} (h : EnO w B (.slice (some ⟨g, 0, none⟩) n cap) E) {k : Nat} (hk : k < E.length) (s : Int) :
    EnO (w.setCell ⟨g, k * 9 + 7, none⟩ (.int .i64 s)) B (.slice (some ⟨g, 0, none⟩) n cap) (E.set k { E.getD k en0 with seq := s }) := by
  obtain ⟨g', cap', cur, t, e, h0, hg, h1, h2, h3⟩ := h
  injection e with e1 e2 e3; injection e1 with e1; injection e1 with e1
  subst e1; subst e2; subst e3
  have hsz : k * 9 + 7 < cur.size := by
    obtain ⟨_, _, _, _, hc, _⟩ := h3 k hk
    have c7 := hc 7 (by omega)
    rcases Nat.lt_or_ge (k * 9 + 7) cur.size with hh | hh
    · exact hh
    · rw [Array.getElem?_eq_none hh] at c7; exact absurd c7 (by simp [enc9])
  have oth : ∀ c, c ≠ g → (w.setCell ⟨g, k * 9 + 7, none⟩ (.int .i64 s)).heap[c]? = w.heap[c]? := fun c hc => heap_setCell_other _ _ _ _ hc
  refine ⟨g, cap, _, t, by rw [List.length_set], h0, heap_setCell_same w g (k * 9 + 7) cur t _ hg, by rw [List.length_set]; exact h1, by rw [List.length_set]; exact h2, fun i hi => ?_⟩
  rw [List.length_set] at hi
  obtain ⟨b, u, q1, q2, hc, ho⟩ := h3 i hi
  by_cases e : i = k
  · subst e
    have hs : (E.set i { E.getD i en0 with seq := s }).getD i en0 = { E.getD i en0 with seq := s } := by
      rw [List.getD_eq_getElem?_getD, List.getElem?_set_self hi]; rfl
    rw [hs]
    refine ⟨b, u, q1, q2, fun j hj => ?_, ho.same (oth b q2)⟩
    by_cases hj7 : j = 7
    · subst hj7; rw [Array.getElem?_setIfInBounds, if_pos rfl, if_pos hsz]; rfl
    · rw [Array.getElem?_setIfInBounds, if_neg (by omega), hc j hj]
      rcases (show j = 0 ∨ j = 1 ∨ j = 2 ∨ j = 3 ∨ j = 4 ∨ j = 5 ∨ j = 6 ∨ j = 8 by omega) with rfl | rfl | rfl | rfl | rfl | rfl | rfl | rfl <;> rfl
  · have hs : (E.set k { E.getD k en0 with seq := s }).getD i en0 = E.getD i en0 := by
      rw [List.getD_eq_getElem?_getD, List.getElem?_set_ne (fun x => e x.symm), ← List.getD_eq_getElem?_getD]
    rw [hs]
    refine ⟨b, u, q1, q2, fun j hj => ?_, ho.same (oth b q2)⟩
    rw [Array.getElem?_setIfInBounds, if_neg (by omega)]; exact hc j hj
theorem EnO.cell7 {w : World} {B : Nat} {E : List En} {g n cap : Nat} (h : EnO w B (.slice (some ⟨g, 0, none⟩) n cap) E) {k : Nat} (hk : k < E.length) : (∃ y, w.cell? ⟨g, k * 9 + 7, none⟩ = some y) ∧ w.frozen? ⟨g, k * 9 + 7, none⟩ = false ∧ g < w.heap.size ∧ B ≤ g := by
  obtain ⟨g', cap', cur, t, e, h0, hg, h1, h2, h3⟩ := h
  injection e with e1 e2 e3; injection e1 with e1; injection e1 with e1
  subst e1
  obtain ⟨_, _, _, _, hc, _⟩ := h3 k hk
  exact ⟨⟨_, (cell_of_cells hg).trans (hc 7 (by omega))⟩, by simp [World.frozen?, hg], lt_of_heap hg, h0⟩

theorem set_id {E : List En} {k : Nat} (hk : k < E.length) (h : ∀ i, i < E.length → okP (E.getD i en0).id = true) (s : Int) : ∀ i, i < E.length → okP ((E.set k { E.getD k en0 with seq := s }).getD i en0).id = true := fun i hi => by
  by_cases e : i = k
  · subst e
    have hs : (E.set i { E.getD i en0 with seq := s }).getD i en0 = { E.getD i en0 with seq := s } := by
      rw [List.getD_eq_getElem?_getD, List.getElem?_set_self hi]; rfl
    rw [hs]; exact h i hi
  · have hs : (E.set k { E.getD k en0 with seq := s }).getD i en0 = E.getD i en0 := by
      rw [List.getD_eq_getElem?_getD, List.getElem?_set_ne (fun x => e x.symm), ← List.getD_eq_getElem?_getD]
    rw [hs]; exact h i hi
/-- What l91Log leaves. -/
def DlgP (r n : Nat) (w : World) (e : Ending) (w' : World) : Prop :=
  ∃ v E, e = .returned v ∧ EnO w' w.heap.size v E ∧ E.length ≤ 12 ∧ (∀ k, k < E.length → okP (E.getD k en0).id = true) ∧ Rd w' r (n + 700) ∧ Keep w.heap.size r w w'

set_option maxRecDepth 100000 in
set_option maxHeartbeats 8000000 in
theorem dlog_any (r n : Nat) (w : World) (hrd : Rd w r n) (hn : n ≤ 600000000) :
    Calls Tryz.prog 82 #[.pointer (some ⟨r, 0, none⟩)] w (DlgP r n w) := by
  have hrl := hrd.lt
  have O := Lib.hid ((er_new w w.heap.size (Nat.le_refl _)).eno (Nat.zero_le _))
  have K := Lib.hid ((Keep.refl w.heap.size r w).alloc (Nat.le_refl _) (.cells #[] 30))
  have R := Lib.hid (hrd.alloc (.cells #[] 30))
  clear hrd
  go_enter Tryz.func82, Tryz.ntmps82
  go_wp2_with fail
  refine (pick_any 7 r _ _ R.out (by omega)).mono ?_
  rintro e w1 ⟨m, rfl, m0, m1', hr', hk'⟩
  have m1 := m1' (by omega)
  replace O := Lib.hid (O.out.keep hk' hrl)
  replace K := Lib.hid (K.out.trans (hk'.mono K.out.size))
  replace R := Lib.hid hr'
  clear m1' hr' hk'
  go_wp2_with fail
  refine (pick_any 16 r _ _ R.out (by omega)).mono ?_
  rintro e w2 ⟨z, rfl, z0, z1', hr', hk'⟩
  have z1 := z1' (by omega)
  replace O := Lib.hid (O.out.keep hk' hrl)
  replace K := Lib.hid (K.out.trans (hk'.mono K.out.size))
  replace R := Lib.hid hr'
  clear z1' hr' hk'
  obtain ⟨m, rfl⟩ := Int.eq_ofNat_of_zero_le m0
  obtain ⟨M, hM⟩ : ∃ M : Nat, M = if z = 0 then 24 else m := ⟨_, rfl⟩
  have hM24 : M ≤ 24 := by rw [hM]; split <;> omega
  by_cases hz : z = 0
  · subst hz
    obtain rfl : M = 24 := by rw [hM]; rfl
    clear hM
    go_wp2_with fail
    go_loopw [3, 5] (fun vo i wr => ∃ (k : Nat) (E : List En), k ≤ 24 ∧ i = .int .i64 k ∧ E.length ≤ 12 ∧ Hid (logB E = true) ∧ Hid (EnO wr w.heap.size vo E) ∧ Hid (Rd wr r (n + 2 + 22 * k)) ∧ Hid (Keep w.heap.size r w wr)) (fun _ i _ => 24 - (intOf i).toNat)
    case atStart => exact ⟨0, [], Nat.zero_le _, rfl, Nat.zero_le _, Lib.hid (by decide), O, Lib.hid (R.out.more (by omega)), K⟩
    case round =>
      clear O K R
      obtain ⟨k, E, hk, rfl, hl, hL, O, R, K⟩ := hrel
      by_cases hlt : k < 24
      · go_wp2_with fail
        refine (pick_any 3 r _ _ R.out (by omega)).mono ?_
        rintro e w3 ⟨p, rfl, p0, p1', hr', hk'⟩
        have p1 := p1' (by omega)
        replace O := Lib.hid (O.out.keep hk' hrl)
        replace K := Lib.hid (K.out.trans (hk'.mono K.out.size))
        replace R := Lib.hid hr'
        clear p1' hr' hk'
        go_wp2_with fail
        refine (pick_any 5 r _ _ R.out (by omega)).mono ?_
        rintro e w4 ⟨q, rfl, q0, q1', hr', hk'⟩
        have q1 := q1' (by omega)
        replace O := Lib.hid (O.out.keep hk' hrl)
        replace K := Lib.hid (K.out.trans (hk'.mono K.out.size))
        replace R := Lib.hid hr'
        clear q1' hr' hk'
        go_wp2_with fail
        refine (entry_any r _ _ _ _ R.out (by omega)).mono ?_
        rintro e w5 ⟨b5, X, u5, hb5, rfl, _, hO5, hl5, hr5, hk5⟩
        replace O := Lib.hid (O.out.keep hk5 hrl)
        have hI5 := Lib.hid hO5.read
        replace K := Lib.hid (K.out.trans (hk5.mono K.out.size))
        replace R := Lib.hid hr5
        obtain ⟨⟨E', ok⟩, hR⟩ : ∃ r, Hid (lputR E X = r) := ⟨_, Lib.hid rfl⟩
        have lp := slput_any _ E X _ _ O.out.read hI5.out
        unfold LpP at lp
        rw [hR.out] at lp
        have hl' : E'.length ≤ 12 := by have := lputR_len E X; rw [hR.out] at this; exact this
        clear hb5 hO5 hl5 hr5 hk5 hI5
        go_wp2_with fail
        refine lp.mono ?_
        rintro e w6 ⟨⟨v6, rfl, O6⟩, B⟩
        have hs6 := K.out.size
        replace O := Lib.hid (O.out.up B)
        have O6 := Lib.hid (O6.wide hs6)
        replace R := Lib.hid (R.out.kept (B.mono (Nat.succ_le_of_lt R.out.lt)))
        replace K := Lib.hid (K.out.trans (Keep.of_below (B.mono hs6)))
        have hL' := Lib.hid (fun (h : ok = true) => (show logB E' = true by have := lputR_log (E := E) (e := X) (by rw [hR.out]; exact h); rw [hR.out] at this; exact this))
        clear lp B hR
        cases ok
        · go_wp2_with fail
          refine ⟨⟨k + 1, E, by omega, by go_num, hl, hL, O, Lib.hid (R.out.more (by omega)), K⟩, ?_⟩
          simp [intOf]; omega
        · go_wp2_with fail
          refine ⟨⟨k + 1, E', by omega, by go_num, hl', Lib.hid (hL'.out (by first | rfl | trivial)), O6, Lib.hid (R.out.more (by omega)), K⟩, ?_⟩
          simp [intOf]; omega
      · obtain rfl : k = 24 := by omega
        obtain ⟨g, cap, hv⟩ := O.out.len
        subst hv
        obtain ⟨ln, hln⟩ : ∃ x, Hid (E.length = x) := ⟨_, Lib.hid rfl⟩
        rw [hln.out] at O hl ⊢
        by_cases h0 : ln = 0
        · subst h0
          go_wp2_with fail
          go_ret
          exact ⟨_, E, rfl, O.out, by rw [hln.out]; exact hl, fun k hk => log_num hL.out hk, R.out.more (by omega), K.out⟩
        · have h0' : 0 < ln := by omega
          go_wp2_with fail
          refine (pick_any 30 r _ _ R.out (by omega)).mono ?_
          rintro e w7 ⟨z2, rfl, z20, z21', hr', hk'⟩
          have z21 := z21' (by omega)
          replace O := Lib.hid (O.out.keep hk' hrl)
          replace K := Lib.hid (K.out.trans (hk'.mono K.out.size))
          replace R := Lib.hid hr'
          clear z21' hr' hk'
          by_cases hz : z2 = 0
          · subst hz
            go_wp2_with fail
            refine (pick_any _ r _ _ R.out (by omega)).mono ?_
            rintro e w8 ⟨j, rfl, j0, j1', hr', hk'⟩
            have j1 := j1' (by omega)
            replace O := Lib.hid (O.out.keep hk' hrl)
            replace K := Lib.hid (K.out.trans (hk'.mono K.out.size))
            replace R := Lib.hid hr'
            obtain ⟨j, rfl⟩ := Int.eq_ofNat_of_zero_le j0
            have hjE : j < E.length := by rw [hln.out]; omega
            clear j1' hr' hk'
            have BA := (Below.refl w8.heap.size w8).alloc (Nat.le_refl _) (.cells #[.int .i64 0, .int .i64 99, .int .i64 100] 3)
            replace O := Lib.hid (O.out.up BA)
            have hs8 := K.out.size
            replace R := Lib.hid (R.out.kept (BA.mono (Nat.succ_le_of_lt R.out.lt)))
            replace K := Lib.hid (K.out.trans (Keep.of_below (BA.mono hs8)))
            have L8 := Lib.hid (heap_alloc_new w8 (.cells #[.int .i64 0, .int .i64 99, .int .i64 100] 3))
            clear BA
            go_wp2_with fail
            refine (pick_any 3 r _ _ R.out (by omega)).mono ?_
            rintro e w9 ⟨i, rfl, i0, i1', hr', hk'⟩
            have i1 := i1' (by omega)
            have hrx : r < w8.heap.size := by omega
            have L9 := (hk'.block w8.heap.size (by simp) (by omega)).trans L8.out
            replace O := Lib.hid (O.out.keep hk' hrl)
            replace K := Lib.hid (K.out.trans (hk'.mono K.out.size))
            replace R := Lib.hid hr'
            obtain ⟨l0, l1, l2, _, _, _⟩ := blk3 L9
            have hll := lt_of_heap L9
            obtain ⟨⟨y7, c7⟩, f7, hgl, hgB⟩ := O.out.cell7 hjE
            have hs9 := K.out.size
            have hN := Lib.hid (fun (s : Int) => O.out.setq hjE s)
            have hKN := Lib.hid (fun (s : Int) => K.out.setCell (p := ⟨g, j * 9 + 7, none⟩) hgB (.int .i64 s))
            have hRN := Lib.hid (fun (s : Int) => R.out.setCell (p := ⟨g, j * 9 + 7, none⟩) (by show r < g; omega) (.int .i64 s))
            clear i1' hr' hk' L8
            rcases (show i = 0 ∨ i = 1 ∨ i = 2 by omega) with rfl | rfl | rfl
            · go_wp2_with fail
              go_ret
              exact ⟨_, _, rfl, hN.out 0, by rw [List.length_set, hln.out]; exact hl, fun i hi => set_id hjE (fun i hi => log_num hL.out hi) _ i (by rw [List.length_set] at hi; exact hi), (hRN.out 0).more (by omega), hKN.out 0⟩
            · go_wp2_with fail
              go_ret
              exact ⟨_, _, rfl, hN.out 99, by rw [List.length_set, hln.out]; exact hl, fun i hi => set_id hjE (fun i hi => log_num hL.out hi) _ i (by rw [List.length_set] at hi; exact hi), (hRN.out 99).more (by omega), hKN.out 99⟩
            · go_wp2_with fail
              go_ret
              exact ⟨_, _, rfl, hN.out 100, by rw [List.length_set, hln.out]; exact hl, fun i hi => set_id hjE (fun i hi => log_num hL.out hi) _ i (by rw [List.length_set] at hi; exact hi), (hRN.out 100).more (by omega), hKN.out 100⟩
          · have hzb : (z2 == 0) = false := by simpa using hz
            go_wp2_with fail
            go_ret
            exact ⟨_, E, rfl, O.out, by rw [hln.out]; exact hl, fun k hk => log_num hL.out hk, R.out.more (by omega), K.out⟩
  · have hzb : (z == 0) = false := by simpa using hz
    obtain rfl : M = m := by rw [hM, if_neg hz]
    clear hM
    go_wp2_with fail
    go_loopw [3, 5] (fun vo i wr => ∃ (k : Nat) (E : List En), k ≤ M ∧ i = .int .i64 k ∧ E.length ≤ 12 ∧ Hid (logB E = true) ∧ Hid (EnO wr w.heap.size vo E) ∧ Hid (Rd wr r (n + 2 + 22 * k)) ∧ Hid (Keep w.heap.size r w wr)) (fun _ i _ => M - (intOf i).toNat)
    case atStart => exact ⟨0, [], Nat.zero_le _, rfl, Nat.zero_le _, Lib.hid (by decide), O, Lib.hid (R.out.more (by omega)), K⟩
    case round =>
      clear O K R
      obtain ⟨k, E, hk, rfl, hl, hL, O, R, K⟩ := hrel
      by_cases hlt : k < M
      · go_wp2_with fail
        refine (pick_any 3 r _ _ R.out (by omega)).mono ?_
        rintro e w3 ⟨p, rfl, p0, p1', hr', hk'⟩
        have p1 := p1' (by omega)
        replace O := Lib.hid (O.out.keep hk' hrl)
        replace K := Lib.hid (K.out.trans (hk'.mono K.out.size))
        replace R := Lib.hid hr'
        clear p1' hr' hk'
        go_wp2_with fail
        refine (pick_any 5 r _ _ R.out (by omega)).mono ?_
        rintro e w4 ⟨q, rfl, q0, q1', hr', hk'⟩
        have q1 := q1' (by omega)
        replace O := Lib.hid (O.out.keep hk' hrl)
        replace K := Lib.hid (K.out.trans (hk'.mono K.out.size))
        replace R := Lib.hid hr'
        clear q1' hr' hk'
        go_wp2_with fail
        refine (entry_any r _ _ _ _ R.out (by omega)).mono ?_
        rintro e w5 ⟨b5, X, u5, hb5, rfl, _, hO5, hl5, hr5, hk5⟩
        replace O := Lib.hid (O.out.keep hk5 hrl)
        have hI5 := Lib.hid hO5.read
        replace K := Lib.hid (K.out.trans (hk5.mono K.out.size))
        replace R := Lib.hid hr5
        obtain ⟨⟨E', ok⟩, hR⟩ : ∃ r, Hid (lputR E X = r) := ⟨_, Lib.hid rfl⟩
        have lp := slput_any _ E X _ _ O.out.read hI5.out
        unfold LpP at lp
        rw [hR.out] at lp
        have hl' : E'.length ≤ 12 := by have := lputR_len E X; rw [hR.out] at this; exact this
        clear hb5 hO5 hl5 hr5 hk5 hI5
        go_wp2_with fail
        refine lp.mono ?_
        rintro e w6 ⟨⟨v6, rfl, O6⟩, B⟩
        have hs6 := K.out.size
        replace O := Lib.hid (O.out.up B)
        have O6 := Lib.hid (O6.wide hs6)
        replace R := Lib.hid (R.out.kept (B.mono (Nat.succ_le_of_lt R.out.lt)))
        replace K := Lib.hid (K.out.trans (Keep.of_below (B.mono hs6)))
        have hL' := Lib.hid (fun (h : ok = true) => (show logB E' = true by have := lputR_log (E := E) (e := X) (by rw [hR.out]; exact h); rw [hR.out] at this; exact this))
        clear lp B hR
        cases ok
        · go_wp2_with fail
          refine ⟨⟨k + 1, E, by omega, by go_num, hl, hL, O, Lib.hid (R.out.more (by omega)), K⟩, ?_⟩
          simp [intOf]; omega
        · go_wp2_with fail
          refine ⟨⟨k + 1, E', by omega, by go_num, hl', Lib.hid (hL'.out (by first | rfl | trivial)), O6, Lib.hid (R.out.more (by omega)), K⟩, ?_⟩
          simp [intOf]; omega
      · obtain rfl : k = M := by omega
        obtain ⟨g, cap, hv⟩ := O.out.len
        subst hv
        obtain ⟨ln, hln⟩ : ∃ x, Hid (E.length = x) := ⟨_, Lib.hid rfl⟩
        rw [hln.out] at O hl ⊢
        by_cases h0 : ln = 0
        · subst h0
          go_wp2_with fail
          go_ret
          exact ⟨_, E, rfl, O.out, by rw [hln.out]; exact hl, fun k hk => log_num hL.out hk, R.out.more (by omega), K.out⟩
        · have h0' : 0 < ln := by omega
          go_wp2_with fail
          refine (pick_any 30 r _ _ R.out (by omega)).mono ?_
          rintro e w7 ⟨z2, rfl, z20, z21', hr', hk'⟩
          have z21 := z21' (by omega)
          replace O := Lib.hid (O.out.keep hk' hrl)
          replace K := Lib.hid (K.out.trans (hk'.mono K.out.size))
          replace R := Lib.hid hr'
          clear z21' hr' hk'
          by_cases hz : z2 = 0
          · subst hz
            go_wp2_with fail
            refine (pick_any _ r _ _ R.out (by omega)).mono ?_
            rintro e w8 ⟨j, rfl, j0, j1', hr', hk'⟩
            have j1 := j1' (by omega)
            replace O := Lib.hid (O.out.keep hk' hrl)
            replace K := Lib.hid (K.out.trans (hk'.mono K.out.size))
            replace R := Lib.hid hr'
            obtain ⟨j, rfl⟩ := Int.eq_ofNat_of_zero_le j0
            have hjE : j < E.length := by rw [hln.out]; omega
            clear j1' hr' hk'
            have BA := (Below.refl w8.heap.size w8).alloc (Nat.le_refl _) (.cells #[.int .i64 0, .int .i64 99, .int .i64 100] 3)
            replace O := Lib.hid (O.out.up BA)
            have hs8 := K.out.size
            replace R := Lib.hid (R.out.kept (BA.mono (Nat.succ_le_of_lt R.out.lt)))
            replace K := Lib.hid (K.out.trans (Keep.of_below (BA.mono hs8)))
            have L8 := Lib.hid (heap_alloc_new w8 (.cells #[.int .i64 0, .int .i64 99, .int .i64 100] 3))
            clear BA
            go_wp2_with fail
            refine (pick_any 3 r _ _ R.out (by omega)).mono ?_
            rintro e w9 ⟨i, rfl, i0, i1', hr', hk'⟩
            have i1 := i1' (by omega)
            have hrx : r < w8.heap.size := by omega
            have L9 := (hk'.block w8.heap.size (by simp) (by omega)).trans L8.out
            replace O := Lib.hid (O.out.keep hk' hrl)
            replace K := Lib.hid (K.out.trans (hk'.mono K.out.size))
            replace R := Lib.hid hr'
            obtain ⟨l0, l1, l2, _, _, _⟩ := blk3 L9
            have hll := lt_of_heap L9
            obtain ⟨⟨y7, c7⟩, f7, hgl, hgB⟩ := O.out.cell7 hjE
            have hs9 := K.out.size
            have hN := Lib.hid (fun (s : Int) => O.out.setq hjE s)
            have hKN := Lib.hid (fun (s : Int) => K.out.setCell (p := ⟨g, j * 9 + 7, none⟩) hgB (.int .i64 s))
            have hRN := Lib.hid (fun (s : Int) => R.out.setCell (p := ⟨g, j * 9 + 7, none⟩) (by show r < g; omega) (.int .i64 s))
            clear i1' hr' hk' L8
            rcases (show i = 0 ∨ i = 1 ∨ i = 2 by omega) with rfl | rfl | rfl
            · go_wp2_with fail
              go_ret
              exact ⟨_, _, rfl, hN.out 0, by rw [List.length_set, hln.out]; exact hl, fun i hi => set_id hjE (fun i hi => log_num hL.out hi) _ i (by rw [List.length_set] at hi; exact hi), (hRN.out 0).more (by omega), hKN.out 0⟩
            · go_wp2_with fail
              go_ret
              exact ⟨_, _, rfl, hN.out 99, by rw [List.length_set, hln.out]; exact hl, fun i hi => set_id hjE (fun i hi => log_num hL.out hi) _ i (by rw [List.length_set] at hi; exact hi), (hRN.out 99).more (by omega), hKN.out 99⟩
            · go_wp2_with fail
              go_ret
              exact ⟨_, _, rfl, hN.out 100, by rw [List.length_set, hln.out]; exact hl, fun i hi => set_id hjE (fun i hi => log_num hL.out hi) _ i (by rw [List.length_set] at hi; exact hi), (hRN.out 100).more (by omega), hKN.out 100⟩
          · have hzb : (z2 == 0) = false := by simpa using hz
            go_wp2_with fail
            go_ret
            exact ⟨_, E, rfl, O.out, by rw [hln.out]; exact hl, fun k hk => log_num hL.out hk, R.out.more (by omega), K.out⟩

/-- What DrawLogValid leaves. -/
def DlvP (w : World) (e : Ending) (w' : World) : Prop := ∃ v E, e = .returned v ∧ EnO w' w.heap.size v E ∧ E.length ≤ 12 ∧ (∀ k, k < E.length → okP (E.getD k en0).id = true) ∧ Below w.heap.size w w'
end Go.Proofs.YtiolhjjkjmepcaaGreatDoor

/- Draws of logs and ids: l91In, DrawLogFind. -/
namespace Go.Proofs.YtiolhjjkjmepcaaGreatDoor
open Go.RowKit
set_option linter.unusedVariables false

theorem in_resI (tm : Array Value) (w : World) (b : Nat) (v x y : Value) (t : TypeId) (h1 : tm[2]? = some v) (h2 : tm[3]? = some (.pointer (some ⟨b, 0, none⟩))) (h : w.heap[b]? = some (.cells #[x, y] t (0, 0))) :
    (results Tryz.f59 tm).run Tryz.prog w = .ok (.tuple #[v, .agg #[x, y]]) w := by
  obtain ⟨t0, t1, _, _⟩ := blk2 h
  simp [results, Tryz.results59, go_sem, h1, h2, t0, t1]
theorem put2_at {w : World} {b : Nat} {t : TypeId} {y0 y1 : Value} (x0 x1 : Value) (h : w.heap[b]? = some (.cells #[y0, y1] t (0, 0))) :
    ((w.setCell ⟨b, 0, none⟩ x0).setCell ⟨b, 1, none⟩ x1).heap[b]? = some (.cells #[x0, x1] t (0, 0)) := by
  have e := heap_setCell_same _ b 1 _ _ x1 (heap_setCell_same _ b 0 _ _ x0 h)
  simp only [List.setIfInBounds_toArray, List.set_cons_zero, List.set_cons_succ] at e
  exact e
theorem EnO.own {w : World} {B b o : Nat} {v : Value} {E : List En} (h : EnO w B v E) (hb : b < B) (u : Value) : EnO (w.setCell ⟨b, o, none⟩ u) B v E := by
  obtain ⟨g, cap, cur, t, rfl, h0, hg, h1, h2, h3⟩ := h
  refine ⟨g, cap, cur, t, rfl, h0, (heap_setCell_other _ _ _ _ (by show g ≠ b; omega)).trans hg, h1, h2, fun i hi => ?_⟩
  obtain ⟨c, u', q1, q2, hc, ho⟩ := h3 i hi
  exact ⟨c, u', q1, q2, hc, ho.same (heap_setCell_other _ _ _ _ (by show c ≠ b; omega))⟩
theorem EnO.cell01 {w : World} {B : Nat} {E : List En} {g n cap : Nat} (h : EnO w B (.slice (some ⟨g, 0, none⟩) n cap) E) {k : Nat} (hk : k < E.length) : w.cell? ⟨g, k * 9, none⟩ = some (.int .i64 (E.getD k en0).id.1) ∧ w.cell? ⟨g, k * 9 + 1, none⟩ = some (.int .i64 (E.getD k en0).id.2) ∧ g < w.heap.size := by
  obtain ⟨g', cap', cur, t, e, h0, hg, h1, h2, h3⟩ := h
  injection e with e1 e2 e3; injection e1 with e1; injection e1 with e1
  subst e1
  obtain ⟨_, _, _, _, hc, _⟩ := h3 k hk
  exact ⟨(cell_of_cells hg).trans (hc 0 (by omega)), (cell_of_cells hg).trans (hc 1 (by omega)), lt_of_heap hg⟩
theorem inR_small {x y : Int} (h1 : -100 ≤ x) (h2 : x ≤ 100) (h3 : -100 ≤ y) (h4 : y ≤ 100) : inR (x, y) := ⟨WalkArith.wf_i64 (by dsimp only; omega), WalkArith.wf_i64 (by dsimp only; omega)⟩

/-- What l91In leaves. -/
def DinP (r n : Nat) (w : World) (e : Ending) (w' : World) : Prop :=
  ∃ v E x y, e = .returned (.tuple #[v, .agg #[.int .i64 x, .int .i64 y]]) ∧ EnO w' (w.heap.size + 1) v E ∧ E.length ≤ 12 ∧ inR (x, y) ∧ Rd w' r (n + 800) ∧ Keep w.heap.size r w w'

set_option maxRecDepth 100000 in
set_option maxHeartbeats 4000000 in
theorem din_any (r n : Nat) (w : World) (hrd : Rd w r n) (hn : n ≤ 500000000) :
    Calls Tryz.prog 59 #[.pointer (some ⟨r, 0, none⟩)] w (DinP r n w) := by
  have hrl := hrd.lt
  have A := Lib.hid (heap_alloc_new w (.cells #[.int .i64 0, .int .i64 0] 25))
  have K := Lib.hid ((Keep.refl w.heap.size r w).alloc (Nat.le_refl _) (.cells #[.int .i64 0, .int .i64 0] 25))
  have R := Lib.hid (hrd.alloc (.cells #[.int .i64 0, .int .i64 0] 25))
  clear hrd
  go_enter Tryz.func59, Tryz.ntmps59
  go_wp2_with fail
  refine (dlog_any r n _ R.out (by omega)).mono ?_
  rintro e w1 ⟨v, E, rfl, O, hl, hok, hr', hk'⟩
  rw [show (w.alloc (.cells #[.int .i64 0, .int .i64 0] 25)).heap.size = w.heap.size + 1 by simp] at O hk'
  have hal := lt_of_heap A.out
  replace A := Lib.hid ((hk'.block w.heap.size (by omega) (by omega)).trans A.out)
  replace K := Lib.hid (K.out.trans (hk'.mono (Nat.le_succ _)))
  replace R := Lib.hid hr'
  obtain ⟨g, cap, hv⟩ := O.len
  subst hv
  have O := Lib.hid O
  have hok := Lib.hid hok
  have hgl := (show g < w1.heap.size from by obtain ⟨g', _, _, _, e, _, hg, _⟩ := O.out; injection e with e1; injection e1 with e1; injection e1 with e1; subst e1; exact lt_of_heap hg)
  obtain ⟨ln, hln⟩ : ∃ x, Hid (E.length = x) := ⟨_, Lib.hid rfl⟩
  rw [hln.out] at O hl ⊢
  clear hr' hk' hal
  by_cases h0 : ln = 0
  · subst h0
    go_wp2_with fail
    refine (idd_any r _ _ R.out (by omega)).mono ?_
    rintro e w2 ⟨x, y, rfl, hx, hy, hr', hk'⟩
    have hs := K.out.size
    replace O := Lib.hid (O.out.keep hk' (by omega))
    replace A := Lib.hid ((hk'.block w.heap.size (lt_of_heap A.out) (by omega)).trans A.out)
    replace K := Lib.hid (K.out.trans (hk'.mono hs))
    replace R := Lib.hid hr'
    obtain ⟨a0, a1, f0, f1⟩ := blk2 A.out
    have hal := lt_of_heap A.out
    clear hk' hr'
    go_wp2_with fail
    refine bodyPost_ret (in_resI _ _ _ _ _ _ _ rfl rfl (put2_at _ _ A.out)) rfl ⟨_, E, x, y, rfl, (O.out.own (by omega) _).own (by omega) _, by rw [hln.out]; exact hl, inR_small (by omega) (by omega) (by omega) (by omega), ((R.out.setCell (p := ⟨w.heap.size, 0, none⟩) hrl _).setCell (p := ⟨w.heap.size, 1, none⟩) hrl _).more (by omega), (K.out.setCell (p := ⟨w.heap.size, 0, none⟩) (Nat.le_refl _) _).setCell (p := ⟨w.heap.size, 1, none⟩) (Nat.le_refl _) _⟩
  · have h0' : 0 < ln := by omega
    have h0b : ((ln : Int) == 0) = false := by simp [h0]
    go_wp2_with fail
    refine (pick_any 5 r _ _ R.out (by omega)).mono ?_
    rintro e w2 ⟨z, rfl, z0, z1', hr', hk'⟩
    have hs := K.out.size
    replace O := Lib.hid (O.out.keep hk' (by omega))
    replace A := Lib.hid ((hk'.block w.heap.size (lt_of_heap A.out) (by omega)).trans A.out)
    replace K := Lib.hid (K.out.trans (hk'.mono hs))
    replace R := Lib.hid hr'
    clear hk' hr' hs z1'
    by_cases hz : z = 0
    · subst hz
      go_wp2_with fail
      refine (idd_any r _ _ R.out (by omega)).mono ?_
      rintro e w3 ⟨x, y, rfl, hx, hy, hr', hk'⟩
      have hs := K.out.size
      replace O := Lib.hid (O.out.keep hk' (by omega))
      replace A := Lib.hid ((hk'.block w.heap.size (lt_of_heap A.out) (by omega)).trans A.out)
      replace K := Lib.hid (K.out.trans (hk'.mono hs))
      replace R := Lib.hid hr'
      obtain ⟨a0, a1, f0, f1⟩ := blk2 A.out
      have hal := lt_of_heap A.out
      clear hk' hr'
      go_wp2_with fail
      refine bodyPost_ret (in_resI _ _ _ _ _ _ _ rfl rfl (put2_at _ _ A.out)) rfl ⟨_, E, x, y, rfl, (O.out.own (by omega) _).own (by omega) _, by rw [hln.out]; exact hl, inR_small (by omega) (by omega) (by omega) (by omega), ((R.out.setCell (p := ⟨w.heap.size, 0, none⟩) hrl _).setCell (p := ⟨w.heap.size, 1, none⟩) hrl _).more (by omega), (K.out.setCell (p := ⟨w.heap.size, 0, none⟩) (Nat.le_refl _) _).setCell (p := ⟨w.heap.size, 1, none⟩) (Nat.le_refl _) _⟩
    · have hzb : (z == 0) = false := by simpa using hz
      obtain ⟨a0, a1, f0, f1⟩ := blk2 A.out
      have hal := lt_of_heap A.out
      go_wp2_with fail
      go_region_with (go_at_call 61; (with_reducible refine (pick_any _ r _ _ (R.out.kept (Below.drew (Below.refl _ _))) (by omega)).mono ?_); rintro e w3 ⟨j, rfl, j0, j1', hr', hk'⟩; have j1 := j1' (by omega); have hs := K.out.size; have O3 := Lib.hid ((O.out.up (Below.drew (Below.refl _ _))).keep hk' (by omega)); have A3 := Lib.hid ((hk'.block w.heap.size hal (by omega)).trans (show _ = _ from A.out)); have K3 := Lib.hid (Keep.trans (Keep.trans K.out (Keep.of_below (Below.drew (Below.refl _ _)))) (hk'.mono hs)); have R3 := Lib.hid hr'; obtain ⟨j, rfl⟩ := Int.eq_ofNat_of_zero_le j0; obtain ⟨q0, q1, qb⟩ := O3.out.cell01 (k := j) (by rw [hln.out]; omega); obtain ⟨b0, b1, e0, e1⟩ := blk2 A3.out; have hal3 := lt_of_heap A3.out; clear hk' hr' j1' a0 a1 f0 f1)
      all_goals
        have hokj := hok.out j (by rw [hln.out]; omega)
        have hin := inR_ok hokj
        go_wp2_with fail
        refine bodyPost_ret (in_resI _ _ _ _ _ _ _ rfl rfl (put2_at _ _ A3.out)) rfl ⟨_, E, _, _, rfl, (O3.out.own (by omega) _).own (by omega) _, by rw [hln.out]; exact hl, hin, ((R3.out.setCell (p := ⟨w.heap.size, 0, none⟩) hrl _).setCell (p := ⟨w.heap.size, 1, none⟩) hrl _).more (by omega), (K3.out.setCell (p := ⟨w.heap.size, 0, none⟩) (Nat.le_refl _) _).setCell (p := ⟨w.heap.size, 1, none⟩) (Nat.le_refl _) _⟩
end Go.Proofs.YtiolhjjkjmepcaaGreatDoor

/- The draws of a log and an entry for a step: l91Step, DrawTakeEntry, DrawFixEntry. -/
namespace Go.Proofs.YtiolhjjkjmepcaaGreatDoor
open Go.RowKit
set_option linter.unusedVariables false

theorem EnO.abovS {w w' : World} {B : Nat} {v : Value} {E : List En} (h : EnO w B v E) (hk : ∀ b, B ≤ b → w'.heap[b]? = w.heap[b]?) : EnO w' B v E := by
  obtain ⟨g, cap, cur, t, rfl, h0, hg, h1, h2, h3⟩ := h
  refine ⟨g, cap, cur, t, rfl, h0, (hk g h0).trans hg, h1, h2, fun i hi => ?_⟩
  obtain ⟨c, u', q1, q2, hc, ho⟩ := h3 i hi
  exact ⟨c, u', q1, q2, hc, ho.same (hk c q1)⟩
theorem Keep.drewP {B r : Nat} {a w : World} (h : Keep B r a w) : Keep B r a w.drew := ⟨h.os, h.tape, h.output, h.size, h.block⟩
theorem Ids.len_le {w : World} {v : Value} {C : List Pid} (h : Ids w v C) : C.length ≤ 2000000 := by obtain ⟨_, _, _, _, hh, _⟩ := h; exact hh
theorem drewS_heap {w : World} {b : Nat} {o : Obj} (h : w.heap[b]? = some o) : w.drew.heap[b]? = some o := h
/-- One entry of a log that lies in memory of its own. -/
theorem EnO.atP {w : World} {B g n cap : Nat} {E : List En} (h : EnO w B (.slice (some ⟨g, 0, none⟩) n cap) E) {k : Nat} (hk : k < E.length) :
    ∃ b uc, EnAt w g (k * 9) (E.getD k en0) (.slice (some ⟨b, 0, none⟩) (E.getD k en0).deps.length uc) ∧ OwnP w b (.slice (some ⟨b, 0, none⟩) (E.getD k en0).deps.length uc) (E.getD k en0).deps ∧ g < w.heap.size := by
  obtain ⟨g', cap', cur, t, e, h0, hg, h1, h2, h3⟩ := h
  obtain ⟨rfl, _, _⟩ : g = g' ∧ n = E.length ∧ cap = cap' := by simpa using e
  obtain ⟨b, u, q1, q2, hc, ho⟩ := h3 k hk
  obtain ⟨uc, hu, _⟩ := ho.shape
  subst hu
  have := enc_at hg hc ho.read
  rw [Nat.zero_add] at this
  exact ⟨b, uc, this, ho, lt_of_heap hg⟩
/-- What a draw for a step leaves. -/
def StpP (w : World) (e : Ending) (w' : World) : Prop :=
  ∃ v E X u b, e = .returned (.tuple #[v, env X u]) ∧ EnO w' w.heap.size v E ∧ E.length ≤ 12 ∧ inR X.id ∧ w.heap.size ≤ b ∧ OwnP w' b u X.deps ∧ Below w.heap.size w w'
/-- Where the draw is: the entry's box, its list, the bytes. -/
structure SpS (b3 W : World) (r m eb : Nat) (Y : En) (uy : Value) (yb : Nat) : Prop where
  bx : W.heap[eb]? = some (.cells #[.int .i64 Y.id.1, .int .i64 Y.id.2, .int .i64 Y.bal, .int .i64 Y.st, .int .i64 Y.k, .int .i64 Y.key, .int .i64 Y.v, .int .i64 Y.seq, uy] 30 (0, 0))
  ids : OwnP W yb uy Y.deps
  e0 : b3.heap.size ≤ eb
  y0 : b3.heap.size ≤ yb
  ne : yb ≠ eb
  rd : Rd W r m
  kp : Keep b3.heap.size r b3 W
  rB : r < b3.heap.size
section
variable {b3 W W' : World} {r m m' eb yb : Nat} {Y : En} {uy : Value}
theorem SpS.keep (h : SpS b3 W r m eb Y uy yb) (hr : Rd W' r m') (hk : Keep W.heap.size r W W') : SpS b3 W' r m' eb Y uy yb :=
  ⟨(hk.block eb (lt_of_heap h.bx) (by have := h.e0; have := h.rB; omega)).trans h.bx, h.ids.same (hk.block yb h.ids.lt (by have := h.y0; have := h.rB; omega)), h.e0, h.y0, h.ne, hr, h.kp.trans (hk.mono h.kp.size), h.rB⟩
theorem SpS.up (h : SpS b3 W r m eb Y uy yb) (hb : Below W.heap.size W W') : SpS b3 W' r m eb Y uy yb :=
  h.keep (h.rd.kept (by have := h.rd.lt; exact ⟨hb.os, hb.tape, hb.output, hb.size, fun k hk => hb.block k (by omega)⟩)) (Keep.of_below hb)
theorem SpS.put (h : SpS b3 W r m eb Y uy yb) (i : Nat) (x : Value) {Y' : En} (e : (W.setCell ⟨eb, i, none⟩ x).heap[eb]? = some (.cells #[.int .i64 Y'.id.1, .int .i64 Y'.id.2, .int .i64 Y'.bal, .int .i64 Y'.st, .int .i64 Y'.k, .int .i64 Y'.key, .int .i64 Y'.v, .int .i64 Y'.seq, uy] 30 (0, 0))) (hd : Y'.deps = Y.deps) (hi : Y'.id = Y'.id) : SpS b3 (W.setCell ⟨eb, i, none⟩ x) r m eb Y' uy yb :=
  ⟨e, by rw [hd]; exact h.ids.same (heap_setCell_other _ _ _ _ h.ne), h.e0, h.y0, h.ne, h.rd.setCell (p := ⟨eb, i, none⟩) (by have := h.e0; have := h.rB; show r < eb; omega) _, h.kp.setCell (p := ⟨eb, i, none⟩) h.e0 _, h.rB⟩
theorem SpS.st (h : SpS b3 W r m eb Y uy yb) (z : Int) : SpS b3 (W.setCell ⟨eb, 3, none⟩ (.int .i64 z)) r m eb { Y with st := z } uy yb := by
  have e := heap_setCell_same W eb 3 _ _ (.int .i64 z) h.bx
  simp only [List.setIfInBounds_toArray, List.set_cons_zero, List.set_cons_succ] at e
  exact h.put 3 (.int .i64 z) e rfl rfl
theorem SpS.kk (h : SpS b3 W r m eb Y uy yb) (z : Int) : SpS b3 (W.setCell ⟨eb, 4, none⟩ (.int .i64 z)) r m eb { Y with k := z } uy yb := by
  have e := heap_setCell_same W eb 4 _ _ (.int .i64 z) h.bx
  simp only [List.setIfInBounds_toArray, List.set_cons_zero, List.set_cons_succ] at e
  exact h.put 4 (.int .i64 z) e rfl rfl
theorem SpS.ky (h : SpS b3 W r m eb Y uy yb) (z : Int) : SpS b3 (W.setCell ⟨eb, 5, none⟩ (.int .i64 z)) r m eb { Y with key := z } uy yb := by
  have e := heap_setCell_same W eb 5 _ _ (.int .i64 z) h.bx
  simp only [List.setIfInBounds_toArray, List.set_cons_zero, List.set_cons_succ] at e
  exact h.put 5 (.int .i64 z) e rfl rfl
theorem SpS.vv (h : SpS b3 W r m eb Y uy yb) (z : Int) : SpS b3 (W.setCell ⟨eb, 6, none⟩ (.int .i64 z)) r m eb { Y with v := z } uy yb := by
  have e := heap_setCell_same W eb 6 _ _ (.int .i64 z) h.bx
  simp only [List.setIfInBounds_toArray, List.set_cons_zero, List.set_cons_succ] at e
  exact h.put 6 (.int .i64 z) e rfl rfl
theorem SpS.sq (h : SpS b3 W r m eb Y uy yb) (z : Int) : SpS b3 (W.setCell ⟨eb, 7, none⟩ (.int .i64 z)) r m eb { Y with seq := z } uy yb := by
  have e := heap_setCell_same W eb 7 _ _ (.int .i64 z) h.bx
  simp only [List.setIfInBounds_toArray, List.set_cons_zero, List.set_cons_succ] at e
  exact h.put 7 (.int .i64 z) e rfl rfl
theorem SpS.dp (h : SpS b3 W r m eb Y uy yb) {w5 : World} {v5 : Value} {C : List Pid} {b5 : Nat} (hb : Below W.heap.size W w5) (hO : OwnP w5 b5 v5 C) (h5 : W.heap.size ≤ b5) : SpS b3 (w5.setCell ⟨eb, 8, none⟩ v5) r m eb { Y with deps := C } v5 b5 := by
  have g := h.up hb
  have hl := lt_of_heap h.bx
  have e := heap_setCell_same w5 eb 8 _ _ v5 g.bx
  simp only [List.setIfInBounds_toArray, List.set_cons_zero, List.set_cons_succ] at e
  have hs := h.kp.size
  exact ⟨e, hO.same (heap_setCell_other _ _ _ _ (by show b5 ≠ eb; omega)), h.e0, by omega, by omega, g.rd.setCell (p := ⟨eb, 8, none⟩) (by have := h.e0; have := h.rB; show r < eb; omega) _, g.kp.setCell (p := ⟨eb, 8, none⟩) h.e0 _, h.rB⟩
theorem SpS.cmd (h : SpS b3 W r m eb Y uy yb) (k key v : Int) : ∃ Y' : En, SpS b3 (((W.setCell ⟨eb, 4, none⟩ (.int .i64 k)).setCell ⟨eb, 5, none⟩ (.int .i64 key)).setCell ⟨eb, 6, none⟩ (.int .i64 v)) r m eb Y' uy yb ∧ Y'.id = Y.id :=
  ⟨_, ((h.kk k).ky key).vv v, rfl⟩
theorem SpS.seqX (h : SpS b3 W r m eb Y uy yb) (z : Int) : ∃ Y' : En, SpS b3 (W.setCell ⟨eb, 7, none⟩ (.int .i64 z)) r m eb Y' uy yb ∧ Y'.id = Y.id := ⟨_, h.sq z, rfl⟩
theorem SpS.stX (h : SpS b3 W r m eb Y uy yb) (z : Int) : ∃ Y' : En, SpS b3 (W.setCell ⟨eb, 3, none⟩ (.int .i64 z)) r m eb Y' uy yb ∧ Y'.id = Y.id := ⟨_, h.st z, rfl⟩
theorem SpS.dpX (h : SpS b3 W r m eb Y uy yb) {w5 : World} {v5 : Value} {C : List Pid} {b5 : Nat} (hb : Below W.heap.size W w5) (hO : OwnP w5 b5 v5 C) (h5 : W.heap.size ≤ b5) : ∃ Y' : En, SpS b3 (w5.setCell ⟨eb, 8, none⟩ v5) r m eb Y' v5 b5 ∧ Y'.id = Y.id ∧ Y'.deps = C := ⟨_, h.dp hb hO h5, rfl, rfl⟩
end
theorem en_resSp (tm : Array Value) (w : World) (b : Nat) (v x0 x1 x2 x3 x4 x5 x6 x7 x8 : Value) (t : TypeId) (h1 : tm[4]? = some v) (h2 : tm[5]? = some (.pointer (some ⟨b, 0, none⟩))) (h : w.heap[b]? = some (.cells #[x0, x1, x2, x3, x4, x5, x6, x7, x8] t (0, 0))) :
    (results Tryz.f33 tm).run Tryz.prog w = .ok (.tuple #[v, .agg #[x0, x1, x2, x3, x4, x5, x6, x7, x8]]) w := by
  obtain ⟨t0, t1, t2, t3, t4, t5, t6, t7, t8⟩ := nine_cells h
  simp [results, Tryz.results33, go_sem, h1, h2, t0, t1, t2, t3, t4, t5, t6, t7, t8]

set_option maxRecDepth 100000 in
set_option maxHeartbeats 8000000 in
theorem step_any (r : Nat) (s : Int) (w : World) (hrd : Rd w r 0) :
    Calls Tryz.prog 33 #[.pointer (some ⟨r, 0, none⟩), .int .i64 s] w fun e w' => (∃ v E X u b, e = .returned (.tuple #[v, env X u]) ∧ EnO w' w.heap.size v E ∧ E.length ≤ 12 ∧ inR X.id ∧ w.heap.size ≤ b ∧ OwnP w' b u X.deps) ∧ Keep w.heap.size r w w' := by
  obtain ⟨i0, hi, hz0, hz1, hz2⟩ := info_parts infoP
  have hrl := hrd.lt
  have A := Lib.hid (heap_alloc_new w (.cells #[.int .i64 0, .int .i64 0, .int .i64 0, .int .i64 0, .int .i64 0, .int .i64 0, .int .i64 0, .int .i64 0, .slice none 0 0] 30))
  have R1 := Lib.hid (hrd.alloc (.cells #[.int .i64 0, .int .i64 0, .int .i64 0, .int .i64 0, .int .i64 0, .int .i64 0, .int .i64 0, .int .i64 0, .slice none 0 0] 30))
  have K1 := Lib.hid ((Keep.refl w.heap.size r w).alloc (Nat.le_refl _) (.cells #[.int .i64 0, .int .i64 0, .int .i64 0, .int .i64 0, .int .i64 0, .int .i64 0, .int .i64 0, .int .i64 0, .slice none 0 0] 30))
  clear hrd
  go_enter Tryz.func33, Tryz.ntmps33
  go_upto_region 1 with fail
  obtain ⟨w1, hw1⟩ : ∃ q, Hid (w.alloc (.cells #[.int .i64 0, .int .i64 0, .int .i64 0, .int .i64 0, .int .i64 0, .int .i64 0, .int .i64 0, .int .i64 0, .slice none 0 0] 30) = q) := ⟨_, Lib.hid rfl⟩
  have s1 : w1.heap.size = w.heap.size + 1 := by rw [← hw1.out]; simp
  rw [hw1.out] at A R1 K1 ⊢
  clear hw1
  go_wp2_with fail
  refine (din_any r 0 _ R1.out (by omega)).mono ?_
  rintro e w2 ⟨v, E, x, y, rfl, O, hl, ha, hr', hk⟩
  have s2 := hk.size
  replace A := Lib.hid ((hk.block w.heap.size (by omega) (by omega)).trans A.out)
  have K2 := Lib.hid (K1.out.trans (hk.mono (by omega)))
  have ha := Lib.hid ha
  obtain ⟨g, cap', hv⟩ := O.len
  subst hv
  have BI := (Below.refl w2.heap.size w2).alloc (Nat.le_refl _) (.cells #[.int .i64 x, .int .i64 y] 25)
  have BX := Lib.hid (heap_alloc_new w2 (.cells #[.int .i64 x, .int .i64 y] 25))
  have O := Lib.hid (O.up BI)
  replace A := Lib.hid ((BI.block w.heap.size (by omega)).trans A.out)
  have R := Lib.hid (hr'.alloc (.cells #[.int .i64 x, .int .i64 y] 25))
  replace K2 := Lib.hid (K2.out.trans (Keep.of_below (BI.mono (by omega))))
  clear hk hr' K1 R1 BI
  go_upto_region 2 with fail
  obtain ⟨ab, hab⟩ : ∃ q, Hid (w2.heap.size = q) := ⟨_, Lib.hid rfl⟩
  obtain ⟨w3, hw3⟩ : ∃ q, Hid (w2.alloc (.cells #[.int .i64 x, .int .i64 y] 25) = q) := ⟨_, Lib.hid rfl⟩
  have s3 : w3.heap.size = ab + 1 := by rw [← hw3.out, ← hab.out]; simp
  have s2a : w1.heap.size ≤ ab := by rw [← hab.out]; exact s2
  rw [hw3.out, hab.out] at BX
  rw [hw3.out] at O A R K2
  rw [hw3.out, hab.out]
  clear hw3 hab s2
  obtain ⟨a0, a1, f0, f1⟩ := blk2 BX.out
  have hbl := lt_of_heap BX.out
  obtain ⟨nn, hn⟩ : ∃ n, Hid (E.length = n) := ⟨_, Lib.hid rfl⟩
  go_wp2_with fail
  refine (entry_any r _ x y _ R.out (by omega)).mono ?_
  rintro e w7 ⟨b, X, u, hb, rfl, hid, hO, hd, hr', hk'⟩
  have hs7 := hk'.size
  obtain ⟨ua, un, uc, rfl⟩ : ∃ ua un uc, u = .slice ua un uc := by obtain ⟨c, e, _⟩ := hO.shape; exact ⟨_, _, _, e⟩
  have BE := (Below.refl w7.heap.size w7).alloc (Nat.le_refl _) (.cells #[.int .i64 X.id.1, .int .i64 X.id.2, .int .i64 X.bal, .int .i64 X.st, .int .i64 X.k, .int .i64 X.key, .int .i64 X.v, .int .i64 X.seq, .slice ua un uc] 30)
  have hin : Hid (inR X.id) := Lib.hid (by rw [hid]; exact ha.out)
  replace hid := Lib.hid hid
  have S := Lib.hid (show SpS w3 (w7.alloc (.cells #[.int .i64 X.id.1, .int .i64 X.id.2, .int .i64 X.bal, .int .i64 X.st, .int .i64 X.k, .int .i64 X.key, .int .i64 X.v, .int .i64 X.seq, .slice ua un uc] 30)) r _ w7.heap.size X (.slice ua un uc) b from
    ⟨heap_alloc_new _ _, hO.up BE hO.lt, hs7, hb, by have := hO.lt; omega, hr'.alloc _, hk'.trans (Keep.of_below (BE.mono hs7)), by omega⟩)
  clear hk' hr' R a0 a1 f0 f1 hbl BE hd
  unfold env
  go_upto_region 3 with fail
  generalize w7.heap.size = eb at S ⊢
  generalize w7.alloc (.cells #[.int .i64 X.id.1, .int .i64 X.id.2, .int .i64 X.bal, .int .i64 X.st, .int .i64 X.k, .int .i64 X.key, .int .i64 X.v, .int .i64 X.seq, .slice ua un uc] 30) = w8 at S ⊢
  go_wp2_with fail
  refine (pick_any 8 r _ _ S.out.rd (by omega)).mono ?_
  rintro e w9 ⟨q, rfl, q0, q1', hr', hk'⟩
  replace S := Lib.hid (S.out.keep hr' hk')
  clear hk' hr' q1'
  go_upto_if 20 with (fail)
  go_cut [] (fun wx => ∃ Y : En, Hid (SpS w3 wx r (0 + 800 + 20 + 10) eb Y (.slice ua un uc) b) ∧ Y.id = X.id)
  case first =>
    by_cases hq : 0 < q
    · obtain ⟨⟨y0, y1, y2, y3, y4, y5, y6, y7, y8⟩, ⟨f0, f1, f2, f3, f4, f5, f6, f7, f8⟩, yl⟩ := nine_all S.out.bx
      obtain ⟨Y, S2, hi2⟩ := S.out.stX s
      have S2 := Lib.hid S2
      go_wp2_with fail
      go_meet
      exact ⟨Y, Lib.hid (S2.out.keep (S2.out.rd.more (by omega)) (Keep.refl _ _ _)), hi2⟩
    · obtain rfl : q = 0 := by omega
      go_wp2_with fail
      go_meet
      exact ⟨X, Lib.hid (S.out.keep (S.out.rd.more (by omega)) (Keep.refl _ _ _)), rfl⟩
  case rest =>
    obtain ⟨Y, S2, hYi⟩ := hcut
    clear S
    replace hin : Hid (inR Y.id) := Lib.hid (by rw [hYi]; exact hin.out)
    clear hYi hO hid
    have OW := Lib.hid (fun W (h : Keep w3.heap.size r w3 W) => (O.out.keep h (by omega)))
    have AW := Lib.hid (fun W (h : Keep w3.heap.size r w3 W) => (h.block w.heap.size (by omega) (by omega)).trans A.out)
    have BX9 := Lib.hid ((S2.out.kp.block ab (by omega) (by omega)).trans BX.out)
    obtain ⟨a0, a1, f0, f1⟩ := blk2 BX9.out
    have hbl := lt_of_heap BX9.out
    have sa := seat_any _ E x y _ (OW.out _ S2.out.kp).read
    go_wp2_with fail
    refine sa.mono ?_
    rintro e w10 ⟨⟨z, rfl, hz⟩, B⟩
    clear a0 a1 f0 f1 hbl sa BX9 BX
    have S := Lib.hid (S2.out.up B)
    clear S2 B O A
    go_upto_region 6 with fail
    go_cut [32] from 26 to 31 (fun sv wx => ∃ tb : Bool, sv = .bool tb ∧ (tb = true → 0 ≤ z) ∧ Hid (SpS w3 wx r (0 + 800 + 20 + 30) eb Y (.slice ua un uc) b))
    case first =>
      by_cases hz0 : 0 ≤ z
      · have hzb : decide (z ≥ 0) = true := by simpa using hz0
        go_wp2_with fail
        refine (pick_any 3 r _ _ S.out.rd (by omega)).mono ?_
        rintro e w11 ⟨t, rfl, t0, t1', hr', hk'⟩
        have S3 := Lib.hid (show SpS w3 w11 r (0 + 800 + 20 + 30) eb Y (.slice ua un uc) b from S.out.keep (hr'.more (by omega)) hk')
        clear hr' hk' t1'
        by_cases ht : t = 0
        · subst ht
          go_wp2_with fail
          go_meet
          exact ⟨true, rfl, fun _ => hz0, S3⟩
        · have htb : (t == 0) = false := by simpa using ht
          go_wp2_with fail
          go_meet
          exact ⟨false, rfl, fun _ => hz0, S3⟩
      · have hzb : decide (z ≥ 0) = false := by simpa using hz0
        go_wp2_with fail
        go_meet
        exact ⟨false, rfl, (fun h => by cases h), Lib.hid (S.out.keep (S.out.rd.more (by omega)) (Keep.refl _ _ _))⟩
    case rest =>
      obtain ⟨tb, rfl, hzt, S4⟩ := hcut
      clear S
      cases tb
      · obtain ⟨⟨y0, y1, y2, y3, y4, y5, y6, y7, y8⟩, ⟨f0, f1, f2, f3, f4, f5, f6, f7, f8⟩, yl⟩ := nine_all S4.out.bx
        have A9 := Lib.hid (AW.out _ S4.out.kp)
        have O9 := Lib.hid (OW.out _ S4.out.kp)
        have hs9 := S4.out.kp.size
        have hy9 := S4.out.y0
        have hK9 := Lib.hid (K2.out.trans (S4.out.kp.mono (by omega)))
        obtain ⟨⟨x0, x1, x2, x3, x4, x5, x6, x7, x8⟩, ⟨e0, e1, e2, e3, e4, e5, e6, e7, e8⟩, xl⟩ := nine_all A9.out
        go_upto_region 10 with fail
        go_region
        all_goals
          have P9 := Lib.hid (drewS_heap (put9_at (.int .i64 Y.id.1) (.int .i64 Y.id.2) (.int .i64 Y.bal) (.int .i64 Y.st) (.int .i64 Y.k) (.int .i64 Y.key) (.int .i64 Y.v) (.int .i64 Y.seq) (.slice ua un uc) A9.out))
          go_wp2_with fail
          refine bodyPost_ret (en_resSp _ _ _ _ _ _ _ _ _ _ _ _ _ _ rfl rfl P9.out) rfl ⟨⟨_, E, Y, .slice ua un uc, b, rfl, ?_, hl, hin.out, ?_, (S4.out.ids.same (put9_other _ _ _ _ _ _ _ _ _ (by omega))).up (Below.drew (Below.refl _ _)) (by have := S4.out.ids.lt; simpa using this)⟩, ?_⟩
          · exact ((O9.out.abovS (fun c hc => put9_other _ _ _ _ _ _ _ _ _ (by omega))).wide (by omega)).up (Below.drew (Below.refl _ _))
          · omega
          · exact (hK9.out.trans (Keep.of_below (put9_below _ _ _ _ _ _ _ _ _ (Nat.le_refl _)))).drewP
      · rcases hz with ⟨rfl, hno⟩ | ⟨k, rfl, hk, hid⟩
        · have := hzt rfl
          omega
        · clear hid hzt
          obtain ⟨Z, hZ⟩ : ∃ Z, Hid (E.getD k en0 = Z) := ⟨_, Lib.hid rfl⟩
          obtain ⟨zb, zc, EZ, OZ, gl⟩ := (OW.out _ S4.out.kp).atP hk
          rw [hZ.out] at EZ OZ
          obtain ⟨q0, q1, q2, q3, q4, q5, q6, q7, q8, qi⟩ := EZ
          obtain ⟨⟨y0, y1, y2, y3, y4, y5, y6, y7, y8⟩, ⟨f0, f1, f2, f3, f4, f5, f6, f7, f8⟩, yl⟩ := nine_all S4.out.bx
          clear qi OZ
          go_upto_region 8 with fail
          obtain ⟨Y2, S5, hi2⟩ := S4.out.cmd Z.k Z.key Z.v
          have S5 := Lib.hid S5
          have h5b := S5.out.kp
          clear q0 q1 q2 q3 q4 q5 q6 q7 q8 gl y0 y1 y2 y3 y4 y5 y6 y7 y8 f0 f1 f2 f3 f4 f5 f6 f7 f8 yl S4
          generalize ((wc.setCell ⟨eb, 4, none⟩ (.int .i64 Z.k)).setCell ⟨eb, 5, none⟩ (.int .i64 Z.key)).setCell ⟨eb, 6, none⟩ (.int .i64 Z.v) = w12 at S5 h5b ⊢
          obtain ⟨zb, zc, EZ, OZ, gl⟩ := (OW.out _ h5b).atP hk
          rw [hZ.out] at EZ OZ
          obtain ⟨q0, q1, q2, q3, q4, q5, q6, q7, q8, qi⟩ := EZ
          obtain ⟨⟨y0, y1, y2, y3, y4, y5, y6, y7, y8⟩, ⟨f0, f1, f2, f3, f4, f5, f6, f7, f8⟩, yl⟩ := nine_all S5.out.bx
          clear qi OZ h5b
          go_upto_region 9 with fail
          obtain ⟨Y3, S6, hi3⟩ := S5.out.seqX Z.seq
          have S6 := Lib.hid S6
          have h6b := S6.out.kp
          clear q0 q1 q2 q3 q4 q5 q6 q7 q8 gl y0 y1 y2 y3 y4 y5 y6 y7 y8 f0 f1 f2 f3 f4 f5 f6 f7 f8 yl S5
          generalize w12.setCell ⟨eb, 7, none⟩ (.int .i64 Z.seq) = w13 at S6 h6b ⊢
          replace hin : Hid (inR Y3.id) := Lib.hid (by rw [hi3, hi2]; exact hin.out)
          clear hi2 hi3
          have BZ := (Below.refl w13.heap.size w13).alloc (Nat.le_refl _) (.cells #[] 25)
          have hR := Lib.hid (row_new w13 w13.heap.size (Nat.le_refl _))
          obtain ⟨zb, zc, EZ, OZ, gl⟩ := (OW.out _ (h6b.trans (Keep.of_below (BZ.mono h6b.size)))).atP hk
          rw [hZ.out] at EZ OZ
          obtain ⟨q0, q1, q2, q3, q4, q5, q6, q7, q8, qi⟩ := EZ
          have hs := Lib.hid (show ∀ j u, (flatP Z.deps)[j]? = some u → (w13.alloc (.cells #[] 25)).cell? (Addr.add ⟨zb, 0, none⟩ j) = some u from flatc_src (fun i hi => by rw [Nat.zero_add]; exact OZ.cell i hi))
          have hlz := OZ.read.len_le
          obtain ⟨nz, hnz⟩ : ∃ n, Hid (Z.deps.length = n) := ⟨_, Lib.hid rfl⟩
          rw [hnz.out] at q8 hlz
          have S7 := Lib.hid (S6.out.up BZ)
          obtain ⟨⟨y0, y1, y2, y3, y4, y5, y6, y7, y8⟩, ⟨f0, f1, f2, f3, f4, f5, f6, f7, f8⟩, yl⟩ := nine_all S7.out.bx
          clear qi OZ h6b
          go_wp2_with (at_builtin; go_loud (refine wpList_append_own_at _ rfl _ _ 28 rfl w13.heap.size 25 i0 (.agg #[.int .i64 0, .int .i64 0]) 2 16 Tryz.underlying28 hi hz0 hz1 hz2 rfl (by decide) _ _ _ rfl hR.out.1 ⟨zb, 0, none⟩ nz zc (flatP Z.deps) rfl ?gc0 ?gc1 ?gc2 ?gc3 ?gc4 ?gc5 ?_))
          case gc0 => rw [flatP_len, hnz.out]
          case gc1 => exact hs.out
          case gc2 => exact flatP_one _
          case gc3 => show (0 : Nat) + nz ≤ maxLen; unfold maxLen; omega
          case gc4 => show ((0 : Nat) + nz) * 16 ≤ _; omega
          case gc5 => simp
          intro v5 w5 hown' hgrow hnil hat
          have R5 : Row w5 w13.heap.size v5 Z.deps := ⟨by rw [hnz.out]; simpa [flatP] using hown', fun e => hnil e⟩
          have b5 := grown_below hR.out hgrow (by simp)
          obtain ⟨yb, hyb, O5⟩ := R5.own (by rw [hnz.out]; omega)
          obtain ⟨cc5, hv5, _⟩ := O5.shape
          subst hv5
          have Bz5 := BZ.trans b5
          obtain ⟨Y4, S8, hi4, _⟩ := S6.out.dpX Bz5 O5 hyb
          have S8 := Lib.hid S8
          replace hin : Hid (inR Y4.id) := Lib.hid (by rw [hi4]; exact hin.out)
          have S7 := Lib.hid (S6.out.up Bz5)
          clear hown' hgrow hnil hat hR b5 R5 O5 BZ Bz5 hs q0 q1 q2 q3 q4 q5 q6 q7 q8 gl y0 y1 y2 y3 y4 y5 y6 y7 y8 f0 f1 f2 f3 f4 f5 f6 f7 f8 yl S6 hi4
          obtain ⟨⟨y0, y1, y2, y3, y4, y5, y6, y7, y8⟩, ⟨f0, f1, f2, f3, f4, f5, f6, f7, f8⟩, yl⟩ := nine_all S7.out.bx
          go_upto_region 10 with fail
          clear y0 y1 y2 y3 y4 y5 y6 y7 y8 f0 f1 f2 f3 f4 f5 f6 f7 f8 yl S7
          generalize w5.setCell ⟨eb, 8, none⟩ (.slice (some ⟨yb, 0, none⟩) Z.deps.length cc5) = w14 at S8 ⊢
          obtain ⟨⟨y0, y1, y2, y3, y4, y5, y6, y7, y8⟩, ⟨f0, f1, f2, f3, f4, f5, f6, f7, f8⟩, yl⟩ := nine_all S8.out.bx
          have A9 := Lib.hid (AW.out _ S8.out.kp)
          have O9 := Lib.hid (OW.out _ S8.out.kp)
          have hs9 := S8.out.kp.size
          have hy9 := S8.out.y0
          have hK9 := Lib.hid (K2.out.trans (S8.out.kp.mono (by omega)))
          obtain ⟨⟨x0, x1, x2, x3, x4, x5, x6, x7, x8⟩, ⟨e0, e1, e2, e3, e4, e5, e6, e7, e8⟩, xl⟩ := nine_all A9.out
          go_upto_region 10 with fail
          go_region
          all_goals
            have P9 := Lib.hid (drewS_heap (put9_at (.int .i64 Y4.id.1) (.int .i64 Y4.id.2) (.int .i64 Y4.bal) (.int .i64 Y4.st) (.int .i64 Y4.k) (.int .i64 Y4.key) (.int .i64 Y4.v) (.int .i64 Y4.seq) (.slice (some ⟨yb, 0, none⟩) Z.deps.length cc5) A9.out))
            go_wp2_with fail
            refine bodyPost_ret (en_resSp _ _ _ _ _ _ _ _ _ _ _ _ _ _ rfl rfl P9.out) rfl ⟨⟨_, E, Y4, .slice (some ⟨yb, 0, none⟩) Z.deps.length cc5, yb, rfl, ?_, hl, hin.out, ?_, (S8.out.ids.same (put9_other _ _ _ _ _ _ _ _ _ (by omega))).up (Below.drew (Below.refl _ _)) (by have := S8.out.ids.lt; simpa using this)⟩, ?_⟩
            · exact ((O9.out.abovS (fun c hc => put9_other _ _ _ _ _ _ _ _ _ (by omega))).wide (by omega)).up (Below.drew (Below.refl _ _))
            · omega
            · exact (hK9.out.trans (Keep.of_below (put9_below _ _ _ _ _ _ _ _ _ (Nat.le_refl _)))).drewP
theorem en_resdtake (tm : Array Value) (w : World) (b : Nat) (v x0 x1 x2 x3 x4 x5 x6 x7 x8 : Value) (t : TypeId) (h1 : tm[2]? = some v) (h2 : tm[3]? = some (.pointer (some ⟨b, 0, none⟩))) (h : w.heap[b]? = some (.cells #[x0, x1, x2, x3, x4, x5, x6, x7, x8] t (0, 0))) :
    (results Tryz.f12 tm).run Tryz.prog w = .ok (.tuple #[v, .agg #[x0, x1, x2, x3, x4, x5, x6, x7, x8]]) w := by
  obtain ⟨t0, t1, t2, t3, t4, t5, t6, t7, t8⟩ := nine_cells h
  simp [results, Tryz.results12, go_sem, h1, h2, t0, t1, t2, t3, t4, t5, t6, t7, t8]

set_option maxRecDepth 100000 in
set_option maxHeartbeats 4000000 in
theorem dtake_any (a : Option Addr) (len cap : Nat) (w : World) (hc : CodeIn w a len cap) (hcap : cap ≤ maxLen) :
    Calls Tryz.prog 12 #[.slice a len cap] w (StpP w) := by
  have al := (Below.refl w.heap.size w).alloc (Nat.le_refl _) (.cells #[.int .i64 0, .int .i64 0, .int .i64 0, .int .i64 0, .int .i64 0, .int .i64 0, .int .i64 0, .int .i64 0, .slice none 0 0] 30)
  have hc := Lib.hid (hc.up al)
  have al := Lib.hid al
  have A := Lib.hid (heap_alloc_new w (.cells #[.int .i64 0, .int .i64 0, .int .i64 0, .int .i64 0, .int .i64 0, .int .i64 0, .int .i64 0, .int .i64 0, .slice none 0 0] 30))
  go_enter Tryz.func12, Tryz.ntmps12
  go_wp2_with fail
  refine (open_any a len cap _ hc.out hcap).mono ?_
  rintro e w1 ⟨r, rfl, hr0, hr', hb'⟩
  have s1 : w.heap.size + 1 ≤ w1.heap.size := by simpa using hb'.size
  have hr0' : w.heap.size + 1 ≤ r := by simpa using hr0
  replace A := Lib.hid ((hb'.block w.heap.size (by simp)).trans A.out)
  have D1 : Hid (Below w.heap.size w w1) := Lib.hid (al.out.trans (hb'.mono (by simp)))
  have hrl := hr'.lt
  have hr1 := Lib.hid hr'
  clear hr' hb' hc al hr0
  go_wp2_with fail
  refine (step_any r 2 _ hr1.out).mono ?_
  rintro e w2 ⟨⟨v, E, X, u, b, rfl, O, hl, hin, hb, hO⟩, hk⟩
  replace A := Lib.hid ((hk.block w.heap.size (by omega) (by omega)).trans A.out)
  obtain ⟨g, cap', hv⟩ := O.len
  subst hv
  obtain ⟨ua, un, uc, rfl⟩ : ∃ ua un uc, u = .slice ua un uc := by obtain ⟨c, e, _⟩ := hO.shape; exact ⟨_, _, _, e⟩
  have O := Lib.hid O
  have hO := Lib.hid hO
  have hin := Lib.hid hin
  have D2 := Lib.hid (D1.out.trans ((hk.mono (by omega)).below (by omega)))
  unfold env
  clear hk hr1
  obtain ⟨⟨x0, x1, x2, x3, x4, x5, x6, x7, x8⟩, ⟨e0, e1, e2, e3, e4, e5, e6, e7, e8⟩, xl⟩ := nine_all A.out
  go_wp2_with fail
  refine bodyPost_ret (en_resdtake _ _ _ _ _ _ _ _ _ _ _ _ _ _ rfl rfl (put9_at (.int .i64 X.id.1) (.int .i64 X.id.2) (.int .i64 X.bal) (.int .i64 X.st) (.int .i64 X.k) (.int .i64 X.key) (.int .i64 X.v) (.int .i64 X.seq) (.slice ua un uc) A.out)) rfl ⟨_, E, X, .slice ua un uc, b, rfl, ?_, hl, hin.out, by omega, hO.out.same (put9_other _ _ _ _ _ _ _ _ _ (by omega)), ?_⟩
  · exact (O.out.abovS (fun c hc => put9_other _ _ _ _ _ _ _ _ _ (by omega))).wide (by omega)
  · exact D2.out.trans (put9_below _ _ _ _ _ _ _ _ _ (Nat.le_refl _))
theorem en_resdfix (tm : Array Value) (w : World) (b : Nat) (v x0 x1 x2 x3 x4 x5 x6 x7 x8 : Value) (t : TypeId) (h1 : tm[2]? = some v) (h2 : tm[3]? = some (.pointer (some ⟨b, 0, none⟩))) (h : w.heap[b]? = some (.cells #[x0, x1, x2, x3, x4, x5, x6, x7, x8] t (0, 0))) :
    (results Tryz.f18 tm).run Tryz.prog w = .ok (.tuple #[v, .agg #[x0, x1, x2, x3, x4, x5, x6, x7, x8]]) w := by
  obtain ⟨t0, t1, t2, t3, t4, t5, t6, t7, t8⟩ := nine_cells h
  simp [results, Tryz.results18, go_sem, h1, h2, t0, t1, t2, t3, t4, t5, t6, t7, t8]

set_option maxRecDepth 100000 in
set_option maxHeartbeats 4000000 in
theorem dfix_any (a : Option Addr) (len cap : Nat) (w : World) (hc : CodeIn w a len cap) (hcap : cap ≤ maxLen) :
    Calls Tryz.prog 18 #[.slice a len cap] w (StpP w) := by
  have al := (Below.refl w.heap.size w).alloc (Nat.le_refl _) (.cells #[.int .i64 0, .int .i64 0, .int .i64 0, .int .i64 0, .int .i64 0, .int .i64 0, .int .i64 0, .int .i64 0, .slice none 0 0] 30)
  have hc := Lib.hid (hc.up al)
  have al := Lib.hid al
  have A := Lib.hid (heap_alloc_new w (.cells #[.int .i64 0, .int .i64 0, .int .i64 0, .int .i64 0, .int .i64 0, .int .i64 0, .int .i64 0, .int .i64 0, .slice none 0 0] 30))
  go_enter Tryz.func18, Tryz.ntmps18
  go_wp2_with fail
  refine (open_any a len cap _ hc.out hcap).mono ?_
  rintro e w1 ⟨r, rfl, hr0, hr', hb'⟩
  have s1 : w.heap.size + 1 ≤ w1.heap.size := by simpa using hb'.size
  have hr0' : w.heap.size + 1 ≤ r := by simpa using hr0
  replace A := Lib.hid ((hb'.block w.heap.size (by simp)).trans A.out)
  have D1 : Hid (Below w.heap.size w w1) := Lib.hid (al.out.trans (hb'.mono (by simp)))
  have hrl := hr'.lt
  have hr1 := Lib.hid hr'
  clear hr' hb' hc al hr0
  go_wp2_with fail
  refine (step_any r 3 _ hr1.out).mono ?_
  rintro e w2 ⟨⟨v, E, X, u, b, rfl, O, hl, hin, hb, hO⟩, hk⟩
  replace A := Lib.hid ((hk.block w.heap.size (by omega) (by omega)).trans A.out)
  obtain ⟨g, cap', hv⟩ := O.len
  subst hv
  obtain ⟨ua, un, uc, rfl⟩ : ∃ ua un uc, u = .slice ua un uc := by obtain ⟨c, e, _⟩ := hO.shape; exact ⟨_, _, _, e⟩
  have O := Lib.hid O
  have hO := Lib.hid hO
  have hin := Lib.hid hin
  have D2 := Lib.hid (D1.out.trans ((hk.mono (by omega)).below (by omega)))
  unfold env
  clear hk hr1
  obtain ⟨⟨x0, x1, x2, x3, x4, x5, x6, x7, x8⟩, ⟨e0, e1, e2, e3, e4, e5, e6, e7, e8⟩, xl⟩ := nine_all A.out
  go_wp2_with fail
  refine bodyPost_ret (en_resdfix _ _ _ _ _ _ _ _ _ _ _ _ _ _ rfl rfl (put9_at (.int .i64 X.id.1) (.int .i64 X.id.2) (.int .i64 X.bal) (.int .i64 X.st) (.int .i64 X.k) (.int .i64 X.key) (.int .i64 X.v) (.int .i64 X.seq) (.slice ua un uc) A.out)) rfl ⟨_, E, X, .slice ua un uc, b, rfl, ?_, hl, hin.out, by omega, hO.out.same (put9_other _ _ _ _ _ _ _ _ _ (by omega)), ?_⟩
  · exact (O.out.abovS (fun c hc => put9_other _ _ _ _ _ _ _ _ _ (by omega))).wide (by omega)
  · exact D2.out.trans (put9_below _ _ _ _ _ _ _ _ _ (Nat.le_refl _))
end Go.Proofs.YtiolhjjkjmepcaaGreatDoor

/- The walk of FnTake. -/
namespace Go.Proofs.YtiolhjjkjmepcaaGreatDoor
open Go.RowKit
set_option linter.unusedVariables false

set_option maxRecDepth 100000 in
set_option maxHeartbeats 8000000 in
theorem fnTake_walk (a : Option Addr) (len cap : Nat) (w : World) (hc : CodeIn w a len cap) (hcap : cap ≤ maxLen) (hS0 : SenW w) :
    Calls Tryz.prog 3 #[.slice a len cap] w fun e w' => e = .returned (.bool true) ∧ Below w.heap.size w w' := by
  have dn := dtake_any a len cap w hc hcap
  obtain ⟨a0, a1, hS⟩ := hS0
  by_cases hlen : 1048576 < len
  · go_enter Tryz.func3, Tryz.ntmps3
    go_wp2_with fail
    go_ret
    exact ⟨rfl, Below.refl _ _⟩
  · have hS := Lib.hid hS
    go_enter Tryz.func3, Tryz.ntmps3
    go_wp2_with fail
    refine dn.mono ?_
    rintro e w1 ⟨v, E, X, ux, b1, rfl, O, hl, hin, hb1, OX, B⟩
    obtain ⟨g, cp, hv⟩ := O.len
    subst hv
    obtain ⟨xa, xn, xc, rfl⟩ : ∃ ua un uc, ux = .slice ua un uc := by obtain ⟨c, e, _⟩ := OX.shape; exact ⟨_, _, _, e⟩
    have BA := (Below.refl w1.heap.size w1).alloc (Nat.le_refl _) (.cells #[.int .i64 X.id.1, .int .i64 X.id.2, .int .i64 X.bal, .int .i64 X.st, .int .i64 X.k, .int .i64 X.key, .int .i64 X.v, .int .i64 X.seq, .slice xa xn xc] 30)
    have C2 := Lib.hid (show BxE (w1.alloc (.cells #[.int .i64 X.id.1, .int .i64 X.id.2, .int .i64 X.bal, .int .i64 X.st, .int .i64 X.k, .int .i64 X.key, .int .i64 X.v, .int .i64 X.seq, .slice xa xn xc] 30)) w1.heap.size X (.slice xa xn xc) from heap_alloc_new _ _)
    have O2 := Lib.hid (O.up BA).read
    have I2 := Lib.hid (OX.up BA OX.lt).read
    have D := Lib.hid (bstep B BA)
    have S2 := Lib.hid (hS.out.up D.out)
    have hin := Lib.hid hin
    clear BA B O OX dn hS
    unfold env
    go_upto_region 4 with fail
    obtain ⟨cb, hx2⟩ : ∃ c, Hid (w1.heap.size = c) := ⟨_, Lib.hid rfl⟩
    rw [hx2.out] at C2 ⊢
    generalize w1.alloc (.cells #[.int .i64 X.id.1, .int .i64 X.id.2, .int .i64 X.bal, .int .i64 X.st, .int .i64 X.k, .int .i64 X.key, .int .i64 X.v, .int .i64 X.seq, .slice xa xn xc] 30) = w2 at C2 O2 I2 D S2 ⊢
    clear hx2
    have iv := itake_any a0 a1 _ (.slice xa xn xc) E X w2 O2.out I2.out hin.out (fun W hb => S2.out.up hb)
    have sv := fun W (hb : Below w2.heap.size w2 W) => stake_any _ (.slice xa xn xc) E X W (O2.out.up hb (Nat.le_refl _)) (I2.out.up hb (Nat.le_refl _))
    obtain ⟨⟨N, q⟩, hR⟩ : ∃ r, Hid (takeR E X = r) := ⟨_, Lib.hid rfl⟩
    unfold TkZ at iv
    unfold StkP at sv
    rw [hR.out] at iv sv
    dsimp only at iv sv
    unfold env at iv sv
    obtain ⟨n, hn⟩ : ∃ n, Hid (E.length = n) := ⟨_, Lib.hid rfl⟩
    rw [hn.out] at iv sv O2 hl ⊢
    have hm12 : N.length ≤ 12 := by have := takeR_len E X; rw [hR.out] at this; exact this
    obtain ⟨m, hm⟩ : ∃ m, Hid (N.length = m) := ⟨_, Lib.hid rfl⟩
    obtain ⟨⟨b0, b1, b2, b3, b4, b5, b6, b7, b8⟩, bl⟩ := C2.out.cells
    go_wp2_with fail
    refine iv.mono ?_
    rintro e w3 ⟨⟨v5, rfl, L5⟩, B⟩
    obtain ⟨g5, c5, hv5, _⟩ := L5.shape
    subst hv5
    have L5 := Lib.hid L5.read
    have F := Lib.hid B
    have C3 := Lib.hid (C2.out.up F.out)
    rw [hm.out] at L5 hm12 ⊢
    clear iv B b0 b1 b2 b3 b4 b5 b6 b7 b8 bl C2
    obtain ⟨⟨b0, b1, b2, b3, b4, b5, b6, b7, b8⟩, bl⟩ := C3.out.cells
    go_wp2_with fail
    refine (sv _ F.out).mono ?_
    rintro e w5 ⟨v6, rfl, O6, B⟩
    obtain ⟨g6, c6, hv6⟩ := O6.len
    subst hv6
    have L6 := Lib.hid O6.read
    rw [hm.out] at L6 ⊢
    replace L5 := Lib.hid (L5.out.up B (Nat.le_refl _))
    replace C3 := Lib.hid (C3.out.up B)
    replace F := Lib.hid (bstep F.out B)
    clear sv B O6 b0 b1 b2 b3 b4 b5 b6 b7 b8 bl
    have sm := fun W (hb : Below w5.heap.size w5 W) => smL_any _ _ N W (L5.out.up hb (Nat.le_refl _)) (L6.out.up hb (Nat.le_refl _))
    go_wp2_with fail
    refine (sm _ (Below.refl _ _)).mono ?_
    rintro e w8 ⟨rfl, B⟩
    have K7 := Lib.hid B
    clear B
    cases q
    · go_wp2_with fail
      refine (sm _ K7.out).mono ?_
      rintro e w10 ⟨rfl, B⟩
      replace K7 := Lib.hid (bstep K7.out B)
      have D9 := Lib.hid (bstep D.out (bstep F.out K7.out))
      clear B
      go_wp2_with fail
      go_ret
      exact ⟨rfl, D9.out⟩
    · clear sm
      have hq := Lib.hid (show (takeR E X).2 = true by rw [hR.out])
      have hN := Lib.hid (show (takeR E X).1 = N by rw [hR.out])
      replace L5 := Lib.hid (L5.out.up K7.out (Nat.le_refl _))
      replace C3 := Lib.hid (C3.out.up K7.out)
      replace F := Lib.hid (bstep F.out K7.out)
      have O8 := Lib.hid (O2.out.up F.out (Nat.le_refl _))
      have I8 := Lib.hid (I2.out.up F.out (Nat.le_refl _))
      have S8 := Lib.hid (S2.out.up F.out)
      have D8 := Lib.hid (bstep D.out F.out)
      clear L6 F K7 O2 I2 S2 D hR
      obtain ⟨hlog, henB, hst, h12, h5, h6, h7⟩ := take_is hq.out
      have hNe : N = putE X E := by rw [← hN.out, h5]
      have hput : Hid (lputR E X = (N, true)) := Lib.hid (by rw [h6, hNe])
      have hNv : Hid (logB N = true) := Lib.hid (by rw [hNe]; exact h7)
      clear hlog henB hst h12 h5 h6 h7 hNe hq hN S8
      have lp := ilput_any _ E X (.slice xa xn xc) w8 O8.out I8.out
      unfold LpZ at lp
      rw [hput.out] at lp
      dsimp only at lp
      unfold env at lp
      obtain ⟨⟨p0, p1, p2, p3, p4, p5, p6, p7, p8⟩, pl⟩ := C3.out.cells
      go_wp2_with fail
      refine lp.mono ?_
      rintro e w9 ⟨⟨v10, rfl, L10⟩, B⟩
      obtain ⟨g10, c10, hv10, _⟩ := L10.shape
      subst hv10
      have L10 := Lib.hid L10.read
      rw [hm.out] at L10 ⊢
      replace L5 := Lib.hid (L5.out.up B (Nat.le_refl _))
      replace D8 := Lib.hid (bstep D8.out B)
      clear B lp O8 I8 C3 p0 p1 p2 p3 p4 p5 p6 p7 p8 pl
      have sl := smL_any _ _ N w9 L10.out L5.out
      have lv := fun W (hb : Below w9.heap.size w9 W) => ilogv_any _ N W (L5.out.up hb (Nat.le_refl _))
      rw [hNv.out] at lv
      go_wp2_with fail
      refine sl.mono ?_
      rintro e w10 ⟨rfl, B⟩
      have K10 := Lib.hid B
      clear B sl
      go_wp2_with fail
      refine (lv _ K10.out).mono ?_
      rintro e w11 ⟨rfl, B⟩
      have D9 := Lib.hid (bstep D8.out (bstep K10.out B))
      clear B lv
      go_wp2_with fail
      go_ret
      exact ⟨by first | rfl | simp, D9.out⟩
end Go.Proofs.YtiolhjjkjmepcaaGreatDoor
