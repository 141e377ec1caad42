/- Texts laid together. -/
import Derived.Test.YtiolhjjkjmepcaaGreatDoorC13
import Derived.Test.YtiolhjjkjmepcaaGreatDoorC30
import Derived.Test.YtiolhjjkjmepcaaGreatDoorC16
import Derived.Test.YtiolhjjkjmepcaaGreatDoorC07
import Derived.Test.YtiolhjjkjmepcaaGreatDoorC31
import Derived.Deep.RegionHeld3
import Derived.Deep.DeepCutAuto
import Derived.Test.YtiolhjjkjmepcaaGreatDoorC25
import Derived.Test.YtiolhjjkjmepcaaGreatDoorC27
/- The walk of FnExactTakeEntry. -/
namespace Go.Proofs.YtiolhjjkjmepcaaGreatDoor
open Go.RowKit
set_option linter.unusedVariables false

theorem LEs.upbT {w w' : World} {B : Nat} {a : Option Addr} {len cap : Nat} (h : LEs w a len cap) (hb : Below B w w') (hB : w.heap.size ≤ B) : LEs w' a len cap := by
  obtain ⟨h1, h2, h3⟩ := h
  refine ⟨h1, h2, ?_⟩
  rcases h3 with h3 | ⟨b, off, rfl, hl, hc⟩
  · exact .inl h3
  · refine .inr ⟨b, off, rfl, Nat.lt_of_lt_of_le hl hb.size, fun i hi => ?_⟩
    obtain ⟨x, ua, un, uc, e0, e1, e2, e3, e4, e5, e6, e7, e8, e9, e10⟩ := hc i hi
    have hcc : ∀ o, w'.cell? ⟨b, o, none⟩ = w.cell? ⟨b, o, none⟩ := fun o => hb.cell (p := ⟨b, o, none⟩) (Nat.lt_of_lt_of_le hl hB)
    exact ⟨x, ua, un, uc, by rw [hcc]; exact e0, by rw [hcc]; exact e1, by rw [hcc]; exact e2, by rw [hcc]; exact e3, by rw [hcc]; exact e4, by rw [hcc]; exact e5, by rw [hcc]; exact e6, by rw [hcc]; exact e7, by rw [hcc]; exact e8, e9, e10.imp id fun ⟨C, hC⟩ => ⟨C, hC.up hb hB⟩⟩
section
variable {w0 wc w' : World} {ib : Nat} {X : En} {ua : Option Addr} {un uc : Nat}
theorem xlpT_keep (hb : Below wc.heap.size wc w') (h : (wc.cell? ⟨ib, 0, none⟩ = some (.int .i64 X.id.1) ∧ wc.cell? ⟨ib, 1, none⟩ = some (.int .i64 X.id.2) ∧ wc.cell? ⟨ib, 2, none⟩ = some (.int .i64 X.bal) ∧ wc.cell? ⟨ib, 3, none⟩ = some (.int .i64 X.st) ∧ wc.cell? ⟨ib, 4, none⟩ = some (.int .i64 X.k) ∧ wc.cell? ⟨ib, 5, none⟩ = some (.int .i64 X.key) ∧ wc.cell? ⟨ib, 6, none⟩ = some (.int .i64 X.v) ∧ wc.cell? ⟨ib, 7, none⟩ = some (.int .i64 X.seq) ∧ wc.cell? ⟨ib, 8, none⟩ = some (.slice ua un uc)) ∧ Below w0.heap.size w0 wc) : (w'.cell? ⟨ib, 0, none⟩ = some (.int .i64 X.id.1) ∧ w'.cell? ⟨ib, 1, none⟩ = some (.int .i64 X.id.2) ∧ w'.cell? ⟨ib, 2, none⟩ = some (.int .i64 X.bal) ∧ w'.cell? ⟨ib, 3, none⟩ = some (.int .i64 X.st) ∧ w'.cell? ⟨ib, 4, none⟩ = some (.int .i64 X.k) ∧ w'.cell? ⟨ib, 5, none⟩ = some (.int .i64 X.key) ∧ w'.cell? ⟨ib, 6, none⟩ = some (.int .i64 X.v) ∧ w'.cell? ⟨ib, 7, none⟩ = some (.int .i64 X.seq) ∧ w'.cell? ⟨ib, 8, none⟩ = some (.slice ua un uc)) ∧ Below w0.heap.size w0 w' :=
  ⟨⟨cell_later hb h.1.1, cell_later hb h.1.2.1, cell_later hb h.1.2.2.1, cell_later hb h.1.2.2.2.1, cell_later hb h.1.2.2.2.2.1, cell_later hb h.1.2.2.2.2.2.1, cell_later hb h.1.2.2.2.2.2.2.1, cell_later hb h.1.2.2.2.2.2.2.2.1, cell_later hb h.1.2.2.2.2.2.2.2.2⟩, h.2.trans (hb.mono h.2.size)⟩
theorem xlpT_drew (h : (wc.cell? ⟨ib, 0, none⟩ = some (.int .i64 X.id.1) ∧ wc.cell? ⟨ib, 1, none⟩ = some (.int .i64 X.id.2) ∧ wc.cell? ⟨ib, 2, none⟩ = some (.int .i64 X.bal) ∧ wc.cell? ⟨ib, 3, none⟩ = some (.int .i64 X.st) ∧ wc.cell? ⟨ib, 4, none⟩ = some (.int .i64 X.k) ∧ wc.cell? ⟨ib, 5, none⟩ = some (.int .i64 X.key) ∧ wc.cell? ⟨ib, 6, none⟩ = some (.int .i64 X.v) ∧ wc.cell? ⟨ib, 7, none⟩ = some (.int .i64 X.seq) ∧ wc.cell? ⟨ib, 8, none⟩ = some (.slice ua un uc)) ∧ Below w0.heap.size w0 wc) : (wc.drew.cell? ⟨ib, 0, none⟩ = some (.int .i64 X.id.1) ∧ wc.drew.cell? ⟨ib, 1, none⟩ = some (.int .i64 X.id.2) ∧ wc.drew.cell? ⟨ib, 2, none⟩ = some (.int .i64 X.bal) ∧ wc.drew.cell? ⟨ib, 3, none⟩ = some (.int .i64 X.st) ∧ wc.drew.cell? ⟨ib, 4, none⟩ = some (.int .i64 X.k) ∧ wc.drew.cell? ⟨ib, 5, none⟩ = some (.int .i64 X.key) ∧ wc.drew.cell? ⟨ib, 6, none⟩ = some (.int .i64 X.v) ∧ wc.drew.cell? ⟨ib, 7, none⟩ = some (.int .i64 X.seq) ∧ wc.drew.cell? ⟨ib, 8, none⟩ = some (.slice ua un uc)) ∧ Below w0.heap.size w0 wc.drew := ⟨h.1, h.2.drew⟩
theorem xlpT_exc {D : Nat → Prop} (hx : Exc D wc w') (hi : ib < w0.heap.size) (hD : ∀ b, D b → w0.heap.size ≤ b) (h : (wc.cell? ⟨ib, 0, none⟩ = some (.int .i64 X.id.1) ∧ wc.cell? ⟨ib, 1, none⟩ = some (.int .i64 X.id.2) ∧ wc.cell? ⟨ib, 2, none⟩ = some (.int .i64 X.bal) ∧ wc.cell? ⟨ib, 3, none⟩ = some (.int .i64 X.st) ∧ wc.cell? ⟨ib, 4, none⟩ = some (.int .i64 X.k) ∧ wc.cell? ⟨ib, 5, none⟩ = some (.int .i64 X.key) ∧ wc.cell? ⟨ib, 6, none⟩ = some (.int .i64 X.v) ∧ wc.cell? ⟨ib, 7, none⟩ = some (.int .i64 X.seq) ∧ wc.cell? ⟨ib, 8, none⟩ = some (.slice ua un uc)) ∧ Below w0.heap.size w0 wc) : (w'.cell? ⟨ib, 0, none⟩ = some (.int .i64 X.id.1) ∧ w'.cell? ⟨ib, 1, none⟩ = some (.int .i64 X.id.2) ∧ w'.cell? ⟨ib, 2, none⟩ = some (.int .i64 X.bal) ∧ w'.cell? ⟨ib, 3, none⟩ = some (.int .i64 X.st) ∧ w'.cell? ⟨ib, 4, none⟩ = some (.int .i64 X.k) ∧ w'.cell? ⟨ib, 5, none⟩ = some (.int .i64 X.key) ∧ w'.cell? ⟨ib, 6, none⟩ = some (.int .i64 X.v) ∧ w'.cell? ⟨ib, 7, none⟩ = some (.int .i64 X.seq) ∧ w'.cell? ⟨ib, 8, none⟩ = some (.slice ua un uc)) ∧ Below w0.heap.size w0 w' := by
  have hs := h.2.size
  have kb : ∀ b, b < w0.heap.size → w'.heap[b]? = wc.heap[b]? := fun b hb => hx.block b (Nat.lt_of_lt_of_le hb hs) (fun e => by have := hD b e; omega)
  have kc : ∀ o, w'.cell? ⟨ib, o, none⟩ = wc.cell? ⟨ib, o, none⟩ := fun o => World.cell?_of_block (a := ⟨ib, o, none⟩) (kb ib hi)
  exact ⟨⟨(kc _).trans h.1.1, (kc _).trans h.1.2.1, (kc _).trans h.1.2.2.1, (kc _).trans h.1.2.2.2.1, (kc _).trans h.1.2.2.2.2.1, (kc _).trans h.1.2.2.2.2.2.1, (kc _).trans h.1.2.2.2.2.2.2.1, (kc _).trans h.1.2.2.2.2.2.2.2.1, (kc _).trans h.1.2.2.2.2.2.2.2.2⟩, h.2.trans (hx.to (B := w0.heap.size) hs hD)⟩
end
theorem xenoT_d {w w' : World} {B : Nat} {v : Value} {E : List En} (h : EnO w B v E) (hb : Below w.drew.heap.size w.drew w') : EnO w' B v E := (h.up (Below.drew (Below.refl _ _))).up hb
theorem xownT_d {w w' : World} {b : Nat} {v : Value} {C : List Pid} (h : OwnP w b v C) (hb : Below w.drew.heap.size w.drew w') : OwnP w' b v C := h.same (hb.block _ h.lt)
theorem takeR_deps {E : List En} {X : En} : ∀ i, i < (takeR E X).1.length → ((takeR E X).1.getD i en0).deps.length ≤ 12 := by
  intro i hi
  cases h : (takeR E X).2 with
  | false =>
    have h0 : (takeR E X).1 = [] := by
      unfold takeR at h ⊢
      split
      · rename_i g; rw [if_pos g] at h; unfold lputR at h ⊢; split
        · rename_i g2; rw [if_pos g2] at h; cases h
        · rfl
      · rfl
    rw [h0] at hi; exact absurd hi (by simp)
  | true =>
    obtain ⟨_, _, _, _, h5, _, hl⟩ := take_is h
    rw [h5] at hi ⊢
    have := (log_of hl).2.1 _ (enD_mem hi)
    simp only [enB, ndB, En.nd, Bool.and_eq_true] at this
    exact (srt_of this.1.2.2.1).1
theorem stake_any_pair (u x : Value) (E : List En) (X : En) (w : World) (h : Ens w u E) (hu : Ids w x X.deps) : Calls Tryz.prog 14 #[u, env X x] w fun e w' => (∃ v, e = .returned (.tuple #[v, .bool (takeR E X).2]) ∧ EnO w' w.heap.size v (takeR E X).1) ∧ Below w.heap.size w w' :=
  (stake_any u x E X w h hu).mono fun e w' ⟨v, h1, h2, h3⟩ => ⟨⟨v, h1, h2⟩, h3⟩

set_option maxRecDepth 100000 in
set_option maxHeartbeats 16000000 in
theorem exTakeEntry_any (a : Option Addr) (len cap : Nat) (p r bal st k key v s : Int) (ua : Option Addr) (un uc : Nat) (w : World) (h : LEs w a len cap) (hun : un ≤ maxLen) (hid : 1048576 < un ∨ ∃ C, Ids w (.slice ua un uc) C) (hpr : inR (p, r)) (hS0 : SenW w) :
    Calls Tryz.prog 10 #[.slice a len cap, .agg #[.int .i64 p, .int .i64 r, .int .i64 bal, .int .i64 st, .int .i64 k, .int .i64 key, .int .i64 v, .int .i64 s, .slice ua un uc]] w fun e w' => e = .returned (.bool true) ∧ Below w.heap.size w w' := by
  obtain ⟨a0, a1, hS⟩ := hS0
  have hS := Lib.hid hS
  have hpr := Lib.hid hpr
  have D0 := (Below.refl w.heap.size w).alloc (Nat.le_refl _) (.cells #[.int .i64 p, .int .i64 r, .int .i64 bal, .int .i64 st, .int .i64 k, .int .i64 key, .int .i64 v, .int .i64 s, .slice ua un uc] 48)
  have sz := szEb_any a len cap _ (h.upbT D0 (Nat.le_refl _))
  have A0 := Lib.hid (heap_alloc_new w (.cells #[.int .i64 p, .int .i64 r, .int .i64 bal, .int .i64 st, .int .i64 k, .int .i64 key, .int .i64 v, .int .i64 s, .slice ua un uc] 48))
  have D0 := Lib.hid D0
  have hid := Lib.hid hid
  have hun2 : un ≤ 9223372036854775807 := by simpa [maxLen] using hun
  clear h
  go_enter Tryz.func10, Tryz.ntmps10
  go_wp2_with fail
  refine sz.mono ?_
  rintro e w1 ⟨⟨z, rfl, hz⟩, B⟩
  have D1 := Lib.hid (bstep D0.out B)
  have A1 := Lib.hid (bblk B (by simp) A0.out)
  rcases hz with rfl | ⟨hz0, hz1, E, hEl, hE⟩
  · clear B sz D0 A0 A1
    go_wp2_with fail
    go_ret
    exact ⟨rfl, D1.out⟩
  · have hzn : ¬ z < 0 := by omega
    replace hE := Lib.hid (hE.up B (Nat.le_refl _))
    clear B sz D0 A0
    obtain ⟨⟨y0, y1, y2, y3, y4, y5, y6, y7, y8⟩, _, ys⟩ := nine_all A1.out
    have sy := fun W => szE_any p r bal st k key v s ua un uc z W hz0 hz1 hun2
    by_cases hlu : z < un
    · rw [if_pos hlu] at sy
      go_wp2_with fail
      refine (sy _).mono ?_
      rintro e w2 ⟨rfl, B⟩
      replace D1 := Lib.hid (bstep D1.out B)
      clear B sy y0 y1 y2 y3 y4 y5 y6 y7 y8 ys
      go_wp2_with fail
      go_ret
      exact ⟨rfl, D1.out⟩
    · rw [if_neg hlu] at sy
      obtain ⟨zy, hzy⟩ : ∃ q, z - (un : Int) = q := ⟨_, rfl⟩
      rw [hzy] at sy
      have hzy0 : ¬ zy < 0 := by omega
      obtain ⟨C, hC⟩ := hid.out.resolve_left (by omega)
      obtain ⟨X, e0, e1, e2, e3, e4, e5, e6, e7, e8⟩ : ∃ X : En, X.id.1 = p ∧ X.id.2 = r ∧ X.bal = bal ∧ X.st = st ∧ X.k = k ∧ X.key = key ∧ X.v = v ∧ X.seq = s ∧ X.deps = C := ⟨⟨(p, r), bal, st, k, key, v, s, C⟩, rfl, rfl, rfl, rfl, rfl, rfl, rfl, rfl, rfl⟩
      subst e0 e1 e2 e3 e4 e5 e6 e7 e8
      have hXi : Hid (inR X.id) := Lib.hid hpr.out
      clear hpr
      replace hC := Lib.hid (hC.up D1.out (Nat.le_refl _))
      clear hlu hzy hid
      go_wp2_with fail
      refine (sy _).mono ?_
      rintro e w2 ⟨rfl, B⟩
      replace D1 := Lib.hid (bstep D1.out B)
      replace A1 := Lib.hid (bblk B (lt_of_heap A1.out) A1.out)
      replace hC := Lib.hid (hC.out.up B (Nat.le_refl _))
      replace hE := Lib.hid (hE.out.up B (Nat.le_refl _))
      clear B sy y0 y1 y2 y3 y4 y5 y6 y7 y8 ys
      go_upto_region 8 with fail
      obtain ⟨⟨N, q⟩, hR⟩ : ∃ r, takeR E X = r := ⟨_, rfl⟩
      have hN12 : N.length ≤ 12 := by have := takeR_len E X; rw [hR] at this; exact this
      have hNd : Hid (∀ i, i < N.length → (N.getD i en0).deps.length ≤ 12) := Lib.hid (by have := takeR_deps (E := E) (X := X); rw [hR] at this; exact this)
      have te := fun W (hb : Below w2.heap.size w2 W) => toEs_any _ E W (hE.out.up hb (Nat.le_refl _))
      have tx := fun W (hb : Below w2.heap.size w2 W) => toE_any X (.slice ua un uc) W (hC.out.up hb (Nat.le_refl _))
      have sl := fun u x W (H : Ens W u E) (H2 : Ids W x X.deps) => stake_any_pair u x E X W H H2
      have il := fun u x W (hb : Below w2.heap.size w2 W) (H : Ens W u E) (H2 : Ids W x X.deps) => itake_any a0 a1 u x E X W H H2 hXi.out (fun W' hb' => hS.out.up (bstep D1.out (bstep hb hb')))
      unfold TkZ at il
      unfold EnsCPost at te
      unfold EnCPost at tx
      rw [hR] at sl il
      dsimp only at sl il
      unfold env at sl il tx
      obtain ⟨ib, hib⟩ : ∃ ib, Hid (w.heap.size = ib) := ⟨_, Lib.hid rfl⟩
      rw [hib.out] at A1 ⊢
      have hil := lt_of_heap A1.out
      obtain ⟨⟨y0, y1, y2, y3, y4, y5, y6, y7, y8⟩, _, _⟩ := nine_all A1.out
      have H0 := Lib.hid (show (w2.cell? ⟨ib, 0, none⟩ = some (.int .i64 X.id.1) ∧ w2.cell? ⟨ib, 1, none⟩ = some (.int .i64 X.id.2) ∧ w2.cell? ⟨ib, 2, none⟩ = some (.int .i64 X.bal) ∧ w2.cell? ⟨ib, 3, none⟩ = some (.int .i64 X.st) ∧ w2.cell? ⟨ib, 4, none⟩ = some (.int .i64 X.k) ∧ w2.cell? ⟨ib, 5, none⟩ = some (.int .i64 X.key) ∧ w2.cell? ⟨ib, 6, none⟩ = some (.int .i64 X.v) ∧ w2.cell? ⟨ib, 7, none⟩ = some (.int .i64 X.seq) ∧ w2.cell? ⟨ib, 8, none⟩ = some (.slice ua un uc)) ∧ Below w2.heap.size w2 w2 from ⟨⟨y0, y1, y2, y3, y4, y5, y6, y7, y8⟩, Below.refl _ _⟩)
      clear hE hC hR hEl hib A1 y0 y1 y2 y3 y4 y5 y6 y7 y8
      go_upto_region 8 with fail
      go_region_held3 (fun w' => (w'.cell? ⟨ib, 0, none⟩ = some (.int .i64 X.id.1) ∧ w'.cell? ⟨ib, 1, none⟩ = some (.int .i64 X.id.2) ∧ w'.cell? ⟨ib, 2, none⟩ = some (.int .i64 X.bal) ∧ w'.cell? ⟨ib, 3, none⟩ = some (.int .i64 X.st) ∧ w'.cell? ⟨ib, 4, none⟩ = some (.int .i64 X.k) ∧ w'.cell? ⟨ib, 5, none⟩ = some (.int .i64 X.key) ∧ w'.cell? ⟨ib, 6, none⟩ = some (.int .i64 X.v) ∧ w'.cell? ⟨ib, 7, none⟩ = some (.int .i64 X.seq) ∧ w'.cell? ⟨ib, 8, none⟩ = some (.slice ua un uc)) ∧ Below w2.heap.size w2 w') (first | exact xlpT_drew H0.out | exact xlpT_keep (by assumption) (by assumption))
        (first | (go_at_call 26; (with_reducible refine (te _ (by assumption : (_ ∧ _ ∧ _ ∧ _ ∧ _ ∧ _ ∧ _ ∧ _ ∧ _) ∧ Below w2.heap.size w2 _).2).mono ?_); rintro e w' ⟨u2, rfl, O2, hb⟩; have O2 := Lib.hid O2; (try replace P2 := Lib.hid (by first | exact P2.out.up hb P2.out.lt | exact xownT_d P2.out hb))) | (go_at_call 27; (with_reducible refine (tx _ (by assumption : (_ ∧ _ ∧ _ ∧ _ ∧ _ ∧ _ ∧ _ ∧ _ ∧ _) ∧ Below w2.heap.size w2 _).2).mono ?_); rintro e w' ⟨bp2, p2, _, rfl, P2, hb⟩; obtain ⟨pn2, rfl⟩ : ∃ pc, p2 = .slice (some ⟨bp2, 0, none⟩) X.deps.length pc := (by obtain ⟨c, e, _⟩ := P2.shape; exact ⟨_, e⟩); have P2 := Lib.hid P2; (try replace O2 := Lib.hid (by first | exact O2.out.up hb | exact xenoT_d O2.out hb))) | (go_at_call 14; have hz3 := ((by assumption : (_ ∧ _ ∧ _ ∧ _ ∧ _ ∧ _ ∧ _ ∧ _ ∧ _) ∧ Below w2.heap.size w2 _).2).size; (with_reducible refine (sl _ _ _  O2.out.read P2.out.read).mono ?_); rintro e w' ⟨⟨u3, rfl, O3⟩, hb⟩; have O3 := Lib.hid O3; clear O2 P2))
      rename_i H3
      have H3 := Lib.hid (show (_ ∧ _ ∧ _ ∧ _ ∧ _ ∧ _ ∧ _ ∧ _ ∧ _) ∧ Below w2.heap.size w2 _ from H3)
      clear H0
      obtain ⟨g3, c3, hu3⟩ := O3.out.len
      subst hu3
      go_upto_region 9 with fail
      go_wp2_with fail
      refine (te _ H3.out.2).mono ?_
      rintro e w6 ⟨u6, rfl, O6, B⟩
      have K3 := Lib.hid B
      have hs6 := B.size
      have hs36 := H3.out.2.size
      have M6 := O6.mk
      obtain ⟨gx, cx, Lx, rfl, hm1, hm2, hm3⟩ := M6
      have O6 := Lib.hid O6
      have hm3 := Lib.hid hm3
      replace H3 := Lib.hid (xlpT_keep B H3.out)
      clear B
      obtain ⟨⟨y0, y1, y2, y3, y4, y5, y6, y7, y8⟩, _⟩ := H3.out
      go_wp2_with fail
      refine (tx _ H3.out.2).mono ?_
      rintro e w7 ⟨b7, p7, hb7, rfl, P7, B⟩
      obtain ⟨pc7, hp7⟩ : ∃ pc, p7 = .slice (some ⟨b7, 0, none⟩) X.deps.length pc := by obtain ⟨c, e, _⟩ := P7.shape; exact ⟨_, e⟩
      subst hp7
      have hs7 := B.size
      have hDl := P7.cap_le
      have BA := (Below.refl w7.heap.size w7).alloc (Nat.le_refl _) (.cells #[.int .i64 X.id.1, .int .i64 X.id.2, .int .i64 X.bal, .int .i64 X.st, .int .i64 X.k, .int .i64 X.key, .int .i64 X.v, .int .i64 X.seq, .slice (some ⟨b7, 0, none⟩) X.deps.length pc7] 30)
      have G7 := Lib.hid (show BxE (w7.alloc (.cells #[.int .i64 X.id.1, .int .i64 X.id.2, .int .i64 X.bal, .int .i64 X.st, .int .i64 X.k, .int .i64 X.key, .int .i64 X.v, .int .i64 X.seq, .slice (some ⟨b7, 0, none⟩) X.deps.length pc7] 30)) w7.heap.size X (.slice (some ⟨b7, 0, none⟩) X.deps.length pc7) from heap_alloc_new _ _)
      replace P7 := Lib.hid (P7.up BA P7.lt)
      replace K3 := Lib.hid (bstep (bstep K3.out B) BA)
      replace O6 := Lib.hid ((O6.out.up B).up BA)
      replace hm3 := Lib.hid ((hm3.out.up B).up BA)
      replace H3 := Lib.hid (xlpT_keep BA (xlpT_keep B H3.out))
      have hs8 := BA.size
      have hb7l := P7.out.lt
      clear B BA y0 y1 y2 y3 y4 y5 y6 y7 y8
      go_upto_region 11 with fail
      generalize hW8 : w7.alloc (.cells #[.int .i64 X.id.1, .int .i64 X.id.2, .int .i64 X.bal, .int .i64 X.st, .int .i64 X.k, .int .i64 X.key, .int .i64 X.v, .int .i64 X.seq, .slice (some ⟨b7, 0, none⟩) X.deps.length pc7] 30) = w8 at G7 P7 K3 O6 hm3 H3 hs8 hb7l ⊢
      clear hW8
      obtain ⟨xb, hxb⟩ : ∃ c, w7.heap.size = c := ⟨_, rfl⟩
      rw [hxb] at G7 hs7 hs8 ⊢
      have hxl := G7.out.cells.2
      obtain ⟨⟨r0, r1, r2, r3, r4, r5, r6, r7, r8⟩, rl⟩ := G7.out.cells
      go_wp2_with fail
      refine (il _ _ _ H3.out.2 O6.out.read P7.out.read).mono ?_
      rintro e w9 ⟨⟨v9, rfl, O9⟩, B⟩
      have hs9 := B.size
      obtain ⟨g9, c9, hv9, _⟩ := O9.shape
      subst hv9
      obtain ⟨B9, hB9⟩ : ∃ n, w8.heap.size = n := ⟨_, rfl⟩
      obtain ⟨T9, hT9⟩ : ∃ n, w9.heap.size = n := ⟨_, rfl⟩
      rw [hB9, hT9] at O9
      have O9 := Lib.hid O9
      replace G7 := Lib.hid (G7.out.up B)
      replace P7 := Lib.hid (P7.out.up B P7.out.lt)
      replace K3 := Lib.hid (bstep K3.out B)
      replace O6 := Lib.hid (O6.out.up B)
      replace hm3 := Lib.hid (hm3.out.up B)
      replace H3 := Lib.hid (xlpT_keep B H3.out)
      rw [hB9] at hb7l hs8 hs9 hxl
      rw [hT9] at hs9
      clear B r0 r1 r2 r3 r4 r5 r6 r7 r8 rl hB9 hT9
      have eq9 := eqEs_any _ _ N w9 O9.out.read (O3.out.up K3.out).read
      go_wp2_with fail
      refine eq9.mono ?_
      rintro e w10 ⟨rfl, B⟩
      replace O9 := Lib.hid (O9.out.up B)
      replace G7 := Lib.hid (G7.out.up B)
      replace P7 := Lib.hid (P7.out.up B P7.out.lt)
      replace K3 := Lib.hid (bstep K3.out B)
      replace O6 := Lib.hid (O6.out.up B)
      replace hm3 := Lib.hid (hm3.out.up B)
      replace H3 := Lib.hid (xlpT_keep B H3.out)
      clear B eq9
      go_wp2_with fail
      refine (te _ H3.out.2).mono ?_
      rintro e w11 ⟨u11, rfl, O11, B⟩
      have O11 := Lib.hid O11
      replace O9 := Lib.hid (O9.out.up B)
      replace G7 := Lib.hid (G7.out.up B)
      replace P7 := Lib.hid (P7.out.up B P7.out.lt)
      replace K3 := Lib.hid (bstep K3.out B)
      replace O6 := Lib.hid (O6.out.up B)
      replace hm3 := Lib.hid (hm3.out.up B)
      replace H3 := Lib.hid (xlpT_keep B H3.out)
      clear B
      go_wp2_with fail
      refine (eqEs_any _ _ E _ O6.out.read O11.out.read).mono ?_
      rintro e w12 ⟨rfl, B⟩
      replace O9 := Lib.hid (O9.out.up B)
      replace G7 := Lib.hid (G7.out.up B)
      replace P7 := Lib.hid (P7.out.up B P7.out.lt)
      replace K3 := Lib.hid (bstep K3.out B)
      replace hm3 := Lib.hid (hm3.out.up B)
      replace H3 := Lib.hid (xlpT_keep B H3.out)
      clear B O6 O11
      go_upto_region 16 with fail
      have keep16 : ∀ wc w', Below wc.heap.size wc w' → (((wc.cell? ⟨ib, 0, none⟩ = some (.int .i64 X.id.1) ∧ wc.cell? ⟨ib, 1, none⟩ = some (.int .i64 X.id.2) ∧ wc.cell? ⟨ib, 2, none⟩ = some (.int .i64 X.bal) ∧ wc.cell? ⟨ib, 3, none⟩ = some (.int .i64 X.st) ∧ wc.cell? ⟨ib, 4, none⟩ = some (.int .i64 X.k) ∧ wc.cell? ⟨ib, 5, none⟩ = some (.int .i64 X.key) ∧ wc.cell? ⟨ib, 6, none⟩ = some (.int .i64 X.v) ∧ wc.cell? ⟨ib, 7, none⟩ = some (.int .i64 X.seq) ∧ wc.cell? ⟨ib, 8, none⟩ = some (.slice ua un uc)) ∧ (wc.cell? ⟨xb, 0, none⟩ = some (.int .i64 X.id.1) ∧ wc.cell? ⟨xb, 1, none⟩ = some (.int .i64 X.id.2) ∧ wc.cell? ⟨xb, 2, none⟩ = some (.int .i64 X.bal) ∧ wc.cell? ⟨xb, 3, none⟩ = some (.int .i64 X.st) ∧ wc.cell? ⟨xb, 4, none⟩ = some (.int .i64 X.k) ∧ wc.cell? ⟨xb, 5, none⟩ = some (.int .i64 X.key) ∧ wc.cell? ⟨xb, 6, none⟩ = some (.int .i64 X.v) ∧ wc.cell? ⟨xb, 7, none⟩ = some (.int .i64 X.seq) ∧ wc.cell? ⟨xb, 8, none⟩ = some (.slice (some ⟨b7, 0, none⟩) X.deps.length pc7))) ∧ Below w12.heap.size w12 wc) → (((w'.cell? ⟨ib, 0, none⟩ = some (.int .i64 X.id.1) ∧ w'.cell? ⟨ib, 1, none⟩ = some (.int .i64 X.id.2) ∧ w'.cell? ⟨ib, 2, none⟩ = some (.int .i64 X.bal) ∧ w'.cell? ⟨ib, 3, none⟩ = some (.int .i64 X.st) ∧ w'.cell? ⟨ib, 4, none⟩ = some (.int .i64 X.k) ∧ w'.cell? ⟨ib, 5, none⟩ = some (.int .i64 X.key) ∧ w'.cell? ⟨ib, 6, none⟩ = some (.int .i64 X.v) ∧ w'.cell? ⟨ib, 7, none⟩ = some (.int .i64 X.seq) ∧ w'.cell? ⟨ib, 8, none⟩ = some (.slice ua un uc)) ∧ (w'.cell? ⟨xb, 0, none⟩ = some (.int .i64 X.id.1) ∧ w'.cell? ⟨xb, 1, none⟩ = some (.int .i64 X.id.2) ∧ w'.cell? ⟨xb, 2, none⟩ = some (.int .i64 X.bal) ∧ w'.cell? ⟨xb, 3, none⟩ = some (.int .i64 X.st) ∧ w'.cell? ⟨xb, 4, none⟩ = some (.int .i64 X.k) ∧ w'.cell? ⟨xb, 5, none⟩ = some (.int .i64 X.key) ∧ w'.cell? ⟨xb, 6, none⟩ = some (.int .i64 X.v) ∧ w'.cell? ⟨xb, 7, none⟩ = some (.int .i64 X.seq) ∧ w'.cell? ⟨xb, 8, none⟩ = some (.slice (some ⟨b7, 0, none⟩) X.deps.length pc7))) ∧ Below w12.heap.size w12 w') := fun wc w' hb h => ⟨⟨⟨cell_later hb h.1.1.1, cell_later hb h.1.1.2.1, cell_later hb h.1.1.2.2.1, cell_later hb h.1.1.2.2.2.1, cell_later hb h.1.1.2.2.2.2.1, cell_later hb h.1.1.2.2.2.2.2.1, cell_later hb h.1.1.2.2.2.2.2.2.1, cell_later hb h.1.1.2.2.2.2.2.2.2.1, cell_later hb h.1.1.2.2.2.2.2.2.2.2⟩, ⟨cell_later hb h.1.2.1, cell_later hb h.1.2.2.1, cell_later hb h.1.2.2.2.1, cell_later hb h.1.2.2.2.2.1, cell_later hb h.1.2.2.2.2.2.1, cell_later hb h.1.2.2.2.2.2.2.1, cell_later hb h.1.2.2.2.2.2.2.2.1, cell_later hb h.1.2.2.2.2.2.2.2.2.1, cell_later hb h.1.2.2.2.2.2.2.2.2.2⟩⟩, h.2.trans (hb.mono h.2.size)⟩
      have drew16 : ∀ wc, (((wc.cell? ⟨ib, 0, none⟩ = some (.int .i64 X.id.1) ∧ wc.cell? ⟨ib, 1, none⟩ = some (.int .i64 X.id.2) ∧ wc.cell? ⟨ib, 2, none⟩ = some (.int .i64 X.bal) ∧ wc.cell? ⟨ib, 3, none⟩ = some (.int .i64 X.st) ∧ wc.cell? ⟨ib, 4, none⟩ = some (.int .i64 X.k) ∧ wc.cell? ⟨ib, 5, none⟩ = some (.int .i64 X.key) ∧ wc.cell? ⟨ib, 6, none⟩ = some (.int .i64 X.v) ∧ wc.cell? ⟨ib, 7, none⟩ = some (.int .i64 X.seq) ∧ wc.cell? ⟨ib, 8, none⟩ = some (.slice ua un uc)) ∧ (wc.cell? ⟨xb, 0, none⟩ = some (.int .i64 X.id.1) ∧ wc.cell? ⟨xb, 1, none⟩ = some (.int .i64 X.id.2) ∧ wc.cell? ⟨xb, 2, none⟩ = some (.int .i64 X.bal) ∧ wc.cell? ⟨xb, 3, none⟩ = some (.int .i64 X.st) ∧ wc.cell? ⟨xb, 4, none⟩ = some (.int .i64 X.k) ∧ wc.cell? ⟨xb, 5, none⟩ = some (.int .i64 X.key) ∧ wc.cell? ⟨xb, 6, none⟩ = some (.int .i64 X.v) ∧ wc.cell? ⟨xb, 7, none⟩ = some (.int .i64 X.seq) ∧ wc.cell? ⟨xb, 8, none⟩ = some (.slice (some ⟨b7, 0, none⟩) X.deps.length pc7))) ∧ Below w12.heap.size w12 wc) → (((wc.drew.cell? ⟨ib, 0, none⟩ = some (.int .i64 X.id.1) ∧ wc.drew.cell? ⟨ib, 1, none⟩ = some (.int .i64 X.id.2) ∧ wc.drew.cell? ⟨ib, 2, none⟩ = some (.int .i64 X.bal) ∧ wc.drew.cell? ⟨ib, 3, none⟩ = some (.int .i64 X.st) ∧ wc.drew.cell? ⟨ib, 4, none⟩ = some (.int .i64 X.k) ∧ wc.drew.cell? ⟨ib, 5, none⟩ = some (.int .i64 X.key) ∧ wc.drew.cell? ⟨ib, 6, none⟩ = some (.int .i64 X.v) ∧ wc.drew.cell? ⟨ib, 7, none⟩ = some (.int .i64 X.seq) ∧ wc.drew.cell? ⟨ib, 8, none⟩ = some (.slice ua un uc)) ∧ (wc.drew.cell? ⟨xb, 0, none⟩ = some (.int .i64 X.id.1) ∧ wc.drew.cell? ⟨xb, 1, none⟩ = some (.int .i64 X.id.2) ∧ wc.drew.cell? ⟨xb, 2, none⟩ = some (.int .i64 X.bal) ∧ wc.drew.cell? ⟨xb, 3, none⟩ = some (.int .i64 X.st) ∧ wc.drew.cell? ⟨xb, 4, none⟩ = some (.int .i64 X.k) ∧ wc.drew.cell? ⟨xb, 5, none⟩ = some (.int .i64 X.key) ∧ wc.drew.cell? ⟨xb, 6, none⟩ = some (.int .i64 X.v) ∧ wc.drew.cell? ⟨xb, 7, none⟩ = some (.int .i64 X.seq) ∧ wc.drew.cell? ⟨xb, 8, none⟩ = some (.slice (some ⟨b7, 0, none⟩) X.deps.length pc7))) ∧ Below w12.heap.size w12 wc.drew) := fun wc h => ⟨h.1, h.2.drew⟩
      obtain ⟨⟨r0, r1, r2, r3, r4, r5, r6, r7, r8⟩, rl⟩ := G7.out.cells
      obtain ⟨hc3, hb3⟩ := H3.out
      have H16 := Lib.hid (show ((w12.cell? ⟨ib, 0, none⟩ = some (.int .i64 X.id.1) ∧ w12.cell? ⟨ib, 1, none⟩ = some (.int .i64 X.id.2) ∧ w12.cell? ⟨ib, 2, none⟩ = some (.int .i64 X.bal) ∧ w12.cell? ⟨ib, 3, none⟩ = some (.int .i64 X.st) ∧ w12.cell? ⟨ib, 4, none⟩ = some (.int .i64 X.k) ∧ w12.cell? ⟨ib, 5, none⟩ = some (.int .i64 X.key) ∧ w12.cell? ⟨ib, 6, none⟩ = some (.int .i64 X.v) ∧ w12.cell? ⟨ib, 7, none⟩ = some (.int .i64 X.seq) ∧ w12.cell? ⟨ib, 8, none⟩ = some (.slice ua un uc)) ∧ (w12.cell? ⟨xb, 0, none⟩ = some (.int .i64 X.id.1) ∧ w12.cell? ⟨xb, 1, none⟩ = some (.int .i64 X.id.2) ∧ w12.cell? ⟨xb, 2, none⟩ = some (.int .i64 X.bal) ∧ w12.cell? ⟨xb, 3, none⟩ = some (.int .i64 X.st) ∧ w12.cell? ⟨xb, 4, none⟩ = some (.int .i64 X.k) ∧ w12.cell? ⟨xb, 5, none⟩ = some (.int .i64 X.key) ∧ w12.cell? ⟨xb, 6, none⟩ = some (.int .i64 X.v) ∧ w12.cell? ⟨xb, 7, none⟩ = some (.int .i64 X.seq) ∧ w12.cell? ⟨xb, 8, none⟩ = some (.slice (some ⟨b7, 0, none⟩) X.deps.length pc7))) ∧ Below w12.heap.size w12 w12 from ⟨⟨hc3, r0, r1, r2, r3, r4, r5, r6, r7, r8⟩, Below.refl _ _⟩)
      have tx16 := fun W (hb : Below w12.heap.size w12 W) => tx W (bstep H3.out.2 hb)
      have eq16 := fun x W (hb : Below w12.heap.size w12 W) (H : Ids W x X.deps) => eqE_any X (.slice (some ⟨b7, 0, none⟩) X.deps.length pc7) x W (P7.out.up hb P7.out.lt).read H
      unfold env at eq16
      have keep16 := Lib.hid keep16
      have drew16 := Lib.hid drew16
      clear hc3 hb3 r0 r1 r2 r3 r4 r5 r6 r7 r8 rl
      go_region_held3 (fun w' => ((w'.cell? ⟨ib, 0, none⟩ = some (.int .i64 X.id.1) ∧ w'.cell? ⟨ib, 1, none⟩ = some (.int .i64 X.id.2) ∧ w'.cell? ⟨ib, 2, none⟩ = some (.int .i64 X.bal) ∧ w'.cell? ⟨ib, 3, none⟩ = some (.int .i64 X.st) ∧ w'.cell? ⟨ib, 4, none⟩ = some (.int .i64 X.k) ∧ w'.cell? ⟨ib, 5, none⟩ = some (.int .i64 X.key) ∧ w'.cell? ⟨ib, 6, none⟩ = some (.int .i64 X.v) ∧ w'.cell? ⟨ib, 7, none⟩ = some (.int .i64 X.seq) ∧ w'.cell? ⟨ib, 8, none⟩ = some (.slice ua un uc)) ∧ (w'.cell? ⟨xb, 0, none⟩ = some (.int .i64 X.id.1) ∧ w'.cell? ⟨xb, 1, none⟩ = some (.int .i64 X.id.2) ∧ w'.cell? ⟨xb, 2, none⟩ = some (.int .i64 X.bal) ∧ w'.cell? ⟨xb, 3, none⟩ = some (.int .i64 X.st) ∧ w'.cell? ⟨xb, 4, none⟩ = some (.int .i64 X.k) ∧ w'.cell? ⟨xb, 5, none⟩ = some (.int .i64 X.key) ∧ w'.cell? ⟨xb, 6, none⟩ = some (.int .i64 X.v) ∧ w'.cell? ⟨xb, 7, none⟩ = some (.int .i64 X.seq) ∧ w'.cell? ⟨xb, 8, none⟩ = some (.slice (some ⟨b7, 0, none⟩) X.deps.length pc7))) ∧ Below w12.heap.size w12 w') (first | exact drew16.out _ H16.out | exact keep16.out _ _ (by assumption) (by assumption))
        (first | (go_at_call 27; (with_reducible refine (tx16 _ (by assumption : ((_ ∧ _ ∧ _ ∧ _ ∧ _ ∧ _ ∧ _ ∧ _ ∧ _) ∧ (_ ∧ _ ∧ _ ∧ _ ∧ _ ∧ _ ∧ _ ∧ _ ∧ _)) ∧ Below w12.heap.size w12 _).2).mono ?_); rintro e w' ⟨bp2, p2, _, rfl, P2, hb⟩; obtain ⟨pn2, rfl⟩ : ∃ pc, p2 = .slice (some ⟨bp2, 0, none⟩) X.deps.length pc := (by obtain ⟨c, e, _⟩ := P2.shape; exact ⟨_, e⟩); have P2 := Lib.hid P2) | (go_at_call 29; (with_reducible refine (eq16 _ _ (by assumption : ((_ ∧ _ ∧ _ ∧ _ ∧ _ ∧ _ ∧ _ ∧ _ ∧ _) ∧ (_ ∧ _ ∧ _ ∧ _ ∧ _ ∧ _ ∧ _ ∧ _ ∧ _)) ∧ Below w12.heap.size w12 _).2 (by first | exact P2.out.read | exact (xownT_d P2.out (Below.refl _ _)).read)).mono ?_); rintro e w' ⟨rfl, hb⟩; clear P2))
      rename_i H17
      have B := (show ((_ ∧ _ ∧ _ ∧ _ ∧ _ ∧ _ ∧ _ ∧ _ ∧ _) ∧ (_ ∧ _ ∧ _ ∧ _ ∧ _ ∧ _ ∧ _ ∧ _ ∧ _)) ∧ Below w12.heap.size w12 _ from H17).2
      replace O9 := Lib.hid (O9.out.up B)
      replace G7 := Lib.hid (G7.out.up B)
      replace P7 := Lib.hid (P7.out.up B P7.out.lt)
      replace K3 := Lib.hid (bstep K3.out B)
      replace hm3 := Lib.hid (hm3.out.up B)
      replace H3 := Lib.hid (xlpT_keep B H3.out)
      clear B H16 tx16 eq16 keep16 drew16 H17
      have mk := markEs_le _ _ gx E.length cx Lx _ hm1 hm3.out
      go_wp2_with fail
      refine mk.mono ?_
      rintro e w14 ⟨zk, rfl, hzk, hzk1, XX⟩
      replace P7 := Lib.hid (P7.out.same (XX.block _ P7.out.lt (by omega)))
      replace G7 := Lib.hid (G7.out.apart XX (by omega))
      replace O9 := Lib.hid (O9.out.apart XX (fun c h1 h2 h => by omega))
      replace K3 := Lib.hid (K3.out.trans (XX.to K3.out.size (fun c h => h.1)))
      replace H3 := Lib.hid (xlpT_exc XX hil (fun c h => by omega) H3.out)
      clear XX mk hm3
      obtain ⟨⟨r0, r1, r2, r3, r4, r5, r6, r7, r8⟩, rl⟩ := G7.out.cells
      have me := markEb_any X b7 X.deps.length pc7 zk _ P7.out.sz hDl hzk (by omega)
      unfold env at me
      go_wp2_with fail
      refine me.mono ?_
      rintro e w15 ⟨rfl, XX⟩
      replace O9 := Lib.hid (O9.out.apart XX (fun c h1 h2 h => by omega))
      replace K3 := Lib.hid (K3.out.trans (XX.to K3.out.size (fun c h => by omega)))
      replace H3 := Lib.hid (xlpT_exc XX hil (fun c h => by omega) H3.out)
      clear XX me P7 G7 r0 r1 r2 r3 r4 r5 r6 r7 r8 rl
      obtain ⟨nd, hnd⟩ : ∃ n, Hid (X.deps.length = n) := ⟨_, Lib.hid rfl⟩
      rw [hnd.out] at hDl ⊢
      have hzk2 : ¬ zk + 2 * (nd : Int) < 0 := by omega
      go_wp2_with fail
      refine (eqEs_any _ _ N _ O9.out.read (O3.out.up K3.out).read).mono ?_
      rintro e w16 ⟨rfl, B⟩
      replace O9 := Lib.hid (O9.out.up B)
      replace K3 := Lib.hid (bstep K3.out B)
      replace H3 := Lib.hid (xlpT_keep B H3.out)
      clear B
      have ml := markL_any _ _ _ N 1 _ O9.out hN12 hNd.out (by omega) (by omega)
      have hk0 : 1 ≤ kN N 1 := (ks_range (fun i => N.getD i en0) 1 N.length (fun i hi => hNd.out i hi)).1
      go_wp2_with fail
      refine ml.mono ?_
      rintro e w17 ⟨rfl, L9, XX⟩
      have L9 := Lib.hid L9
      replace K3 := Lib.hid (K3.out.trans (XX.to K3.out.size (fun c h => by omega)))
      replace H3 := Lib.hid (xlpT_exc XX hil (fun c h => by omega) H3.out)
      clear XX ml O9
      obtain ⟨kk, hkk⟩ : ∃ n, Hid (kN N 1 = n) := ⟨_, Lib.hid rfl⟩
      have hl17 := heldL_any _ _ _ N 1 _ L9.out hN12 hNd.out (by omega) (by omega)
      rw [hkk.out] at hk0 hl17 ⊢
      have hkn : ¬ kk < 0 := by omega
      go_wp2_with fail
      refine hl17.mono ?_
      rintro e w18 ⟨rfl, B⟩
      replace L9 := Lib.hid (L9.out.up B)
      replace K3 := Lib.hid (bstep K3.out B)
      replace H3 := Lib.hid (xlpT_keep B H3.out)
      clear B hl17
      have bel9 : ∀ {w w' : World}, Below w.drew.heap.size w.drew w' → Below w.heap.size w w' := fun h => (Below.drew (Below.refl _ _)).trans h
      have H3c := H3
      go_upto_region 31 with fail
      go_region_held3 (fun w' => (w'.cell? ⟨ib, 0, none⟩ = some (.int .i64 X.id.1) ∧ w'.cell? ⟨ib, 1, none⟩ = some (.int .i64 X.id.2) ∧ w'.cell? ⟨ib, 2, none⟩ = some (.int .i64 X.bal) ∧ w'.cell? ⟨ib, 3, none⟩ = some (.int .i64 X.st) ∧ w'.cell? ⟨ib, 4, none⟩ = some (.int .i64 X.k) ∧ w'.cell? ⟨ib, 5, none⟩ = some (.int .i64 X.key) ∧ w'.cell? ⟨ib, 6, none⟩ = some (.int .i64 X.v) ∧ w'.cell? ⟨ib, 7, none⟩ = some (.int .i64 X.seq) ∧ w'.cell? ⟨ib, 8, none⟩ = some (.slice ua un uc)) ∧ Below w2.heap.size w2 w') (first | exact xlpT_drew H3c.out | exact xlpT_keep (by assumption) (by assumption))
        (first | (go_at_call 26; (with_reducible refine (te _ (by assumption : (_ ∧ _ ∧ _ ∧ _ ∧ _ ∧ _ ∧ _ ∧ _ ∧ _) ∧ Below w2.heap.size w2 _).2).mono ?_); rintro e w' ⟨u2, rfl, O2, hb⟩; have O2 := Lib.hid O2; (try replace P2 := Lib.hid (by first | exact P2.out.up hb P2.out.lt | exact xownT_d P2.out hb)); (try replace L9 := Lib.hid (by first | exact L9.out.up hb | exact L9.out.up (bel9 hb))); (try replace K3 := Lib.hid (by first | exact bstep K3.out hb | exact bstep K3.out (bel9 hb)))) | (go_at_call 27; (with_reducible refine (tx _ (by assumption : (_ ∧ _ ∧ _ ∧ _ ∧ _ ∧ _ ∧ _ ∧ _ ∧ _) ∧ Below w2.heap.size w2 _).2).mono ?_); rintro e w' ⟨bp2, p2, _, rfl, P2, hb⟩; obtain ⟨pn2, rfl⟩ : ∃ pc, p2 = .slice (some ⟨bp2, 0, none⟩) X.deps.length pc := (by obtain ⟨c, e, _⟩ := P2.shape; exact ⟨_, e⟩); have P2 := Lib.hid P2; (try replace O2 := Lib.hid (by first | exact O2.out.up hb | exact xenoT_d O2.out hb)); (try replace L9 := Lib.hid (by first | exact L9.out.up hb | exact L9.out.up (bel9 hb))); (try replace K3 := Lib.hid (by first | exact bstep K3.out hb | exact bstep K3.out (bel9 hb)))) | (go_at_call 13; have hz5 := ((by assumption : (_ ∧ _ ∧ _ ∧ _ ∧ _ ∧ _ ∧ _ ∧ _ ∧ _) ∧ Below w2.heap.size w2 _).2).size; (with_reducible refine (il _ _ _ (by assumption : (_ ∧ _ ∧ _ ∧ _ ∧ _ ∧ _ ∧ _ ∧ _ ∧ _) ∧ Below w2.heap.size w2 _).2 O2.out.read P2.out.read).mono ?_); rintro e w' ⟨⟨u5, rfl, O5⟩, hb⟩; have O5 := Lib.hid O5; clear O2 P2; (try replace L9 := Lib.hid (by first | exact L9.out.up hb | exact L9.out.up (bel9 hb))); (try replace K3 := Lib.hid (by first | exact bstep K3.out hb | exact bstep K3.out (bel9 hb)))))
      rename_i H5
      have H5 := Lib.hid (show (_ ∧ _ ∧ _ ∧ _ ∧ _ ∧ _ ∧ _ ∧ _ ∧ _) ∧ Below w2.heap.size w2 _ from H5)
      obtain ⟨g5, c5, hu5, _⟩ := O5.out.shape
      subst hu5
      go_wp2_with fail
      refine (eqEs_any _ _ N _ O5.out.read (O3.out.up K3.out).read).mono ?_
      rintro e w20 ⟨rfl, B⟩
      replace L9 := Lib.hid (L9.out.up B)
      replace H5 := Lib.hid (xlpT_keep B H5.out)
      clear B O5 K3
      have hl20 := heldL_any _ _ _ N 1 _ L9.out hN12 hNd.out (by omega) (by omega)
      rw [hkk.out] at hl20
      go_wp2_with fail
      refine hl20.mono ?_
      rintro e w21 ⟨rfl, B⟩
      have D9 := Lib.hid (bstep D1.out (bstep H5.out.2 B))
      clear B hl20 L9 H5 H3 H3c
      go_wp2_with fail
      go_ret
      exact ⟨rfl, D9.out⟩
end Go.Proofs.YtiolhjjkjmepcaaGreatDoor

/- The walk of FnExactFixEntry. -/
namespace Go.Proofs.YtiolhjjkjmepcaaGreatDoor
open Go.RowKit
set_option linter.unusedVariables false

theorem LEs.upbF {w w' : World} {B : Nat} {a : Option Addr} {len cap : Nat} (h : LEs w a len cap) (hb : Below B w w') (hB : w.heap.size ≤ B) : LEs w' a len cap := by
  obtain ⟨h1, h2, h3⟩ := h
  refine ⟨h1, h2, ?_⟩
  rcases h3 with h3 | ⟨b, off, rfl, hl, hc⟩
  · exact .inl h3
  · refine .inr ⟨b, off, rfl, Nat.lt_of_lt_of_le hl hb.size, fun i hi => ?_⟩
    obtain ⟨x, ua, un, uc, e0, e1, e2, e3, e4, e5, e6, e7, e8, e9, e10⟩ := hc i hi
    have hcc : ∀ o, w'.cell? ⟨b, o, none⟩ = w.cell? ⟨b, o, none⟩ := fun o => hb.cell (p := ⟨b, o, none⟩) (Nat.lt_of_lt_of_le hl hB)
    exact ⟨x, ua, un, uc, by rw [hcc]; exact e0, by rw [hcc]; exact e1, by rw [hcc]; exact e2, by rw [hcc]; exact e3, by rw [hcc]; exact e4, by rw [hcc]; exact e5, by rw [hcc]; exact e6, by rw [hcc]; exact e7, by rw [hcc]; exact e8, e9, e10.imp id fun ⟨C, hC⟩ => ⟨C, hC.up hb hB⟩⟩
section
variable {w0 wc w' : World} {ib : Nat} {X : En} {ua : Option Addr} {un uc : Nat}
theorem xlpF_keep (hb : Below wc.heap.size wc w') (h : (wc.cell? ⟨ib, 0, none⟩ = some (.int .i64 X.id.1) ∧ wc.cell? ⟨ib, 1, none⟩ = some (.int .i64 X.id.2) ∧ wc.cell? ⟨ib, 2, none⟩ = some (.int .i64 X.bal) ∧ wc.cell? ⟨ib, 3, none⟩ = some (.int .i64 X.st) ∧ wc.cell? ⟨ib, 4, none⟩ = some (.int .i64 X.k) ∧ wc.cell? ⟨ib, 5, none⟩ = some (.int .i64 X.key) ∧ wc.cell? ⟨ib, 6, none⟩ = some (.int .i64 X.v) ∧ wc.cell? ⟨ib, 7, none⟩ = some (.int .i64 X.seq) ∧ wc.cell? ⟨ib, 8, none⟩ = some (.slice ua un uc)) ∧ Below w0.heap.size w0 wc) : (w'.cell? ⟨ib, 0, none⟩ = some (.int .i64 X.id.1) ∧ w'.cell? ⟨ib, 1, none⟩ = some (.int .i64 X.id.2) ∧ w'.cell? ⟨ib, 2, none⟩ = some (.int .i64 X.bal) ∧ w'.cell? ⟨ib, 3, none⟩ = some (.int .i64 X.st) ∧ w'.cell? ⟨ib, 4, none⟩ = some (.int .i64 X.k) ∧ w'.cell? ⟨ib, 5, none⟩ = some (.int .i64 X.key) ∧ w'.cell? ⟨ib, 6, none⟩ = some (.int .i64 X.v) ∧ w'.cell? ⟨ib, 7, none⟩ = some (.int .i64 X.seq) ∧ w'.cell? ⟨ib, 8, none⟩ = some (.slice ua un uc)) ∧ Below w0.heap.size w0 w' :=
  ⟨⟨cell_later hb h.1.1, cell_later hb h.1.2.1, cell_later hb h.1.2.2.1, cell_later hb h.1.2.2.2.1, cell_later hb h.1.2.2.2.2.1, cell_later hb h.1.2.2.2.2.2.1, cell_later hb h.1.2.2.2.2.2.2.1, cell_later hb h.1.2.2.2.2.2.2.2.1, cell_later hb h.1.2.2.2.2.2.2.2.2⟩, h.2.trans (hb.mono h.2.size)⟩
theorem xlpF_drew (h : (wc.cell? ⟨ib, 0, none⟩ = some (.int .i64 X.id.1) ∧ wc.cell? ⟨ib, 1, none⟩ = some (.int .i64 X.id.2) ∧ wc.cell? ⟨ib, 2, none⟩ = some (.int .i64 X.bal) ∧ wc.cell? ⟨ib, 3, none⟩ = some (.int .i64 X.st) ∧ wc.cell? ⟨ib, 4, none⟩ = some (.int .i64 X.k) ∧ wc.cell? ⟨ib, 5, none⟩ = some (.int .i64 X.key) ∧ wc.cell? ⟨ib, 6, none⟩ = some (.int .i64 X.v) ∧ wc.cell? ⟨ib, 7, none⟩ = some (.int .i64 X.seq) ∧ wc.cell? ⟨ib, 8, none⟩ = some (.slice ua un uc)) ∧ Below w0.heap.size w0 wc) : (wc.drew.cell? ⟨ib, 0, none⟩ = some (.int .i64 X.id.1) ∧ wc.drew.cell? ⟨ib, 1, none⟩ = some (.int .i64 X.id.2) ∧ wc.drew.cell? ⟨ib, 2, none⟩ = some (.int .i64 X.bal) ∧ wc.drew.cell? ⟨ib, 3, none⟩ = some (.int .i64 X.st) ∧ wc.drew.cell? ⟨ib, 4, none⟩ = some (.int .i64 X.k) ∧ wc.drew.cell? ⟨ib, 5, none⟩ = some (.int .i64 X.key) ∧ wc.drew.cell? ⟨ib, 6, none⟩ = some (.int .i64 X.v) ∧ wc.drew.cell? ⟨ib, 7, none⟩ = some (.int .i64 X.seq) ∧ wc.drew.cell? ⟨ib, 8, none⟩ = some (.slice ua un uc)) ∧ Below w0.heap.size w0 wc.drew := ⟨h.1, h.2.drew⟩
theorem xlpF_exc {D : Nat → Prop} (hx : Exc D wc w') (hi : ib < w0.heap.size) (hD : ∀ b, D b → w0.heap.size ≤ b) (h : (wc.cell? ⟨ib, 0, none⟩ = some (.int .i64 X.id.1) ∧ wc.cell? ⟨ib, 1, none⟩ = some (.int .i64 X.id.2) ∧ wc.cell? ⟨ib, 2, none⟩ = some (.int .i64 X.bal) ∧ wc.cell? ⟨ib, 3, none⟩ = some (.int .i64 X.st) ∧ wc.cell? ⟨ib, 4, none⟩ = some (.int .i64 X.k) ∧ wc.cell? ⟨ib, 5, none⟩ = some (.int .i64 X.key) ∧ wc.cell? ⟨ib, 6, none⟩ = some (.int .i64 X.v) ∧ wc.cell? ⟨ib, 7, none⟩ = some (.int .i64 X.seq) ∧ wc.cell? ⟨ib, 8, none⟩ = some (.slice ua un uc)) ∧ Below w0.heap.size w0 wc) : (w'.cell? ⟨ib, 0, none⟩ = some (.int .i64 X.id.1) ∧ w'.cell? ⟨ib, 1, none⟩ = some (.int .i64 X.id.2) ∧ w'.cell? ⟨ib, 2, none⟩ = some (.int .i64 X.bal) ∧ w'.cell? ⟨ib, 3, none⟩ = some (.int .i64 X.st) ∧ w'.cell? ⟨ib, 4, none⟩ = some (.int .i64 X.k) ∧ w'.cell? ⟨ib, 5, none⟩ = some (.int .i64 X.key) ∧ w'.cell? ⟨ib, 6, none⟩ = some (.int .i64 X.v) ∧ w'.cell? ⟨ib, 7, none⟩ = some (.int .i64 X.seq) ∧ w'.cell? ⟨ib, 8, none⟩ = some (.slice ua un uc)) ∧ Below w0.heap.size w0 w' := by
  have hs := h.2.size
  have kb : ∀ b, b < w0.heap.size → w'.heap[b]? = wc.heap[b]? := fun b hb => hx.block b (Nat.lt_of_lt_of_le hb hs) (fun e => by have := hD b e; omega)
  have kc : ∀ o, w'.cell? ⟨ib, o, none⟩ = wc.cell? ⟨ib, o, none⟩ := fun o => World.cell?_of_block (a := ⟨ib, o, none⟩) (kb ib hi)
  exact ⟨⟨(kc _).trans h.1.1, (kc _).trans h.1.2.1, (kc _).trans h.1.2.2.1, (kc _).trans h.1.2.2.2.1, (kc _).trans h.1.2.2.2.2.1, (kc _).trans h.1.2.2.2.2.2.1, (kc _).trans h.1.2.2.2.2.2.2.1, (kc _).trans h.1.2.2.2.2.2.2.2.1, (kc _).trans h.1.2.2.2.2.2.2.2.2⟩, h.2.trans (hx.to (B := w0.heap.size) hs hD)⟩
end
theorem xenoF_d {w w' : World} {B : Nat} {v : Value} {E : List En} (h : EnO w B v E) (hb : Below w.drew.heap.size w.drew w') : EnO w' B v E := (h.up (Below.drew (Below.refl _ _))).up hb
theorem xownF_d {w w' : World} {b : Nat} {v : Value} {C : List Pid} (h : OwnP w b v C) (hb : Below w.drew.heap.size w.drew w') : OwnP w' b v C := h.same (hb.block _ h.lt)
theorem fixR_deps {E : List En} {X : En} : ∀ i, i < (fixR E X).1.length → ((fixR E X).1.getD i en0).deps.length ≤ 12 := by
  intro i hi
  cases h : (fixR E X).2 with
  | false =>
    have h0 : (fixR E X).1 = [] := by
      unfold fixR at h ⊢
      split
      · rename_i g
        rw [if_pos g] at h
        split
        · rename_i g1
          rw [if_pos g1] at h
          split
          · rename_i g3; rw [if_pos g3] at h; cases h
          · rfl
        · rename_i g1
          rw [if_neg g1] at h
          unfold lputR at h ⊢
          split
          · rename_i g2; rw [if_pos g2] at h; cases h
          · rfl
      · rfl
    rw [h0] at hi; exact absurd hi (by simp)
  | true =>
    obtain ⟨_, _, _, hl, _⟩ := fix_is h
    have := (log_of hl).2.1 _ (enD_mem hi)
    simp only [enB, ndB, En.nd, Bool.and_eq_true] at this
    exact (srt_of this.1.2.2.1).1
theorem sfix_any_pair (u x : Value) (E : List En) (X : En) (w : World) (h : Ens w u E) (hu : Ids w x X.deps) : Calls Tryz.prog 20 #[u, env X x] w fun e w' => (∃ v, e = .returned (.tuple #[v, .bool (fixR E X).2]) ∧ EnO w' w.heap.size v (fixR E X).1) ∧ Below w.heap.size w w' :=
  (sfix_any u x E X w h hu).mono fun e w' ⟨v, h1, h2, h3⟩ => ⟨⟨v, h1, h2⟩, h3⟩

set_option maxRecDepth 100000 in
set_option maxHeartbeats 16000000 in
theorem exFixEntry_any (a : Option Addr) (len cap : Nat) (p r bal st k key v s : Int) (ua : Option Addr) (un uc : Nat) (w : World) (h : LEs w a len cap) (hun : un ≤ maxLen) (hid : 1048576 < un ∨ ∃ C, Ids w (.slice ua un uc) C) (hpr : inR (p, r)) (hS0 : SenW w) :
    Calls Tryz.prog 11 #[.slice a len cap, .agg #[.int .i64 p, .int .i64 r, .int .i64 bal, .int .i64 st, .int .i64 k, .int .i64 key, .int .i64 v, .int .i64 s, .slice ua un uc]] w fun e w' => e = .returned (.bool true) ∧ Below w.heap.size w w' := by
  obtain ⟨a0, a1, hS⟩ := hS0
  have hS := Lib.hid hS
  have hpr := Lib.hid hpr
  have D0 := (Below.refl w.heap.size w).alloc (Nat.le_refl _) (.cells #[.int .i64 p, .int .i64 r, .int .i64 bal, .int .i64 st, .int .i64 k, .int .i64 key, .int .i64 v, .int .i64 s, .slice ua un uc] 48)
  have sz := szEb_any a len cap _ (h.upbF D0 (Nat.le_refl _))
  have A0 := Lib.hid (heap_alloc_new w (.cells #[.int .i64 p, .int .i64 r, .int .i64 bal, .int .i64 st, .int .i64 k, .int .i64 key, .int .i64 v, .int .i64 s, .slice ua un uc] 48))
  have D0 := Lib.hid D0
  have hid := Lib.hid hid
  have hun2 : un ≤ 9223372036854775807 := by simpa [maxLen] using hun
  clear h
  go_enter Tryz.func11, Tryz.ntmps11
  go_wp2_with fail
  refine sz.mono ?_
  rintro e w1 ⟨⟨z, rfl, hz⟩, B⟩
  have D1 := Lib.hid (bstep D0.out B)
  have A1 := Lib.hid (bblk B (by simp) A0.out)
  rcases hz with rfl | ⟨hz0, hz1, E, hEl, hE⟩
  · clear B sz D0 A0 A1
    go_wp2_with fail
    go_ret
    exact ⟨rfl, D1.out⟩
  · have hzn : ¬ z < 0 := by omega
    replace hE := Lib.hid (hE.up B (Nat.le_refl _))
    clear B sz D0 A0
    obtain ⟨⟨y0, y1, y2, y3, y4, y5, y6, y7, y8⟩, _, ys⟩ := nine_all A1.out
    have sy := fun W => szE_any p r bal st k key v s ua un uc z W hz0 hz1 hun2
    by_cases hlu : z < un
    · rw [if_pos hlu] at sy
      go_wp2_with fail
      refine (sy _).mono ?_
      rintro e w2 ⟨rfl, B⟩
      replace D1 := Lib.hid (bstep D1.out B)
      clear B sy y0 y1 y2 y3 y4 y5 y6 y7 y8 ys
      go_wp2_with fail
      go_ret
      exact ⟨rfl, D1.out⟩
    · rw [if_neg hlu] at sy
      obtain ⟨zy, hzy⟩ : ∃ q, z - (un : Int) = q := ⟨_, rfl⟩
      rw [hzy] at sy
      have hzy0 : ¬ zy < 0 := by omega
      obtain ⟨C, hC⟩ := hid.out.resolve_left (by omega)
      obtain ⟨X, e0, e1, e2, e3, e4, e5, e6, e7, e8⟩ : ∃ X : En, X.id.1 = p ∧ X.id.2 = r ∧ X.bal = bal ∧ X.st = st ∧ X.k = k ∧ X.key = key ∧ X.v = v ∧ X.seq = s ∧ X.deps = C := ⟨⟨(p, r), bal, st, k, key, v, s, C⟩, rfl, rfl, rfl, rfl, rfl, rfl, rfl, rfl, rfl⟩
      subst e0 e1 e2 e3 e4 e5 e6 e7 e8
      have hXi : Hid (inR X.id) := Lib.hid hpr.out
      clear hpr
      replace hC := Lib.hid (hC.up D1.out (Nat.le_refl _))
      clear hlu hzy hid
      go_wp2_with fail
      refine (sy _).mono ?_
      rintro e w2 ⟨rfl, B⟩
      replace D1 := Lib.hid (bstep D1.out B)
      replace A1 := Lib.hid (bblk B (lt_of_heap A1.out) A1.out)
      replace hC := Lib.hid (hC.out.up B (Nat.le_refl _))
      replace hE := Lib.hid (hE.out.up B (Nat.le_refl _))
      clear B sy y0 y1 y2 y3 y4 y5 y6 y7 y8 ys
      go_upto_region 8 with fail
      obtain ⟨⟨N, q⟩, hR⟩ : ∃ r, fixR E X = r := ⟨_, rfl⟩
      have hN12 : N.length ≤ 12 := by have := fixR_len E X; rw [hR] at this; exact this
      have hNd : Hid (∀ i, i < N.length → (N.getD i en0).deps.length ≤ 12) := Lib.hid (by have := fixR_deps (E := E) (X := X); rw [hR] at this; exact this)
      have te := fun W (hb : Below w2.heap.size w2 W) => toEs_any _ E W (hE.out.up hb (Nat.le_refl _))
      have tx := fun W (hb : Below w2.heap.size w2 W) => toE_any X (.slice ua un uc) W (hC.out.up hb (Nat.le_refl _))
      have sl := fun u x W (H : Ens W u E) (H2 : Ids W x X.deps) => sfix_any_pair u x E X W H H2
      have il := fun u x W (hb : Below w2.heap.size w2 W) (H : Ens W u E) (H2 : Ids W x X.deps) => ifix_any a0 a1 u x E X W H H2 hXi.out (fun W' hb' => hS.out.up (bstep D1.out (bstep hb hb')))
      unfold TkZ at il
      unfold EnsCPost at te
      unfold EnCPost at tx
      rw [hR] at sl il
      dsimp only at sl il
      unfold env at sl il tx
      obtain ⟨ib, hib⟩ : ∃ ib, Hid (w.heap.size = ib) := ⟨_, Lib.hid rfl⟩
      rw [hib.out] at A1 ⊢
      have hil := lt_of_heap A1.out
      obtain ⟨⟨y0, y1, y2, y3, y4, y5, y6, y7, y8⟩, _, _⟩ := nine_all A1.out
      have H0 := Lib.hid (show (w2.cell? ⟨ib, 0, none⟩ = some (.int .i64 X.id.1) ∧ w2.cell? ⟨ib, 1, none⟩ = some (.int .i64 X.id.2) ∧ w2.cell? ⟨ib, 2, none⟩ = some (.int .i64 X.bal) ∧ w2.cell? ⟨ib, 3, none⟩ = some (.int .i64 X.st) ∧ w2.cell? ⟨ib, 4, none⟩ = some (.int .i64 X.k) ∧ w2.cell? ⟨ib, 5, none⟩ = some (.int .i64 X.key) ∧ w2.cell? ⟨ib, 6, none⟩ = some (.int .i64 X.v) ∧ w2.cell? ⟨ib, 7, none⟩ = some (.int .i64 X.seq) ∧ w2.cell? ⟨ib, 8, none⟩ = some (.slice ua un uc)) ∧ Below w2.heap.size w2 w2 from ⟨⟨y0, y1, y2, y3, y4, y5, y6, y7, y8⟩, Below.refl _ _⟩)
      clear hE hC hR hEl hib A1 y0 y1 y2 y3 y4 y5 y6 y7 y8
      go_upto_region 8 with fail
      go_region_held3 (fun w' => (w'.cell? ⟨ib, 0, none⟩ = some (.int .i64 X.id.1) ∧ w'.cell? ⟨ib, 1, none⟩ = some (.int .i64 X.id.2) ∧ w'.cell? ⟨ib, 2, none⟩ = some (.int .i64 X.bal) ∧ w'.cell? ⟨ib, 3, none⟩ = some (.int .i64 X.st) ∧ w'.cell? ⟨ib, 4, none⟩ = some (.int .i64 X.k) ∧ w'.cell? ⟨ib, 5, none⟩ = some (.int .i64 X.key) ∧ w'.cell? ⟨ib, 6, none⟩ = some (.int .i64 X.v) ∧ w'.cell? ⟨ib, 7, none⟩ = some (.int .i64 X.seq) ∧ w'.cell? ⟨ib, 8, none⟩ = some (.slice ua un uc)) ∧ Below w2.heap.size w2 w') (first | exact xlpF_drew H0.out | exact xlpF_keep (by assumption) (by assumption))
        (first | (go_at_call 26; (with_reducible refine (te _ (by assumption : (_ ∧ _ ∧ _ ∧ _ ∧ _ ∧ _ ∧ _ ∧ _ ∧ _) ∧ Below w2.heap.size w2 _).2).mono ?_); rintro e w' ⟨u2, rfl, O2, hb⟩; have O2 := Lib.hid O2; (try replace P2 := Lib.hid (by first | exact P2.out.up hb P2.out.lt | exact xownF_d P2.out hb))) | (go_at_call 27; (with_reducible refine (tx _ (by assumption : (_ ∧ _ ∧ _ ∧ _ ∧ _ ∧ _ ∧ _ ∧ _ ∧ _) ∧ Below w2.heap.size w2 _).2).mono ?_); rintro e w' ⟨bp2, p2, _, rfl, P2, hb⟩; obtain ⟨pn2, rfl⟩ : ∃ pc, p2 = .slice (some ⟨bp2, 0, none⟩) X.deps.length pc := (by obtain ⟨c, e, _⟩ := P2.shape; exact ⟨_, e⟩); have P2 := Lib.hid P2; (try replace O2 := Lib.hid (by first | exact O2.out.up hb | exact xenoF_d O2.out hb))) | (go_at_call 20; have hz3 := ((by assumption : (_ ∧ _ ∧ _ ∧ _ ∧ _ ∧ _ ∧ _ ∧ _ ∧ _) ∧ Below w2.heap.size w2 _).2).size; (with_reducible refine (sl _ _ _  O2.out.read P2.out.read).mono ?_); rintro e w' ⟨⟨u3, rfl, O3⟩, hb⟩; have O3 := Lib.hid O3; clear O2 P2))
      rename_i H3
      have H3 := Lib.hid (show (_ ∧ _ ∧ _ ∧ _ ∧ _ ∧ _ ∧ _ ∧ _ ∧ _) ∧ Below w2.heap.size w2 _ from H3)
      clear H0
      obtain ⟨g3, c3, hu3⟩ := O3.out.len
      subst hu3
      go_upto_region 9 with fail
      go_wp2_with fail
      refine (te _ H3.out.2).mono ?_
      rintro e w6 ⟨u6, rfl, O6, B⟩
      have K3 := Lib.hid B
      have hs6 := B.size
      have hs36 := H3.out.2.size
      have M6 := O6.mk
      obtain ⟨gx, cx, Lx, rfl, hm1, hm2, hm3⟩ := M6
      have O6 := Lib.hid O6
      have hm3 := Lib.hid hm3
      replace H3 := Lib.hid (xlpF_keep B H3.out)
      clear B
      obtain ⟨⟨y0, y1, y2, y3, y4, y5, y6, y7, y8⟩, _⟩ := H3.out
      go_wp2_with fail
      refine (tx _ H3.out.2).mono ?_
      rintro e w7 ⟨b7, p7, hb7, rfl, P7, B⟩
      obtain ⟨pc7, hp7⟩ : ∃ pc, p7 = .slice (some ⟨b7, 0, none⟩) X.deps.length pc := by obtain ⟨c, e, _⟩ := P7.shape; exact ⟨_, e⟩
      subst hp7
      have hs7 := B.size
      have hDl := P7.cap_le
      have BA := (Below.refl w7.heap.size w7).alloc (Nat.le_refl _) (.cells #[.int .i64 X.id.1, .int .i64 X.id.2, .int .i64 X.bal, .int .i64 X.st, .int .i64 X.k, .int .i64 X.key, .int .i64 X.v, .int .i64 X.seq, .slice (some ⟨b7, 0, none⟩) X.deps.length pc7] 30)
      have G7 := Lib.hid (show BxE (w7.alloc (.cells #[.int .i64 X.id.1, .int .i64 X.id.2, .int .i64 X.bal, .int .i64 X.st, .int .i64 X.k, .int .i64 X.key, .int .i64 X.v, .int .i64 X.seq, .slice (some ⟨b7, 0, none⟩) X.deps.length pc7] 30)) w7.heap.size X (.slice (some ⟨b7, 0, none⟩) X.deps.length pc7) from heap_alloc_new _ _)
      replace P7 := Lib.hid (P7.up BA P7.lt)
      replace K3 := Lib.hid (bstep (bstep K3.out B) BA)
      replace O6 := Lib.hid ((O6.out.up B).up BA)
      replace hm3 := Lib.hid ((hm3.out.up B).up BA)
      replace H3 := Lib.hid (xlpF_keep BA (xlpF_keep B H3.out))
      have hs8 := BA.size
      have hb7l := P7.out.lt
      clear B BA y0 y1 y2 y3 y4 y5 y6 y7 y8
      go_upto_region 11 with fail
      generalize hW8 : w7.alloc (.cells #[.int .i64 X.id.1, .int .i64 X.id.2, .int .i64 X.bal, .int .i64 X.st, .int .i64 X.k, .int .i64 X.key, .int .i64 X.v, .int .i64 X.seq, .slice (some ⟨b7, 0, none⟩) X.deps.length pc7] 30) = w8 at G7 P7 K3 O6 hm3 H3 hs8 hb7l ⊢
      clear hW8
      obtain ⟨xb, hxb⟩ : ∃ c, w7.heap.size = c := ⟨_, rfl⟩
      rw [hxb] at G7 hs7 hs8 ⊢
      have hxl := G7.out.cells.2
      obtain ⟨⟨r0, r1, r2, r3, r4, r5, r6, r7, r8⟩, rl⟩ := G7.out.cells
      go_wp2_with fail
      refine (il _ _ _ H3.out.2 O6.out.read P7.out.read).mono ?_
      rintro e w9 ⟨⟨v9, rfl, O9⟩, B⟩
      have hs9 := B.size
      obtain ⟨g9, c9, hv9, _⟩ := O9.shape
      subst hv9
      obtain ⟨B9, hB9⟩ : ∃ n, w8.heap.size = n := ⟨_, rfl⟩
      obtain ⟨T9, hT9⟩ : ∃ n, w9.heap.size = n := ⟨_, rfl⟩
      rw [hB9, hT9] at O9
      have O9 := Lib.hid O9
      replace G7 := Lib.hid (G7.out.up B)
      replace P7 := Lib.hid (P7.out.up B P7.out.lt)
      replace K3 := Lib.hid (bstep K3.out B)
      replace O6 := Lib.hid (O6.out.up B)
      replace hm3 := Lib.hid (hm3.out.up B)
      replace H3 := Lib.hid (xlpF_keep B H3.out)
      rw [hB9] at hb7l hs8 hs9 hxl
      rw [hT9] at hs9
      clear B r0 r1 r2 r3 r4 r5 r6 r7 r8 rl hB9 hT9
      have eq9 := eqEs_any _ _ N w9 O9.out.read (O3.out.up K3.out).read
      go_wp2_with fail
      refine eq9.mono ?_
      rintro e w10 ⟨rfl, B⟩
      replace O9 := Lib.hid (O9.out.up B)
      replace G7 := Lib.hid (G7.out.up B)
      replace P7 := Lib.hid (P7.out.up B P7.out.lt)
      replace K3 := Lib.hid (bstep K3.out B)
      replace O6 := Lib.hid (O6.out.up B)
      replace hm3 := Lib.hid (hm3.out.up B)
      replace H3 := Lib.hid (xlpF_keep B H3.out)
      clear B eq9
      go_wp2_with fail
      refine (te _ H3.out.2).mono ?_
      rintro e w11 ⟨u11, rfl, O11, B⟩
      have O11 := Lib.hid O11
      replace O9 := Lib.hid (O9.out.up B)
      replace G7 := Lib.hid (G7.out.up B)
      replace P7 := Lib.hid (P7.out.up B P7.out.lt)
      replace K3 := Lib.hid (bstep K3.out B)
      replace O6 := Lib.hid (O6.out.up B)
      replace hm3 := Lib.hid (hm3.out.up B)
      replace H3 := Lib.hid (xlpF_keep B H3.out)
      clear B
      go_wp2_with fail
      refine (eqEs_any _ _ E _ O6.out.read O11.out.read).mono ?_
      rintro e w12 ⟨rfl, B⟩
      replace O9 := Lib.hid (O9.out.up B)
      replace G7 := Lib.hid (G7.out.up B)
      replace P7 := Lib.hid (P7.out.up B P7.out.lt)
      replace K3 := Lib.hid (bstep K3.out B)
      replace hm3 := Lib.hid (hm3.out.up B)
      replace H3 := Lib.hid (xlpF_keep B H3.out)
      clear B O6 O11
      go_upto_region 16 with fail
      have keep16 : ∀ wc w', Below wc.heap.size wc w' → (((wc.cell? ⟨ib, 0, none⟩ = some (.int .i64 X.id.1) ∧ wc.cell? ⟨ib, 1, none⟩ = some (.int .i64 X.id.2) ∧ wc.cell? ⟨ib, 2, none⟩ = some (.int .i64 X.bal) ∧ wc.cell? ⟨ib, 3, none⟩ = some (.int .i64 X.st) ∧ wc.cell? ⟨ib, 4, none⟩ = some (.int .i64 X.k) ∧ wc.cell? ⟨ib, 5, none⟩ = some (.int .i64 X.key) ∧ wc.cell? ⟨ib, 6, none⟩ = some (.int .i64 X.v) ∧ wc.cell? ⟨ib, 7, none⟩ = some (.int .i64 X.seq) ∧ wc.cell? ⟨ib, 8, none⟩ = some (.slice ua un uc)) ∧ (wc.cell? ⟨xb, 0, none⟩ = some (.int .i64 X.id.1) ∧ wc.cell? ⟨xb, 1, none⟩ = some (.int .i64 X.id.2) ∧ wc.cell? ⟨xb, 2, none⟩ = some (.int .i64 X.bal) ∧ wc.cell? ⟨xb, 3, none⟩ = some (.int .i64 X.st) ∧ wc.cell? ⟨xb, 4, none⟩ = some (.int .i64 X.k) ∧ wc.cell? ⟨xb, 5, none⟩ = some (.int .i64 X.key) ∧ wc.cell? ⟨xb, 6, none⟩ = some (.int .i64 X.v) ∧ wc.cell? ⟨xb, 7, none⟩ = some (.int .i64 X.seq) ∧ wc.cell? ⟨xb, 8, none⟩ = some (.slice (some ⟨b7, 0, none⟩) X.deps.length pc7))) ∧ Below w12.heap.size w12 wc) → (((w'.cell? ⟨ib, 0, none⟩ = some (.int .i64 X.id.1) ∧ w'.cell? ⟨ib, 1, none⟩ = some (.int .i64 X.id.2) ∧ w'.cell? ⟨ib, 2, none⟩ = some (.int .i64 X.bal) ∧ w'.cell? ⟨ib, 3, none⟩ = some (.int .i64 X.st) ∧ w'.cell? ⟨ib, 4, none⟩ = some (.int .i64 X.k) ∧ w'.cell? ⟨ib, 5, none⟩ = some (.int .i64 X.key) ∧ w'.cell? ⟨ib, 6, none⟩ = some (.int .i64 X.v) ∧ w'.cell? ⟨ib, 7, none⟩ = some (.int .i64 X.seq) ∧ w'.cell? ⟨ib, 8, none⟩ = some (.slice ua un uc)) ∧ (w'.cell? ⟨xb, 0, none⟩ = some (.int .i64 X.id.1) ∧ w'.cell? ⟨xb, 1, none⟩ = some (.int .i64 X.id.2) ∧ w'.cell? ⟨xb, 2, none⟩ = some (.int .i64 X.bal) ∧ w'.cell? ⟨xb, 3, none⟩ = some (.int .i64 X.st) ∧ w'.cell? ⟨xb, 4, none⟩ = some (.int .i64 X.k) ∧ w'.cell? ⟨xb, 5, none⟩ = some (.int .i64 X.key) ∧ w'.cell? ⟨xb, 6, none⟩ = some (.int .i64 X.v) ∧ w'.cell? ⟨xb, 7, none⟩ = some (.int .i64 X.seq) ∧ w'.cell? ⟨xb, 8, none⟩ = some (.slice (some ⟨b7, 0, none⟩) X.deps.length pc7))) ∧ Below w12.heap.size w12 w') := fun wc w' hb h => ⟨⟨⟨cell_later hb h.1.1.1, cell_later hb h.1.1.2.1, cell_later hb h.1.1.2.2.1, cell_later hb h.1.1.2.2.2.1, cell_later hb h.1.1.2.2.2.2.1, cell_later hb h.1.1.2.2.2.2.2.1, cell_later hb h.1.1.2.2.2.2.2.2.1, cell_later hb h.1.1.2.2.2.2.2.2.2.1, cell_later hb h.1.1.2.2.2.2.2.2.2.2⟩, ⟨cell_later hb h.1.2.1, cell_later hb h.1.2.2.1, cell_later hb h.1.2.2.2.1, cell_later hb h.1.2.2.2.2.1, cell_later hb h.1.2.2.2.2.2.1, cell_later hb h.1.2.2.2.2.2.2.1, cell_later hb h.1.2.2.2.2.2.2.2.1, cell_later hb h.1.2.2.2.2.2.2.2.2.1, cell_later hb h.1.2.2.2.2.2.2.2.2.2⟩⟩, h.2.trans (hb.mono h.2.size)⟩
      have drew16 : ∀ wc, (((wc.cell? ⟨ib, 0, none⟩ = some (.int .i64 X.id.1) ∧ wc.cell? ⟨ib, 1, none⟩ = some (.int .i64 X.id.2) ∧ wc.cell? ⟨ib, 2, none⟩ = some (.int .i64 X.bal) ∧ wc.cell? ⟨ib, 3, none⟩ = some (.int .i64 X.st) ∧ wc.cell? ⟨ib, 4, none⟩ = some (.int .i64 X.k) ∧ wc.cell? ⟨ib, 5, none⟩ = some (.int .i64 X.key) ∧ wc.cell? ⟨ib, 6, none⟩ = some (.int .i64 X.v) ∧ wc.cell? ⟨ib, 7, none⟩ = some (.int .i64 X.seq) ∧ wc.cell? ⟨ib, 8, none⟩ = some (.slice ua un uc)) ∧ (wc.cell? ⟨xb, 0, none⟩ = some (.int .i64 X.id.1) ∧ wc.cell? ⟨xb, 1, none⟩ = some (.int .i64 X.id.2) ∧ wc.cell? ⟨xb, 2, none⟩ = some (.int .i64 X.bal) ∧ wc.cell? ⟨xb, 3, none⟩ = some (.int .i64 X.st) ∧ wc.cell? ⟨xb, 4, none⟩ = some (.int .i64 X.k) ∧ wc.cell? ⟨xb, 5, none⟩ = some (.int .i64 X.key) ∧ wc.cell? ⟨xb, 6, none⟩ = some (.int .i64 X.v) ∧ wc.cell? ⟨xb, 7, none⟩ = some (.int .i64 X.seq) ∧ wc.cell? ⟨xb, 8, none⟩ = some (.slice (some ⟨b7, 0, none⟩) X.deps.length pc7))) ∧ Below w12.heap.size w12 wc) → (((wc.drew.cell? ⟨ib, 0, none⟩ = some (.int .i64 X.id.1) ∧ wc.drew.cell? ⟨ib, 1, none⟩ = some (.int .i64 X.id.2) ∧ wc.drew.cell? ⟨ib, 2, none⟩ = some (.int .i64 X.bal) ∧ wc.drew.cell? ⟨ib, 3, none⟩ = some (.int .i64 X.st) ∧ wc.drew.cell? ⟨ib, 4, none⟩ = some (.int .i64 X.k) ∧ wc.drew.cell? ⟨ib, 5, none⟩ = some (.int .i64 X.key) ∧ wc.drew.cell? ⟨ib, 6, none⟩ = some (.int .i64 X.v) ∧ wc.drew.cell? ⟨ib, 7, none⟩ = some (.int .i64 X.seq) ∧ wc.drew.cell? ⟨ib, 8, none⟩ = some (.slice ua un uc)) ∧ (wc.drew.cell? ⟨xb, 0, none⟩ = some (.int .i64 X.id.1) ∧ wc.drew.cell? ⟨xb, 1, none⟩ = some (.int .i64 X.id.2) ∧ wc.drew.cell? ⟨xb, 2, none⟩ = some (.int .i64 X.bal) ∧ wc.drew.cell? ⟨xb, 3, none⟩ = some (.int .i64 X.st) ∧ wc.drew.cell? ⟨xb, 4, none⟩ = some (.int .i64 X.k) ∧ wc.drew.cell? ⟨xb, 5, none⟩ = some (.int .i64 X.key) ∧ wc.drew.cell? ⟨xb, 6, none⟩ = some (.int .i64 X.v) ∧ wc.drew.cell? ⟨xb, 7, none⟩ = some (.int .i64 X.seq) ∧ wc.drew.cell? ⟨xb, 8, none⟩ = some (.slice (some ⟨b7, 0, none⟩) X.deps.length pc7))) ∧ Below w12.heap.size w12 wc.drew) := fun wc h => ⟨h.1, h.2.drew⟩
      obtain ⟨⟨r0, r1, r2, r3, r4, r5, r6, r7, r8⟩, rl⟩ := G7.out.cells
      obtain ⟨hc3, hb3⟩ := H3.out
      have H16 := Lib.hid (show ((w12.cell? ⟨ib, 0, none⟩ = some (.int .i64 X.id.1) ∧ w12.cell? ⟨ib, 1, none⟩ = some (.int .i64 X.id.2) ∧ w12.cell? ⟨ib, 2, none⟩ = some (.int .i64 X.bal) ∧ w12.cell? ⟨ib, 3, none⟩ = some (.int .i64 X.st) ∧ w12.cell? ⟨ib, 4, none⟩ = some (.int .i64 X.k) ∧ w12.cell? ⟨ib, 5, none⟩ = some (.int .i64 X.key) ∧ w12.cell? ⟨ib, 6, none⟩ = some (.int .i64 X.v) ∧ w12.cell? ⟨ib, 7, none⟩ = some (.int .i64 X.seq) ∧ w12.cell? ⟨ib, 8, none⟩ = some (.slice ua un uc)) ∧ (w12.cell? ⟨xb, 0, none⟩ = some (.int .i64 X.id.1) ∧ w12.cell? ⟨xb, 1, none⟩ = some (.int .i64 X.id.2) ∧ w12.cell? ⟨xb, 2, none⟩ = some (.int .i64 X.bal) ∧ w12.cell? ⟨xb, 3, none⟩ = some (.int .i64 X.st) ∧ w12.cell? ⟨xb, 4, none⟩ = some (.int .i64 X.k) ∧ w12.cell? ⟨xb, 5, none⟩ = some (.int .i64 X.key) ∧ w12.cell? ⟨xb, 6, none⟩ = some (.int .i64 X.v) ∧ w12.cell? ⟨xb, 7, none⟩ = some (.int .i64 X.seq) ∧ w12.cell? ⟨xb, 8, none⟩ = some (.slice (some ⟨b7, 0, none⟩) X.deps.length pc7))) ∧ Below w12.heap.size w12 w12 from ⟨⟨hc3, r0, r1, r2, r3, r4, r5, r6, r7, r8⟩, Below.refl _ _⟩)
      have tx16 := fun W (hb : Below w12.heap.size w12 W) => tx W (bstep H3.out.2 hb)
      have eq16 := fun x W (hb : Below w12.heap.size w12 W) (H : Ids W x X.deps) => eqE_any X (.slice (some ⟨b7, 0, none⟩) X.deps.length pc7) x W (P7.out.up hb P7.out.lt).read H
      unfold env at eq16
      have keep16 := Lib.hid keep16
      have drew16 := Lib.hid drew16
      clear hc3 hb3 r0 r1 r2 r3 r4 r5 r6 r7 r8 rl
      go_region_held3 (fun w' => ((w'.cell? ⟨ib, 0, none⟩ = some (.int .i64 X.id.1) ∧ w'.cell? ⟨ib, 1, none⟩ = some (.int .i64 X.id.2) ∧ w'.cell? ⟨ib, 2, none⟩ = some (.int .i64 X.bal) ∧ w'.cell? ⟨ib, 3, none⟩ = some (.int .i64 X.st) ∧ w'.cell? ⟨ib, 4, none⟩ = some (.int .i64 X.k) ∧ w'.cell? ⟨ib, 5, none⟩ = some (.int .i64 X.key) ∧ w'.cell? ⟨ib, 6, none⟩ = some (.int .i64 X.v) ∧ w'.cell? ⟨ib, 7, none⟩ = some (.int .i64 X.seq) ∧ w'.cell? ⟨ib, 8, none⟩ = some (.slice ua un uc)) ∧ (w'.cell? ⟨xb, 0, none⟩ = some (.int .i64 X.id.1) ∧ w'.cell? ⟨xb, 1, none⟩ = some (.int .i64 X.id.2) ∧ w'.cell? ⟨xb, 2, none⟩ = some (.int .i64 X.bal) ∧ w'.cell? ⟨xb, 3, none⟩ = some (.int .i64 X.st) ∧ w'.cell? ⟨xb, 4, none⟩ = some (.int .i64 X.k) ∧ w'.cell? ⟨xb, 5, none⟩ = some (.int .i64 X.key) ∧ w'.cell? ⟨xb, 6, none⟩ = some (.int .i64 X.v) ∧ w'.cell? ⟨xb, 7, none⟩ = some (.int .i64 X.seq) ∧ w'.cell? ⟨xb, 8, none⟩ = some (.slice (some ⟨b7, 0, none⟩) X.deps.length pc7))) ∧ Below w12.heap.size w12 w') (first | exact drew16.out _ H16.out | exact keep16.out _ _ (by assumption) (by assumption))
        (first | (go_at_call 27; (with_reducible refine (tx16 _ (by assumption : ((_ ∧ _ ∧ _ ∧ _ ∧ _ ∧ _ ∧ _ ∧ _ ∧ _) ∧ (_ ∧ _ ∧ _ ∧ _ ∧ _ ∧ _ ∧ _ ∧ _ ∧ _)) ∧ Below w12.heap.size w12 _).2).mono ?_); rintro e w' ⟨bp2, p2, _, rfl, P2, hb⟩; obtain ⟨pn2, rfl⟩ : ∃ pc, p2 = .slice (some ⟨bp2, 0, none⟩) X.deps.length pc := (by obtain ⟨c, e, _⟩ := P2.shape; exact ⟨_, e⟩); have P2 := Lib.hid P2) | (go_at_call 29; (with_reducible refine (eq16 _ _ (by assumption : ((_ ∧ _ ∧ _ ∧ _ ∧ _ ∧ _ ∧ _ ∧ _ ∧ _) ∧ (_ ∧ _ ∧ _ ∧ _ ∧ _ ∧ _ ∧ _ ∧ _ ∧ _)) ∧ Below w12.heap.size w12 _).2 (by first | exact P2.out.read | exact (xownF_d P2.out (Below.refl _ _)).read)).mono ?_); rintro e w' ⟨rfl, hb⟩; clear P2))
      rename_i H17
      have B := (show ((_ ∧ _ ∧ _ ∧ _ ∧ _ ∧ _ ∧ _ ∧ _ ∧ _) ∧ (_ ∧ _ ∧ _ ∧ _ ∧ _ ∧ _ ∧ _ ∧ _ ∧ _)) ∧ Below w12.heap.size w12 _ from H17).2
      replace O9 := Lib.hid (O9.out.up B)
      replace G7 := Lib.hid (G7.out.up B)
      replace P7 := Lib.hid (P7.out.up B P7.out.lt)
      replace K3 := Lib.hid (bstep K3.out B)
      replace hm3 := Lib.hid (hm3.out.up B)
      replace H3 := Lib.hid (xlpF_keep B H3.out)
      clear B H16 tx16 eq16 keep16 drew16 H17
      have mk := markEs_le _ _ gx E.length cx Lx _ hm1 hm3.out
      go_wp2_with fail
      refine mk.mono ?_
      rintro e w14 ⟨zk, rfl, hzk, hzk1, XX⟩
      replace P7 := Lib.hid (P7.out.same (XX.block _ P7.out.lt (by omega)))
      replace G7 := Lib.hid (G7.out.apart XX (by omega))
      replace O9 := Lib.hid (O9.out.apart XX (fun c h1 h2 h => by omega))
      replace K3 := Lib.hid (K3.out.trans (XX.to K3.out.size (fun c h => h.1)))
      replace H3 := Lib.hid (xlpF_exc XX hil (fun c h => by omega) H3.out)
      clear XX mk hm3
      obtain ⟨⟨r0, r1, r2, r3, r4, r5, r6, r7, r8⟩, rl⟩ := G7.out.cells
      have me := markEb_any X b7 X.deps.length pc7 zk _ P7.out.sz hDl hzk (by omega)
      unfold env at me
      go_wp2_with fail
      refine me.mono ?_
      rintro e w15 ⟨rfl, XX⟩
      replace O9 := Lib.hid (O9.out.apart XX (fun c h1 h2 h => by omega))
      replace K3 := Lib.hid (K3.out.trans (XX.to K3.out.size (fun c h => by omega)))
      replace H3 := Lib.hid (xlpF_exc XX hil (fun c h => by omega) H3.out)
      clear XX me P7 G7 r0 r1 r2 r3 r4 r5 r6 r7 r8 rl
      obtain ⟨nd, hnd⟩ : ∃ n, Hid (X.deps.length = n) := ⟨_, Lib.hid rfl⟩
      rw [hnd.out] at hDl ⊢
      have hzk2 : ¬ zk + 2 * (nd : Int) < 0 := by omega
      go_wp2_with fail
      refine (eqEs_any _ _ N _ O9.out.read (O3.out.up K3.out).read).mono ?_
      rintro e w16 ⟨rfl, B⟩
      replace O9 := Lib.hid (O9.out.up B)
      replace K3 := Lib.hid (bstep K3.out B)
      replace H3 := Lib.hid (xlpF_keep B H3.out)
      clear B
      have ml := markL_any _ _ _ N 1 _ O9.out hN12 hNd.out (by omega) (by omega)
      have hk0 : 1 ≤ kN N 1 := (ks_range (fun i => N.getD i en0) 1 N.length (fun i hi => hNd.out i hi)).1
      go_wp2_with fail
      refine ml.mono ?_
      rintro e w17 ⟨rfl, L9, XX⟩
      have L9 := Lib.hid L9
      replace K3 := Lib.hid (K3.out.trans (XX.to K3.out.size (fun c h => by omega)))
      replace H3 := Lib.hid (xlpF_exc XX hil (fun c h => by omega) H3.out)
      clear XX ml O9
      obtain ⟨kk, hkk⟩ : ∃ n, Hid (kN N 1 = n) := ⟨_, Lib.hid rfl⟩
      have hl17 := heldL_any _ _ _ N 1 _ L9.out hN12 hNd.out (by omega) (by omega)
      rw [hkk.out] at hk0 hl17 ⊢
      have hkn : ¬ kk < 0 := by omega
      go_wp2_with fail
      refine hl17.mono ?_
      rintro e w18 ⟨rfl, B⟩
      replace L9 := Lib.hid (L9.out.up B)
      replace K3 := Lib.hid (bstep K3.out B)
      replace H3 := Lib.hid (xlpF_keep B H3.out)
      clear B hl17
      have bel9 : ∀ {w w' : World}, Below w.drew.heap.size w.drew w' → Below w.heap.size w w' := fun h => (Below.drew (Below.refl _ _)).trans h
      have H3c := H3
      go_upto_region 31 with fail
      go_region_held3 (fun w' => (w'.cell? ⟨ib, 0, none⟩ = some (.int .i64 X.id.1) ∧ w'.cell? ⟨ib, 1, none⟩ = some (.int .i64 X.id.2) ∧ w'.cell? ⟨ib, 2, none⟩ = some (.int .i64 X.bal) ∧ w'.cell? ⟨ib, 3, none⟩ = some (.int .i64 X.st) ∧ w'.cell? ⟨ib, 4, none⟩ = some (.int .i64 X.k) ∧ w'.cell? ⟨ib, 5, none⟩ = some (.int .i64 X.key) ∧ w'.cell? ⟨ib, 6, none⟩ = some (.int .i64 X.v) ∧ w'.cell? ⟨ib, 7, none⟩ = some (.int .i64 X.seq) ∧ w'.cell? ⟨ib, 8, none⟩ = some (.slice ua un uc)) ∧ Below w2.heap.size w2 w') (first | exact xlpF_drew H3c.out | exact xlpF_keep (by assumption) (by assumption))
        (first | (go_at_call 26; (with_reducible refine (te _ (by assumption : (_ ∧ _ ∧ _ ∧ _ ∧ _ ∧ _ ∧ _ ∧ _ ∧ _) ∧ Below w2.heap.size w2 _).2).mono ?_); rintro e w' ⟨u2, rfl, O2, hb⟩; have O2 := Lib.hid O2; (try replace P2 := Lib.hid (by first | exact P2.out.up hb P2.out.lt | exact xownF_d P2.out hb)); (try replace L9 := Lib.hid (by first | exact L9.out.up hb | exact L9.out.up (bel9 hb))); (try replace K3 := Lib.hid (by first | exact bstep K3.out hb | exact bstep K3.out (bel9 hb)))) | (go_at_call 27; (with_reducible refine (tx _ (by assumption : (_ ∧ _ ∧ _ ∧ _ ∧ _ ∧ _ ∧ _ ∧ _ ∧ _) ∧ Below w2.heap.size w2 _).2).mono ?_); rintro e w' ⟨bp2, p2, _, rfl, P2, hb⟩; obtain ⟨pn2, rfl⟩ : ∃ pc, p2 = .slice (some ⟨bp2, 0, none⟩) X.deps.length pc := (by obtain ⟨c, e, _⟩ := P2.shape; exact ⟨_, e⟩); have P2 := Lib.hid P2; (try replace O2 := Lib.hid (by first | exact O2.out.up hb | exact xenoF_d O2.out hb)); (try replace L9 := Lib.hid (by first | exact L9.out.up hb | exact L9.out.up (bel9 hb))); (try replace K3 := Lib.hid (by first | exact bstep K3.out hb | exact bstep K3.out (bel9 hb)))) | (go_at_call 19; have hz5 := ((by assumption : (_ ∧ _ ∧ _ ∧ _ ∧ _ ∧ _ ∧ _ ∧ _ ∧ _) ∧ Below w2.heap.size w2 _).2).size; (with_reducible refine (il _ _ _ (by assumption : (_ ∧ _ ∧ _ ∧ _ ∧ _ ∧ _ ∧ _ ∧ _ ∧ _) ∧ Below w2.heap.size w2 _).2 O2.out.read P2.out.read).mono ?_); rintro e w' ⟨⟨u5, rfl, O5⟩, hb⟩; have O5 := Lib.hid O5; clear O2 P2; (try replace L9 := Lib.hid (by first | exact L9.out.up hb | exact L9.out.up (bel9 hb))); (try replace K3 := Lib.hid (by first | exact bstep K3.out hb | exact bstep K3.out (bel9 hb)))))
      rename_i H5
      have H5 := Lib.hid (show (_ ∧ _ ∧ _ ∧ _ ∧ _ ∧ _ ∧ _ ∧ _ ∧ _) ∧ Below w2.heap.size w2 _ from H5)
      obtain ⟨g5, c5, hu5, _⟩ := O5.out.shape
      subst hu5
      go_wp2_with fail
      refine (eqEs_any _ _ N _ O5.out.read (O3.out.up K3.out).read).mono ?_
      rintro e w20 ⟨rfl, B⟩
      replace L9 := Lib.hid (L9.out.up B)
      replace H5 := Lib.hid (xlpF_keep B H5.out)
      clear B O5 K3
      have hl20 := heldL_any _ _ _ N 1 _ L9.out hN12 hNd.out (by omega) (by omega)
      rw [hkk.out] at hl20
      go_wp2_with fail
      refine hl20.mono ?_
      rintro e w21 ⟨rfl, B⟩
      have D9 := Lib.hid (bstep D1.out (bstep H5.out.2 B))
      clear B hl20 L9 H5 H3 H3c
      go_wp2_with fail
      go_ret
      exact ⟨rfl, D9.out⟩
end Go.Proofs.YtiolhjjkjmepcaaGreatDoor
