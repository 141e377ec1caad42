/- Texts laid together. -/
import Derived.Test.YtiolhjjkjmepcaaGreatDoorC10
import Derived.Test.YtiolhjjkjmepcaaGreatDoorC13
import Derived.Test.YtiolhjjkjmepcaaGreatDoorC08
import Derived.Deep.RegionWith
import Derived.Deep.DeepCutAuto
import Derived.Maps.AppendAt
import Derived.BigQuiet
import Derived.Test.YtiolhjjkjmepcaaGreatDoorC16
import Derived.Test.YtiolhjjkjmepcaaGreatDoorC26
import Derived.Deep.RegionHeld3
import Derived.Test.YtiolhjjkjmepcaaGreatDoorC25
import Derived.Test.YtiolhjjkjmepcaaGreatDoorC07
import Derived.Test.YtiolhjjkjmepcaaGreatDoorC21
import Derived.IntWalk
import Derived.Test.YtiolhjjkjmepcaaGreatDoorC22
import Derived.Test.YtiolhjjkjmepcaaGreatDoorC20
/- The model's l11All: copies of all entries. -/
namespace Go.Proofs.YtiolhjjkjmepcaaGreatDoor
open Go.RowKit
set_option linter.unusedVariables false

/-- Where l11All is. -/
structure AllE (w wr : World) (v : Value) (L : EL) : Prop where
  er : ER wr w.heap.size v L
  kp : Below w.heap.size w wr
section
variable {w wr w' : World} {v : Value} {L : EL}
theorem AllE.up (h : AllE w wr v L) (hb : Below wr.heap.size wr w') : AllE w w' v L := ⟨h.er.up hb, bstep h.kp hb⟩
theorem AllE.fresh (h : AllE w wr v L) {b : Nat} {x : En × Value} (hb : wr.heap.size ≤ b) (hO : OwnP w' b x.2 x.1.deps) : ∃ b, w.heap.size ≤ b ∧ v.ownBlock ≠ some b ∧ OwnP w' b x.2 x.1.deps :=
  ⟨b, by have := h.kp.size; omega, fun e => by have := (rowT h.er.row e).1.lt; omega, hO⟩
theorem AllE.next (h : AllE w wr v L) {o : Obj} {v' : Value} {x : En × Value} {m : Nat} {A : List En} (hown : w'.ownsRow w.heap.size 30 9 v' (L.length + 1) (flatE L ++ ecell x)) (hg : (wr.alloc o).grownBy w' (Value.ownBlock v)) (hn : v' ≠ .slice none 0 0)
    (hat : v'.ownBlock = v.ownBlock ∨ v'.ownBlock = some (wr.heap.size + 1)) (hx : ∃ b, w.heap.size ≤ b ∧ v.ownBlock ≠ some b ∧ OwnP wr b x.2 x.1.deps) (hA : L.map Prod.fst = A) (hm : L.length = m) :
    ∃ L', AllE w w' v' L' ∧ L'.map Prod.fst = A ++ [x.1] ∧ L'.length = m + 1 :=
  ⟨L ++ [x], ⟨h.er.put hown hg hn hat hx, h.kp.trans (h.er.grown hg h.kp.size)⟩, by rw [List.map_append, hA]; rfl, by rw [List.length_append, hm]; rfl⟩
end
theorem take_nextS {E : List En} {k : Nat} (hk : k < E.length) : E.take (k + 1) = E.take k ++ [E.getD k en0] := by
  rw [List.take_add_one, List.getElem?_eq_getElem hk, List.getD_eq_getElem?_getD, List.getElem?_eq_getElem hk]; rfl

set_option maxRecDepth 100000 in
set_option maxHeartbeats 8000000 in
theorem sall_at (b off ca : Nat) (E : List En) (U : Nat → Value) (w : World) (hm : E.length ≤ 12) (h : EnsAt w b off E U) :
    Calls Tryz.prog 48 #[.slice (some ⟨b, off, none⟩) E.length ca] w fun e w' => (∃ v, e = .returned v ∧ EnO w' w.heap.size v E) ∧ Below w.heap.size w w' := by
  obtain ⟨i0, hi, hz0, hz1, hz2⟩ := info_parts info_en
  have h := Lib.hid h
  obtain ⟨n, hn⟩ : ∃ n, Hid (E.length = n) := ⟨_, Lib.hid rfl⟩
  rw [hn.out] at hm ⊢
  have P0 : Hid (AllE w (w.alloc (.cells #[] 30)) (.slice (some ⟨w.heap.size, 0, none⟩) 0 0) []) := Lib.hid
    ⟨er_new w w.heap.size (Nat.le_refl _), (Below.refl _ _).alloc (Nat.le_refl _) _⟩
  go_enter Tryz.func48, Tryz.ntmps48
  go_wp2_with fail
  go_loopw [3, 4] (fun vo i wr => ∃ (k : Nat) (LL : EL), k ≤ n ∧ i = .int .i64 k ∧ Hid (LL.map Prod.fst = E.take k) ∧ Hid (AllE w wr vo LL)) (fun _ i _ => n - (intOf i).toNat)
  case atStart => exact ⟨0, [], Nat.zero_le _, rfl, Lib.hid rfl, P0⟩
  case round =>
    clear P0
    obtain ⟨k, LL, hk, rfl, hM, P⟩ := hrel
    have hLl : LL.length ≤ 12 := by
      have h2 := congrArg List.length hM.out
      rw [List.length_map, List.length_take, hn.out] at h2
      omega
    by_cases hlt : k < n
    · have hkE : k < E.length := by rw [hn.out]; exact hlt
      obtain ⟨x, hx⟩ : ∃ x, Hid (E.getD k en0 = x) := ⟨_, Lib.hid rfl⟩
      obtain ⟨ua, un, uc, hU⟩ : ∃ ua un uc, U k = .slice ua un uc := by obtain ⟨a, c, e, _⟩ := (h.out.at_ k hkE).ids; exact ⟨a, _, c, e⟩
      have xat : ∀ W, Below w.heap.size w W → EnAt W b (off + k * 9) x (.slice ua un uc) := fun W hb => by
        have := (h.out.up hb (Nat.le_refl _)).at_ k hkE
        rw [hx.out, hU] at this; exact this
      have hbl : ∀ W, Below w.heap.size w W → b < W.heap.size := fun W hb => (h.out.up hb (Nat.le_refl _)).lt
      have hS := Lib.hid (take_nextS hkE)
      rw [hx.out] at hS
      clear h hU
      obtain ⟨q0, q1, q2, q3, q4, q5, q6, q7, q8, qi⟩ := xat _ P.out.kp
      have qb := hbl _ P.out.kp
      go_wp2_with fail
      refine (copy_at x.id.1 x.id.2 x.bal x.st x.k x.key x.v x.seq x.deps (.slice ua un uc) _ qi).mono ?_
      rintro e wc1 ⟨⟨cu1, rfl, hrow⟩, B⟩
      have hDl : x.deps.length ≤ 2000000 := by obtain ⟨_, _, _, _, hh, _⟩ := qi; exact hh
      obtain ⟨b1, hb1, hO⟩ := hrow.own hDl
      obtain ⟨cc1, rfl, _⟩ := hO.shape
      have hx1 := Lib.hid (P.out.fresh (x := (x, .slice (some ⟨b1, 0, none⟩) x.deps.length cc1)) hb1 hO)
      replace P := Lib.hid (P.out.up B)
      have hPs := P.out.kp.size
      have hPr := Lib.hid P.out.er.row
      obtain ⟨m, hm'⟩ : ∃ m, Hid (LL.length = m) := ⟨_, Lib.hid rfl⟩
      rw [hm'.out] at hPr hLl
      clear hrow hO B
      clear q0 q1 q2 q3 q4 q5 q6 q7 q8 qi qb
      go_wp2_with (at_builtin; refine wpList_append_own_at _ rfl _ _ 23 rfl w.heap.size 30 i0 (.agg #[.int .i64 0, .int .i64 0, .int .i64 0, .int .i64 0, .int .i64 0, .int .i64 0, .int .i64 0, .int .i64 0, .slice none 0 0]) 9 88 Tryz.underlying23 hi hz0 hz1 hz2 rfl (by decide) _ m (flatE LL) rfl (hPr.out.alloc _) ⟨wc1.heap.size, 0, none⟩ 1 1 [.int .i64 x.id.1, .int .i64 x.id.2, .int .i64 x.bal, .int .i64 x.st, .int .i64 x.k, .int .i64 x.key, .int .i64 x.v, .int .i64 x.seq, .slice (some ⟨b1, 0, none⟩) x.deps.length cc1] rfl rfl ?fc1 ?fc2 ?fc3 ?fc4 ?fc5 ?_)
      case fc1 => exact nine_srcE _ _ _ _ _ _ _ _ _ _ _ _ (by simp)
      case fc2 => exact nine_oneE _ _ _ _ _ _ _ _ _ _ _
      case fc3 => unfold maxLen; omega
      case fc4 => omega
      case fc5 => first | omega | (simp; omega)
      intro v' w' hown' hgrow hnil hat
      obtain ⟨LL2, P5, hM5, hl5⟩ := P.out.next (x := (x, .slice (some ⟨b1, 0, none⟩) x.deps.length cc1)) (by rw [hm'.out]; exact hown') hgrow (fun e => hnil e) (hat.imp (fun h => h) (fun h => by simpa using h)) hx1.out hM.out hm'.out
      clear hown' hgrow hnil hat hPr hPs hx1 hM hb1 hDl hm' P
      have P := Lib.hid P5
      have hM := Lib.hid (hM5.trans hS.out.symm)
      clear P5 hM5 hl5
      go_wp2_with fail
      refine ⟨⟨k + 1, LL2, by omega, by go_num, hM, P⟩, ?_⟩
      simp [intOf]; omega
    · obtain rfl : k = n := by omega
      have R := P.out.er.eno (by omega)
      rw [hM.out, List.take_of_length_le (by rw [hn.out]; exact Nat.le_refl _)] at R
      have R := Lib.hid R
      have B := Lib.hid P.out.kp
      clear P hM
      go_wp2_with fail
      go_ret
      exact ⟨⟨_, rfl, R.out⟩, B.out⟩
end Go.Proofs.YtiolhjjkjmepcaaGreatDoor

/- The model's FixEntry. -/
namespace Go.Proofs.YtiolhjjkjmepcaaGreatDoor
open Go.RowKit
set_option linter.unusedVariables false

section
variable {w5 wc w' : World} {ib b o : Nat} {X Z : En} {xa za : Option Addr} {xn xc zn zc : Nat}
theorem sx_keep (hb : Below wc.heap.size wc w') (h : ((wc.cell? ⟨ib, 0, none⟩ = some (.int .i64 X.id.1) ∧ wc.cell? ⟨ib, 1, none⟩ = some (.int .i64 X.id.2) ∧ wc.cell? ⟨ib, 2, none⟩ = some (.int .i64 X.bal) ∧ wc.cell? ⟨ib, 3, none⟩ = some (.int .i64 X.st) ∧ wc.cell? ⟨ib, 4, none⟩ = some (.int .i64 X.k) ∧ wc.cell? ⟨ib, 5, none⟩ = some (.int .i64 X.key) ∧ wc.cell? ⟨ib, 6, none⟩ = some (.int .i64 X.v) ∧ wc.cell? ⟨ib, 7, none⟩ = some (.int .i64 X.seq) ∧ wc.cell? ⟨ib, 8, none⟩ = some (.slice xa xn xc)) ∧ (wc.cell? ⟨b, o, none⟩ = some (.int .i64 Z.id.1) ∧ wc.cell? ⟨b, o + 1, none⟩ = some (.int .i64 Z.id.2) ∧ wc.cell? ⟨b, o + 2, none⟩ = some (.int .i64 Z.bal) ∧ wc.cell? ⟨b, o + 3, none⟩ = some (.int .i64 Z.st) ∧ wc.cell? ⟨b, o + 4, none⟩ = some (.int .i64 Z.k) ∧ wc.cell? ⟨b, o + 5, none⟩ = some (.int .i64 Z.key) ∧ wc.cell? ⟨b, o + 6, none⟩ = some (.int .i64 Z.v) ∧ wc.cell? ⟨b, o + 7, none⟩ = some (.int .i64 Z.seq) ∧ wc.cell? ⟨b, o + 8, none⟩ = some (.slice za zn zc))) ∧ Below w5.heap.size w5 wc) : ((w'.cell? ⟨ib, 0, none⟩ = some (.int .i64 X.id.1) ∧ w'.cell? ⟨ib, 1, none⟩ = some (.int .i64 X.id.2) ∧ w'.cell? ⟨ib, 2, none⟩ = some (.int .i64 X.bal) ∧ w'.cell? ⟨ib, 3, none⟩ = some (.int .i64 X.st) ∧ w'.cell? ⟨ib, 4, none⟩ = some (.int .i64 X.k) ∧ w'.cell? ⟨ib, 5, none⟩ = some (.int .i64 X.key) ∧ w'.cell? ⟨ib, 6, none⟩ = some (.int .i64 X.v) ∧ w'.cell? ⟨ib, 7, none⟩ = some (.int .i64 X.seq) ∧ w'.cell? ⟨ib, 8, none⟩ = some (.slice xa xn xc)) ∧ (w'.cell? ⟨b, o, none⟩ = some (.int .i64 Z.id.1) ∧ w'.cell? ⟨b, o + 1, none⟩ = some (.int .i64 Z.id.2) ∧ w'.cell? ⟨b, o + 2, none⟩ = some (.int .i64 Z.bal) ∧ w'.cell? ⟨b, o + 3, none⟩ = some (.int .i64 Z.st) ∧ w'.cell? ⟨b, o + 4, none⟩ = some (.int .i64 Z.k) ∧ w'.cell? ⟨b, o + 5, none⟩ = some (.int .i64 Z.key) ∧ w'.cell? ⟨b, o + 6, none⟩ = some (.int .i64 Z.v) ∧ w'.cell? ⟨b, o + 7, none⟩ = some (.int .i64 Z.seq) ∧ w'.cell? ⟨b, o + 8, none⟩ = some (.slice za zn zc))) ∧ Below w5.heap.size w5 w' :=
  ⟨⟨⟨cell_later hb h.1.1.1, cell_later hb h.1.1.2.1, cell_later hb h.1.1.2.2.1, cell_later hb h.1.1.2.2.2.1, cell_later hb h.1.1.2.2.2.2.1, cell_later hb h.1.1.2.2.2.2.2.1, cell_later hb h.1.1.2.2.2.2.2.2.1, cell_later hb h.1.1.2.2.2.2.2.2.2.1, cell_later hb h.1.1.2.2.2.2.2.2.2.2⟩, ⟨cell_later hb h.1.2.1, cell_later hb h.1.2.2.1, cell_later hb h.1.2.2.2.1, cell_later hb h.1.2.2.2.2.1, cell_later hb h.1.2.2.2.2.2.1, cell_later hb h.1.2.2.2.2.2.2.1, cell_later hb h.1.2.2.2.2.2.2.2.1, cell_later hb h.1.2.2.2.2.2.2.2.2.1, cell_later hb h.1.2.2.2.2.2.2.2.2.2⟩⟩, h.2.trans (hb.mono h.2.size)⟩
theorem sx_drew (h : ((wc.cell? ⟨ib, 0, none⟩ = some (.int .i64 X.id.1) ∧ wc.cell? ⟨ib, 1, none⟩ = some (.int .i64 X.id.2) ∧ wc.cell? ⟨ib, 2, none⟩ = some (.int .i64 X.bal) ∧ wc.cell? ⟨ib, 3, none⟩ = some (.int .i64 X.st) ∧ wc.cell? ⟨ib, 4, none⟩ = some (.int .i64 X.k) ∧ wc.cell? ⟨ib, 5, none⟩ = some (.int .i64 X.key) ∧ wc.cell? ⟨ib, 6, none⟩ = some (.int .i64 X.v) ∧ wc.cell? ⟨ib, 7, none⟩ = some (.int .i64 X.seq) ∧ wc.cell? ⟨ib, 8, none⟩ = some (.slice xa xn xc)) ∧ (wc.cell? ⟨b, o, none⟩ = some (.int .i64 Z.id.1) ∧ wc.cell? ⟨b, o + 1, none⟩ = some (.int .i64 Z.id.2) ∧ wc.cell? ⟨b, o + 2, none⟩ = some (.int .i64 Z.bal) ∧ wc.cell? ⟨b, o + 3, none⟩ = some (.int .i64 Z.st) ∧ wc.cell? ⟨b, o + 4, none⟩ = some (.int .i64 Z.k) ∧ wc.cell? ⟨b, o + 5, none⟩ = some (.int .i64 Z.key) ∧ wc.cell? ⟨b, o + 6, none⟩ = some (.int .i64 Z.v) ∧ wc.cell? ⟨b, o + 7, none⟩ = some (.int .i64 Z.seq) ∧ wc.cell? ⟨b, o + 8, none⟩ = some (.slice za zn zc))) ∧ Below w5.heap.size w5 wc) : ((wc.drew.cell? ⟨ib, 0, none⟩ = some (.int .i64 X.id.1) ∧ wc.drew.cell? ⟨ib, 1, none⟩ = some (.int .i64 X.id.2) ∧ wc.drew.cell? ⟨ib, 2, none⟩ = some (.int .i64 X.bal) ∧ wc.drew.cell? ⟨ib, 3, none⟩ = some (.int .i64 X.st) ∧ wc.drew.cell? ⟨ib, 4, none⟩ = some (.int .i64 X.k) ∧ wc.drew.cell? ⟨ib, 5, none⟩ = some (.int .i64 X.key) ∧ wc.drew.cell? ⟨ib, 6, none⟩ = some (.int .i64 X.v) ∧ wc.drew.cell? ⟨ib, 7, none⟩ = some (.int .i64 X.seq) ∧ wc.drew.cell? ⟨ib, 8, none⟩ = some (.slice xa xn xc)) ∧ (wc.drew.cell? ⟨b, o, none⟩ = some (.int .i64 Z.id.1) ∧ wc.drew.cell? ⟨b, o + 1, none⟩ = some (.int .i64 Z.id.2) ∧ wc.drew.cell? ⟨b, o + 2, none⟩ = some (.int .i64 Z.bal) ∧ wc.drew.cell? ⟨b, o + 3, none⟩ = some (.int .i64 Z.st) ∧ wc.drew.cell? ⟨b, o + 4, none⟩ = some (.int .i64 Z.k) ∧ wc.drew.cell? ⟨b, o + 5, none⟩ = some (.int .i64 Z.key) ∧ wc.drew.cell? ⟨b, o + 6, none⟩ = some (.int .i64 Z.v) ∧ wc.drew.cell? ⟨b, o + 7, none⟩ = some (.int .i64 Z.seq) ∧ wc.drew.cell? ⟨b, o + 8, none⟩ = some (.slice za zn zc))) ∧ Below w5.heap.size w5 wc.drew := ⟨h.1, h.2.drew⟩
end
set_option maxRecDepth 100000 in
set_option maxHeartbeats 8000000 in
theorem sfix_any (u ux : Value) (E : List En) (X : En) (w : World) (h : Ens w u E) (hu : Ids w ux X.deps) :
    Calls Tryz.prog 20 #[u, env X ux] w (StkP (fixR E X) w) := by
  obtain ⟨xa, xn, xc, rfl⟩ : ∃ ua un uc, ux = .slice ua un uc := by obtain ⟨a, c, e, _⟩ := hu; exact ⟨a, _, c, e⟩
  have sv := fun W (hb : Below w.heap.size w W) => slogv_any u E W (h.up hb (Nat.le_refl _))
  have ev := fun W (hb : Below w.heap.size w W) => sentry_any X (.slice xa xn xc) W (hu.up hb (Nat.le_refl _))
  have sa := fun W (hb : Below w.heap.size w W) => seat_any u E X.id.1 X.id.2 W (h.up hb (Nat.le_refl _))
  have sp := fun W (hb : Below w.heap.size w W) => slput_any u E X (.slice xa xn xc) W (h.up hb (Nat.le_refl _)) (hu.up hb (Nat.le_refl _))
  obtain ⟨la, lc, hlu, hl1, hl2, hl3⟩ := h
  subst hlu
  have hl3 := Lib.hid hl3
  obtain ⟨l, hl⟩ : ∃ n, Hid (E.length = n) := ⟨_, Lib.hid rfl⟩
  rw [hl.out] at sv sa sp hl1 hl2 ⊢
  have hu := Lib.hid hu
  unfold env at ev sp ⊢
  have A := Lib.hid (heap_alloc_new w (.cells #[.int .i64 X.id.1, .int .i64 X.id.2, .int .i64 X.bal, .int .i64 X.st, .int .i64 X.k, .int .i64 X.key, .int .i64 X.v, .int .i64 X.seq, .slice xa xn xc] 30))
  have D := Lib.hid ((Below.refl w.heap.size w).alloc (Nat.le_refl _) (.cells #[.int .i64 X.id.1, .int .i64 X.id.2, .int .i64 X.bal, .int .i64 X.st, .int .i64 X.k, .int .i64 X.key, .int .i64 X.v, .int .i64 X.seq, .slice xa xn xc] 30))
  go_enter Tryz.func20, Tryz.ntmps20
  go_upto_region 1 with fail
  generalize w.alloc (.cells #[.int .i64 X.id.1, .int .i64 X.id.2, .int .i64 X.bal, .int .i64 X.st, .int .i64 X.k, .int .i64 X.key, .int .i64 X.v, .int .i64 X.seq, .slice xa xn xc] 30) = w1 at A D ⊢
  go_wp2_with fail
  refine (sv _ D.out).mono ?_
  rintro e w2 ⟨rfl, B⟩
  replace A := Lib.hid (bblk B (lt_of_heap A.out) A.out)
  replace D := Lib.hid (bstep D.out B)
  clear B
  clear sv
  obtain ⟨q, hq⟩ : ∃ q, Hid (logB E = q) := ⟨_, Lib.hid rfl⟩
  rw [hq.out]
  cases q
  · clear A ev sa sp
    have hQ := Lib.hid (show fixR E X = ([], false) from if_neg (fun hh => by have := hh.1; rw [hq.out] at this; cases this))
    have hL := Lib.hid (stk_fail D.out)
    go_wp2_with fail
    go_ret2
    rw [hQ.out]
    exact hL.out
  · obtain ⟨⟨y0, y1, y2, y3, y4, y5, y6, y7, y8⟩, _, yl⟩ := nine_all A.out
    go_wp2_with fail
    refine (ev _ D.out).mono ?_
    rintro e w3 ⟨rfl, B⟩
    clear y0 y1 y2 y3 y4 y5 y6 y7 y8 yl ev
    replace A := Lib.hid (bblk B (lt_of_heap A.out) A.out)
    replace D := Lib.hid (bstep D.out B)
    clear B
    obtain ⟨p, hp⟩ : ∃ q, Hid (enB X = q) := ⟨_, Lib.hid rfl⟩
    rw [hp.out]
    cases p
    · clear A sa sp
      have hQ := Lib.hid (show fixR E X = ([], false) from if_neg (fun hh => by have := hh.2.1; rw [hp.out] at this; cases this))
      have hL := Lib.hid (stk_fail D.out)
      go_wp2_with fail
      go_ret2
      rw [hQ.out]
      exact hL.out
    · by_cases hst : X.st = 3
      · have hst2 := hst
        replace hst := Lib.hid hst
        obtain ⟨⟨y0, y1, y2, y3, y4, y5, y6, y7, y8⟩, _, yl⟩ := nine_all A.out
        rw [hst2] at y3
        go_wp2_with fail
        refine (sa _ D.out).mono ?_
        rintro e w4 ⟨⟨z, rfl, hz⟩, B⟩
        clear y0 y1 y2 y3 y4 y5 y6 y7 y8 yl hst2 sa
        replace A := Lib.hid (bblk B (lt_of_heap A.out) A.out)
        replace D := Lib.hid (bstep D.out B)
        clear B
        have hz := Lib.hid hz
        obtain ⟨fb, hfb⟩ : ∃ q, Hid (fixedB E X.id = q) := ⟨_, Lib.hid rfl⟩
        go_upto_region 4 with fail
        go_cut [34] from 25 to 33 (fun s wx => Hid (s = .bool fb ∧ wx.heap[w.heap.size]? = some (.cells #[.int .i64 X.id.1, .int .i64 X.id.2, .int .i64 X.bal, .int .i64 X.st, .int .i64 X.k, .int .i64 X.key, .int .i64 X.v, .int .i64 X.seq, .slice xa xn xc] 30 (0, 0)) ∧ Below w.heap.size w wx))
        case first =>
          clear sp
          obtain ⟨⟨y0, y1, y2, y3, y4, y5, y6, y7, y8⟩, _, yl⟩ := nine_all A.out
          rcases hz.out with ⟨rfl, hno⟩ | ⟨k, rfl, hk, hid⟩
          · obtain rfl : false = fb := by rw [← hfb.out]; exact (fixB_none hno).symm
            clear hz hno hfb
            go_wp2_with fail
            go_meet
            exact Lib.hid ⟨rfl, A.out, D.out⟩
          · obtain ⟨b, off, U, hla, hA⟩ := hl3.out.resolve_left (by have := hl.out; omega)
            subst hla
            have hX := (hA.up D.out (Nat.le_refl _)).at_ k hk
            have hbl := (hA.up D.out (Nat.le_refl _)).lt
            have hkl : k < l := by rw [← hl.out]; exact hk
            have h1 := fixB_at hq.out hk hid
            rw [show ((X.id.1, X.id.2) : Pid) = X.id from rfl] at h1
            rw [hfb.out] at h1
            obtain ⟨Z, hZ⟩ : ∃ Z, Hid (E.getD k en0 = Z) := ⟨_, Lib.hid rfl⟩
            rw [hZ.out] at hX h1
            have e3 := hX.c3
            clear hz hA hX hid hZ hfb hl3 hk
            obtain ⟨zs, hzs⟩ : ∃ z, Hid (Z.st = z) := ⟨_, Lib.hid rfl⟩
            rw [hzs.out] at e3 h1
            by_cases g1 : zs = 3
            · subst g1
              obtain rfl : fb = true := by rw [h1]; rfl
              clear h1
              go_wp2_with fail
              go_meet
              exact Lib.hid ⟨rfl, A.out, D.out⟩
            · have g1b : (zs == 3) = false := by simpa using g1
              obtain rfl : fb = false := by rw [h1]; exact g1b
              clear h1
              go_wp2_with fail
              go_meet
              exact Lib.hid ⟨rfl, A.out, D.out⟩
        case rest =>
          obtain ⟨hs, hA5, hD5⟩ := hcut.out
          subst hs
          clear hcut A D
          have A := Lib.hid hA5
          have D := Lib.hid hD5
          clear hA5 hD5
          cases fb
          · have hQ := Lib.hid (show fixR E X = lputR E X from by
              unfold fixR
              rw [if_pos ⟨hq.out, hp.out, hst.out⟩, if_neg (by rw [hfb.out]; simp)])
            clear hz
            obtain ⟨⟨y0, y1, y2, y3, y4, y5, y6, y7, y8⟩, _, yl⟩ := nine_all A.out
            go_wp2_with fail
            refine (sp _ D.out).mono ?_
            rintro e w5 hP
            obtain ⟨⟨v, rfl, hO⟩, B⟩ := hP
            have hO2 := Lib.hid (hO.wide D.out.size)
            have D2 := Lib.hid (bstep D.out B)
            clear B hO y0 y1 y2 y3 y4 y5 y6 y7 y8 yl
            go_wp2_with fail
            go_ret2
            rw [hQ.out]
            exact ⟨v, rfl, hO2.out, D2.out⟩
          · clear sp
            rcases hz.out with ⟨rfl, hno⟩ | ⟨k, rfl, hk, hid⟩
            · have h1 := fixB_none hno
              rw [show ((X.id.1, X.id.2) : Pid) = X.id from rfl, hfb.out] at h1
              cases h1
            · clear hz
              obtain ⟨b, off, U, hla, hA⟩ := hl3.out.resolve_left (by have := hl.out; omega)
              subst hla
              have hfd := lfindR_some hq.out hk hid
              rw [show ((X.id.1, X.id.2) : Pid) = X.id from rfl] at hfd
              have hkl : k < l := by rw [← hl.out]; exact hk
              obtain ⟨Z, hZ⟩ : ∃ Z, Hid (E.getD k en0 = Z) := ⟨_, Lib.hid rfl⟩
              obtain ⟨za, zn, zc, hU⟩ : ∃ ua un uc, U k = .slice ua un uc := by obtain ⟨a, c, e, _⟩ := (hA.at_ k hk).ids; exact ⟨a, _, c, e⟩
              have hX := hA.at_ k hk
              rw [hZ.out, hU] at hX
              rw [hZ.out] at hfd
              obtain ⟨sb, hsb⟩ : ∃ q, Hid (sameB Z X = q) := ⟨_, Lib.hid rfl⟩
              have hQ : Hid (fixR E X = if sb = true then (E, true) else ([], false)) := Lib.hid (by
                unfold fixR
                rw [if_pos ⟨hq.out, hp.out, hst.out⟩, if_pos hfb.out, hfd, hsb.out])
              have hX := Lib.hid hX
              have hA := Lib.hid hA
              have hE12 := (log_of hq.out).1
              generalize hw5 : wc = w5 at A D ⊢
              clear hw5
              have hX5 := (hA.out.up D.out (Nat.le_refl _)).at_ k hk
              rw [hZ.out, hU] at hX5
              have qb := (hA.out.up D.out (Nat.le_refl _)).lt
              obtain ⟨⟨y0, y1, y2, y3, y4, y5, y6, y7, y8⟩, _, yl⟩ := nine_all A.out
              obtain ⟨o, ho⟩ : ∃ o, off + k * 9 = o := ⟨_, rfl⟩
              rw [ho] at hX5
              have H0 := Lib.hid (show ((w5.cell? ⟨w.heap.size, 0, none⟩ = some (.int .i64 X.id.1) ∧ w5.cell? ⟨w.heap.size, 1, none⟩ = some (.int .i64 X.id.2) ∧ w5.cell? ⟨w.heap.size, 2, none⟩ = some (.int .i64 X.bal) ∧ w5.cell? ⟨w.heap.size, 3, none⟩ = some (.int .i64 X.st) ∧ w5.cell? ⟨w.heap.size, 4, none⟩ = some (.int .i64 X.k) ∧ w5.cell? ⟨w.heap.size, 5, none⟩ = some (.int .i64 X.key) ∧ w5.cell? ⟨w.heap.size, 6, none⟩ = some (.int .i64 X.v) ∧ w5.cell? ⟨w.heap.size, 7, none⟩ = some (.int .i64 X.seq) ∧ w5.cell? ⟨w.heap.size, 8, none⟩ = some (.slice xa xn xc)) ∧ (w5.cell? ⟨b, o, none⟩ = some (.int .i64 Z.id.1) ∧ w5.cell? ⟨b, o + 1, none⟩ = some (.int .i64 Z.id.2) ∧ w5.cell? ⟨b, o + 2, none⟩ = some (.int .i64 Z.bal) ∧ w5.cell? ⟨b, o + 3, none⟩ = some (.int .i64 Z.st) ∧ w5.cell? ⟨b, o + 4, none⟩ = some (.int .i64 Z.k) ∧ w5.cell? ⟨b, o + 5, none⟩ = some (.int .i64 Z.key) ∧ w5.cell? ⟨b, o + 6, none⟩ = some (.int .i64 Z.v) ∧ w5.cell? ⟨b, o + 7, none⟩ = some (.int .i64 Z.seq) ∧ w5.cell? ⟨b, o + 8, none⟩ = some (.slice za zn zc))) ∧ Below w5.heap.size w5 w5 from ⟨⟨⟨y0, y1, y2, y3, y4, y5, y6, y7, y8⟩, hX5.c0, hX5.c1, hX5.c2, hX5.c3, hX5.c4, hX5.c5, hX5.c6, hX5.c7, hX5.c8⟩, Below.refl _ _⟩)
              have sm := fun W (hb : Below w5.heap.size w5 W) => ssame14_any Z X (.slice za zn zc) (.slice xa xn xc) W (hX.out.ids.up (bstep D.out hb) (Nat.le_refl _)) (hu.out.up (bstep D.out hb) (Nat.le_refl _))
              rw [hsb.out] at sm
              unfold env at sm
              clear y0 y1 y2 y3 y4 y5 y6 y7 y8 yl hX5
              go_upto_region 5 with fail
              go_region_held3 (fun w' => ((w'.cell? ⟨w.heap.size, 0, none⟩ = some (.int .i64 X.id.1) ∧ w'.cell? ⟨w.heap.size, 1, none⟩ = some (.int .i64 X.id.2) ∧ w'.cell? ⟨w.heap.size, 2, none⟩ = some (.int .i64 X.bal) ∧ w'.cell? ⟨w.heap.size, 3, none⟩ = some (.int .i64 X.st) ∧ w'.cell? ⟨w.heap.size, 4, none⟩ = some (.int .i64 X.k) ∧ w'.cell? ⟨w.heap.size, 5, none⟩ = some (.int .i64 X.key) ∧ w'.cell? ⟨w.heap.size, 6, none⟩ = some (.int .i64 X.v) ∧ w'.cell? ⟨w.heap.size, 7, none⟩ = some (.int .i64 X.seq) ∧ w'.cell? ⟨w.heap.size, 8, none⟩ = some (.slice xa xn xc)) ∧ (w'.cell? ⟨b, o, none⟩ = some (.int .i64 Z.id.1) ∧ w'.cell? ⟨b, o + 1, none⟩ = some (.int .i64 Z.id.2) ∧ w'.cell? ⟨b, o + 2, none⟩ = some (.int .i64 Z.bal) ∧ w'.cell? ⟨b, o + 3, none⟩ = some (.int .i64 Z.st) ∧ w'.cell? ⟨b, o + 4, none⟩ = some (.int .i64 Z.k) ∧ w'.cell? ⟨b, o + 5, none⟩ = some (.int .i64 Z.key) ∧ w'.cell? ⟨b, o + 6, none⟩ = some (.int .i64 Z.v) ∧ w'.cell? ⟨b, o + 7, none⟩ = some (.int .i64 Z.seq) ∧ w'.cell? ⟨b, o + 8, none⟩ = some (.slice za zn zc))) ∧ Below w5.heap.size w5 w') (first | exact sx_drew H0.out | assumption | exact sx_keep (by assumption) (by assumption))
                (first | (go_at_call 47; (with_reducible refine (sm _ (by assumption : ((_ ∧ _ ∧ _ ∧ _ ∧ _ ∧ _ ∧ _ ∧ _ ∧ _) ∧ (_ ∧ _ ∧ _ ∧ _ ∧ _ ∧ _ ∧ _ ∧ _ ∧ _)) ∧ Below w5.heap.size w5 _).2).mono ?_); rintro e w' ⟨rfl, hb⟩))
              rename_i H2
              have K2 := Lib.hid (show (((_ ∧ _ ∧ _ ∧ _ ∧ _ ∧ _ ∧ _ ∧ _ ∧ _) ∧ (_ ∧ _ ∧ _ ∧ _ ∧ _ ∧ _ ∧ _ ∧ _ ∧ _)) ∧ Below w5.heap.size w5 _) from H2).2
              have D2 := Lib.hid (bstep D.out K2.out)
              clear H2 H0 sm
              cases sb
              · have hL := Lib.hid (stk_fail D2.out)
                go_wp2_with fail
                go_ret2
                rw [hQ.out]
                exact hL.out
              · have al := fun W (hb : Below w.heap.size w W) => sall_at b off lc E U W hE12 (hA.out.up hb (Nat.le_refl _))
                rw [hl.out] at al
                go_wp2_with fail
                refine (al _ D2.out).mono ?_
                rintro e w6 ⟨⟨v, rfl, hO⟩, B⟩
                have hO2 := Lib.hid (hO.wide D2.out.size)
                have D3 := Lib.hid (bstep D2.out B)
                clear B hO al
                go_wp2_with fail
                go_ret2
                rw [hQ.out]
                exact ⟨v, rfl, hO2.out, D3.out⟩
      · have hstb : (X.st == 3) = false := by simpa using hst
        have hQ0 := Lib.hid (show ¬ X.st = 3 from hst)
        obtain ⟨⟨y0, y1, y2, y3, y4, y5, y6, y7, y8⟩, _, yl⟩ := nine_all A.out
        have hQ := Lib.hid (show fixR E X = ([], false) from if_neg (fun hh => hQ0.out hh.2.2))
        have hL := Lib.hid (stk_fail D.out)
        go_wp2_with fail
        go_ret2
        rw [hQ.out]
        exact hL.out
end Go.Proofs.YtiolhjjkjmepcaaGreatDoor

/- The walk of FnTakeFixed. -/
namespace Go.Proofs.YtiolhjjkjmepcaaGreatDoor
open Go.RowKit
set_option linter.unusedVariables false

set_option maxRecDepth 100000 in
set_option maxHeartbeats 8000000 in
theorem fnTakeFixed_walk (a : Option Addr) (len cap : Nat) (w : World) (hc : CodeIn w a len cap) (hcap : cap ≤ maxLen) (hS0 : SenW w) :
    Calls Tryz.prog 5 #[.slice a len cap] w fun e w' => e = .returned (.bool true) ∧ Below w.heap.size w w' := by
  have dn := dfix_any a len cap w hc hcap
  obtain ⟨a0, a1, hS⟩ := hS0
  by_cases hlen : 1048576 < len
  · go_enter Tryz.func5, Tryz.ntmps5
    go_wp2_with fail
    go_ret
    exact ⟨rfl, Below.refl _ _⟩
  · have hS := Lib.hid hS
    go_enter Tryz.func5, Tryz.ntmps5
    go_wp2_with fail
    refine dn.mono ?_
    rintro e w1 ⟨v, E, X, ux, b1, rfl, O, hl, hin, hb1, OX, B⟩
    obtain ⟨g, cp, hv⟩ := O.len
    subst hv
    obtain ⟨xa, xn, xc, rfl⟩ : ∃ ua un uc, ux = .slice ua un uc := by obtain ⟨c, e, _⟩ := OX.shape; exact ⟨_, _, _, e⟩
    have BA := (Below.refl w1.heap.size w1).alloc (Nat.le_refl _) (.cells #[.int .i64 X.id.1, .int .i64 X.id.2, .int .i64 X.bal, .int .i64 X.st, .int .i64 X.k, .int .i64 X.key, .int .i64 X.v, .int .i64 X.seq, .slice xa xn xc] 30)
    have C2 := Lib.hid (show BxE (w1.alloc (.cells #[.int .i64 X.id.1, .int .i64 X.id.2, .int .i64 X.bal, .int .i64 X.st, .int .i64 X.k, .int .i64 X.key, .int .i64 X.v, .int .i64 X.seq, .slice xa xn xc] 30)) w1.heap.size X (.slice xa xn xc) from heap_alloc_new _ _)
    have O2 := Lib.hid (O.up BA).read
    have I2 := Lib.hid (OX.up BA OX.lt).read
    have D := Lib.hid (bstep B BA)
    have S2 := Lib.hid (hS.out.up D.out)
    have hin := Lib.hid hin
    clear BA B O OX dn hS
    unfold env
    go_upto_region 4 with fail
    obtain ⟨cb, hx2⟩ : ∃ c, Hid (w1.heap.size = c) := ⟨_, Lib.hid rfl⟩
    rw [hx2.out] at C2 ⊢
    generalize w1.alloc (.cells #[.int .i64 X.id.1, .int .i64 X.id.2, .int .i64 X.bal, .int .i64 X.st, .int .i64 X.k, .int .i64 X.key, .int .i64 X.v, .int .i64 X.seq, .slice xa xn xc] 30) = w2 at C2 O2 I2 D S2 ⊢
    clear hx2
    have iv := ifix_any a0 a1 _ (.slice xa xn xc) E X w2 O2.out I2.out hin.out (fun W hb => S2.out.up hb)
    have sv := fun W (hb : Below w2.heap.size w2 W) => sfix_any _ (.slice xa xn xc) E X W (O2.out.up hb (Nat.le_refl _)) (I2.out.up hb (Nat.le_refl _))
    obtain ⟨⟨N, q⟩, hR⟩ : ∃ r, Hid (fixR E X = r) := ⟨_, Lib.hid rfl⟩
    unfold TkZ at iv
    unfold StkP at sv
    rw [hR.out] at iv sv
    dsimp only at iv sv
    unfold env at iv sv
    obtain ⟨n, hn⟩ : ∃ n, Hid (E.length = n) := ⟨_, Lib.hid rfl⟩
    rw [hn.out] at iv sv O2 hl ⊢
    have hm12 : N.length ≤ 12 := by have := fixR_len E X; rw [hR.out] at this; exact this
    obtain ⟨m, hm⟩ : ∃ m, Hid (N.length = m) := ⟨_, Lib.hid rfl⟩
    obtain ⟨⟨b0, b1, b2, b3, b4, b5, b6, b7, b8⟩, bl⟩ := C2.out.cells
    go_wp2_with fail
    refine iv.mono ?_
    rintro e w3 ⟨⟨v5, rfl, L5⟩, B⟩
    obtain ⟨g5, c5, hv5, _⟩ := L5.shape
    subst hv5
    have L5 := Lib.hid L5.read
    have F := Lib.hid B
    have C3 := Lib.hid (C2.out.up F.out)
    rw [hm.out] at L5 hm12 ⊢
    clear iv B b0 b1 b2 b3 b4 b5 b6 b7 b8 bl C2
    obtain ⟨⟨b0, b1, b2, b3, b4, b5, b6, b7, b8⟩, bl⟩ := C3.out.cells
    go_wp2_with fail
    refine (sv _ F.out).mono ?_
    rintro e w5 ⟨v6, rfl, O6, B⟩
    obtain ⟨g6, c6, hv6⟩ := O6.len
    subst hv6
    have L6 := Lib.hid O6.read
    rw [hm.out] at L6 ⊢
    replace L5 := Lib.hid (L5.out.up B (Nat.le_refl _))
    replace C3 := Lib.hid (C3.out.up B)
    replace F := Lib.hid (bstep F.out B)
    clear sv B O6 b0 b1 b2 b3 b4 b5 b6 b7 b8 bl
    have sm := fun W (hb : Below w5.heap.size w5 W) => smL_any _ _ N W (L5.out.up hb (Nat.le_refl _)) (L6.out.up hb (Nat.le_refl _))
    go_wp2_with fail
    refine (sm _ (Below.refl _ _)).mono ?_
    rintro e w8 ⟨rfl, B⟩
    have K7 := Lib.hid B
    clear B
    cases q
    · go_wp2_with fail
      refine (sm _ K7.out).mono ?_
      rintro e w10 ⟨rfl, B⟩
      replace K7 := Lib.hid (bstep K7.out B)
      have D9 := Lib.hid (bstep D.out (bstep F.out K7.out))
      clear B
      go_wp2_with fail
      go_ret
      exact ⟨rfl, D9.out⟩
    · clear sm
      have hq := Lib.hid (show (fixR E X).2 = true by rw [hR.out])
      have hN := Lib.hid (show (fixR E X).1 = N by rw [hR.out])
      replace L5 := Lib.hid (L5.out.up K7.out (Nat.le_refl _))
      replace C3 := Lib.hid (C3.out.up K7.out)
      replace F := Lib.hid (bstep F.out K7.out)
      have O8 := Lib.hid (O2.out.up F.out (Nat.le_refl _))
      have I8 := Lib.hid (I2.out.up F.out (Nat.le_refl _))
      have S8 := Lib.hid (S2.out.up F.out)
      have D8 := Lib.hid (bstep D.out F.out)
      clear L6 F K7 O2 I2 S2 D hR
      have hT1 := fix_taken (b := 999) hq.out
      rw [hN.out] at hT1
      obtain ⟨Y, hY⟩ : ∃ Y : En, Hid ({ X with st := 2, bal := 999 } = Y) := ⟨_, Lib.hid rfl⟩
      rw [hY.out] at hT1
      have hYi : Hid (inR Y.id) := Lib.hid (by rw [← hY.out]; exact hin.out)
      have hYd : Hid (Y.deps = X.deps) := Lib.hid (by rw [← hY.out])
      clear hq hN
      have hT1 := Lib.hid hT1
      have BA9 := (Below.refl w8.heap.size w8).alloc (Nat.le_refl _) (.cells #[.int .i64 X.id.1, .int .i64 X.id.2, .int .i64 X.bal, .int .i64 X.st, .int .i64 X.k, .int .i64 X.key, .int .i64 X.v, .int .i64 X.seq, .slice xa xn xc] 30)
      have X9 := Lib.hid (show BxE (w8.alloc (.cells #[.int .i64 X.id.1, .int .i64 X.id.2, .int .i64 X.bal, .int .i64 X.st, .int .i64 X.k, .int .i64 X.key, .int .i64 X.v, .int .i64 X.seq, .slice xa xn xc] 30)) w8.heap.size X (.slice xa xn xc) from heap_alloc_new _ _)
      have hcb := C3.out.cells.2
      have C9 := Lib.hid (C3.out.up BA9)
      have E9 := Lib.hid BA9
      obtain ⟨⟨b0, b1, b2, b3, b4, b5, b6, b7, b8⟩, bl⟩ := C3.out.cells
      go_upto_region 9 with fail
      clear b0 b1 b2 b3 b4 b5 b6 b7 b8 bl BA9 C3
      obtain ⟨xb, hxb⟩ : ∃ c, Hid (w8.heap.size = c) := ⟨_, Lib.hid rfl⟩
      rw [hxb.out] at X9 ⊢
      have hxb2 := hxb.out
      obtain ⟨w9, hw9⟩ : ∃ q, q = w8.alloc (.cells #[.int .i64 X.id.1, .int .i64 X.id.2, .int .i64 X.bal, .int .i64 X.st, .int .i64 X.k, .int .i64 X.key, .int .i64 X.v, .int .i64 X.seq, .slice xa xn xc] 30) := ⟨_, rfl⟩
      rw [← hw9] at X9 C9 E9 ⊢
      clear hw9
      obtain ⟨⟨x0, x1, x2, x3, x4, x5, x6, x7, x8⟩, xl⟩ := X9.out.cells
      have xf := X9.out.free 3
      have xg := X9.out.free 2
      go_upto_region 11 with fail
      clear x0 x1 x2 x3 x4 x5 x6 x7 x8 xl xf xg
      have G0 := Lib.hid (X9.out.s3 2)
      have G := Lib.hid (G0.out.s2 999)
      have C1 := Lib.hid ((C9.out.so (b := xb) (i := 3) (x := .int .i64 2) (by have := C9.out.cells.2; omega)).so (b := xb) (i := 2) (x := .int .i64 999) (by have := C9.out.cells.2; omega))
      have E1 := Lib.hid ((E9.out.setCell (p := ⟨xb, 3, none⟩) (by show w8.heap.size ≤ xb; omega) (.int .i64 2)).setCell (p := ⟨xb, 2, none⟩) (by show w8.heap.size ≤ xb; omega) (.int .i64 999))
      replace G := Lib.hid (show BxE ((w9.setCell ⟨xb, 3, none⟩ (.int .i64 2)).setCell ⟨xb, 2, none⟩ (.int .i64 999)) xb Y (.slice xa xn xc) from by rw [← hY.out]; exact G.out)
      clear X9 C9 E9 G0
      generalize (w9.setCell ⟨xb, 3, none⟩ (.int .i64 2)).setCell ⟨xb, 2, none⟩ (.int .i64 999) = w10 at G C1 E1 ⊢
      replace L5 := Lib.hid (L5.out.up E1.out (Nat.le_refl _))
      replace I8 := Lib.hid (I8.out.up E1.out (Nat.le_refl _))
      replace S8 := Lib.hid (S8.out.up E1.out)
      replace D8 := Lib.hid (bstep D8.out E1.out)
      clear C1 E1 hY O8
      have iy := itake_any a0 a1 _ (.slice xa xn xc) N Y w10 L5.out (by rw [hYd.out]; exact I8.out) hYi.out (fun W hb => S8.out.up hb)
      unfold TkZ at iy
      rw [hT1.out] at iy
      dsimp only at iy
      unfold env at iy
      obtain ⟨⟨x0, x1, x2, x3, x4, x5, x6, x7, x8⟩, xl⟩ := G.out.cells
      go_wp2_with fail
      refine iy.mono ?_
      rintro e w11 ⟨⟨v9, rfl, L9⟩, B⟩
      obtain ⟨g9, c9, hv9, _⟩ := L9.shape
      subst hv9
      have L9 := Lib.hid L9.read
      clear x0 x1 x2 x3 x4 x5 x6 x7 x8 xl iy
      replace D8 := Lib.hid (bstep D8.out B)
      clear B
      go_wp2_with fail
      go_ret
      exact ⟨by first | rfl | simp, D8.out⟩
end Go.Proofs.YtiolhjjkjmepcaaGreatDoor

/- The walk of FnFix. -/
namespace Go.Proofs.YtiolhjjkjmepcaaGreatDoor
open Go.RowKit
set_option linter.unusedVariables false

set_option maxRecDepth 100000 in
set_option maxHeartbeats 8000000 in
theorem fnFix_walk (a : Option Addr) (len cap : Nat) (w : World) (hc : CodeIn w a len cap) (hcap : cap ≤ maxLen) (hS0 : SenW w) :
    Calls Tryz.prog 6 #[.slice a len cap] w fun e w' => e = .returned (.bool true) ∧ Below w.heap.size w w' := by
  have dn := dfix_any a len cap w hc hcap
  obtain ⟨a0, a1, hS⟩ := hS0
  by_cases hlen : 1048576 < len
  · go_enter Tryz.func6, Tryz.ntmps6
    go_wp2_with fail
    go_ret
    exact ⟨rfl, Below.refl _ _⟩
  · have hS := Lib.hid hS
    go_enter Tryz.func6, Tryz.ntmps6
    go_wp2_with fail
    refine dn.mono ?_
    rintro e w1 ⟨v, E, X, ux, b1, rfl, O, hl, hin, hb1, OX, B⟩
    obtain ⟨g, cp, hv⟩ := O.len
    subst hv
    obtain ⟨xa, xn, xc, rfl⟩ : ∃ ua un uc, ux = .slice ua un uc := by obtain ⟨c, e, _⟩ := OX.shape; exact ⟨_, _, _, e⟩
    have BA := (Below.refl w1.heap.size w1).alloc (Nat.le_refl _) (.cells #[.int .i64 X.id.1, .int .i64 X.id.2, .int .i64 X.bal, .int .i64 X.st, .int .i64 X.k, .int .i64 X.key, .int .i64 X.v, .int .i64 X.seq, .slice xa xn xc] 30)
    have C2 := Lib.hid (show BxE (w1.alloc (.cells #[.int .i64 X.id.1, .int .i64 X.id.2, .int .i64 X.bal, .int .i64 X.st, .int .i64 X.k, .int .i64 X.key, .int .i64 X.v, .int .i64 X.seq, .slice xa xn xc] 30)) w1.heap.size X (.slice xa xn xc) from heap_alloc_new _ _)
    have O2 := Lib.hid (O.up BA).read
    have I2 := Lib.hid (OX.up BA OX.lt).read
    have D := Lib.hid (bstep B BA)
    have S2 := Lib.hid (hS.out.up D.out)
    have hin := Lib.hid hin
    clear BA B O OX dn hS
    unfold env
    go_upto_region 4 with fail
    obtain ⟨cb, hx2⟩ : ∃ c, Hid (w1.heap.size = c) := ⟨_, Lib.hid rfl⟩
    rw [hx2.out] at C2 ⊢
    generalize w1.alloc (.cells #[.int .i64 X.id.1, .int .i64 X.id.2, .int .i64 X.bal, .int .i64 X.st, .int .i64 X.k, .int .i64 X.key, .int .i64 X.v, .int .i64 X.seq, .slice xa xn xc] 30) = w2 at C2 O2 I2 D S2 ⊢
    clear hx2
    have iv := ifix_any a0 a1 _ (.slice xa xn xc) E X w2 O2.out I2.out hin.out (fun W hb => S2.out.up hb)
    have sv := fun W (hb : Below w2.heap.size w2 W) => sfix_any _ (.slice xa xn xc) E X W (O2.out.up hb (Nat.le_refl _)) (I2.out.up hb (Nat.le_refl _))
    obtain ⟨⟨N, q⟩, hR⟩ : ∃ r, Hid (fixR E X = r) := ⟨_, Lib.hid rfl⟩
    unfold TkZ at iv
    unfold StkP at sv
    rw [hR.out] at iv sv
    dsimp only at iv sv
    unfold env at iv sv
    obtain ⟨n, hn⟩ : ∃ n, Hid (E.length = n) := ⟨_, Lib.hid rfl⟩
    rw [hn.out] at iv sv O2 hl ⊢
    have hm12 : N.length ≤ 12 := by have := fixR_len E X; rw [hR.out] at this; exact this
    obtain ⟨m, hm⟩ : ∃ m, Hid (N.length = m) := ⟨_, Lib.hid rfl⟩
    obtain ⟨⟨b0, b1, b2, b3, b4, b5, b6, b7, b8⟩, bl⟩ := C2.out.cells
    go_wp2_with fail
    refine iv.mono ?_
    rintro e w3 ⟨⟨v5, rfl, L5⟩, B⟩
    obtain ⟨g5, c5, hv5, _⟩ := L5.shape
    subst hv5
    have L5 := Lib.hid L5.read
    have F := Lib.hid B
    have C3 := Lib.hid (C2.out.up F.out)
    rw [hm.out] at L5 hm12 ⊢
    clear iv B b0 b1 b2 b3 b4 b5 b6 b7 b8 bl C2
    obtain ⟨⟨b0, b1, b2, b3, b4, b5, b6, b7, b8⟩, bl⟩ := C3.out.cells
    go_wp2_with fail
    refine (sv _ F.out).mono ?_
    rintro e w5 ⟨v6, rfl, O6, B⟩
    obtain ⟨g6, c6, hv6⟩ := O6.len
    subst hv6
    have L6 := Lib.hid O6.read
    rw [hm.out] at L6 ⊢
    replace L5 := Lib.hid (L5.out.up B (Nat.le_refl _))
    replace C3 := Lib.hid (C3.out.up B)
    replace F := Lib.hid (bstep F.out B)
    clear sv B O6 b0 b1 b2 b3 b4 b5 b6 b7 b8 bl
    have sm := fun W (hb : Below w5.heap.size w5 W) => smL_any _ _ N W (L5.out.up hb (Nat.le_refl _)) (L6.out.up hb (Nat.le_refl _))
    go_wp2_with fail
    refine (sm _ (Below.refl _ _)).mono ?_
    rintro e w8 ⟨rfl, B⟩
    have K7 := Lib.hid B
    clear B
    cases q
    · go_wp2_with fail
      refine (sm _ K7.out).mono ?_
      rintro e w10 ⟨rfl, B⟩
      replace K7 := Lib.hid (bstep K7.out B)
      have D9 := Lib.hid (bstep D.out (bstep F.out K7.out))
      clear B
      go_wp2_with fail
      go_ret
      exact ⟨rfl, D9.out⟩
    · clear sm
      have hq := Lib.hid (show (fixR E X).2 = true by rw [hR.out])
      have hN := Lib.hid (show (fixR E X).1 = N by rw [hR.out])
      replace L5 := Lib.hid (L5.out.up K7.out (Nat.le_refl _))
      replace C3 := Lib.hid (C3.out.up K7.out)
      replace F := Lib.hid (bstep F.out K7.out)
      have O8 := Lib.hid (O2.out.up F.out (Nat.le_refl _))
      have I8 := Lib.hid (I2.out.up F.out (Nat.le_refl _))
      have S8 := Lib.hid (S2.out.up F.out)
      have D8 := Lib.hid (bstep D.out F.out)
      clear L6 F K7 O2 I2 S2 D hR
      obtain ⟨_, henB, hst, hNv, ⟨Z, hZf, hZ3, hZs⟩, _⟩ := fix_is hq.out
      rw [hN.out] at hNv hZf
      clear henB hst
      obtain ⟨g1, g2, g3, g4, g5'⟩ : Z.k = X.k ∧ Z.key = X.key ∧ Z.v = X.v ∧ Z.seq = X.seq ∧ Z.deps = X.deps := by simpa [sameB] using hZs
      have hZe := Lib.hid (show Z.st = 3 ∧ Z.k = X.k ∧ Z.key = X.key ∧ Z.v = X.v ∧ Z.seq = X.seq ∧ Z.deps = X.deps from ⟨hZ3, g1, g2, g3, g4, g5'⟩)
      clear hZ3 g1 g2 g3 g4 g5' hZs
      have lf := ilfind_any _ N X.id.1 X.id.2 w8 L5.out hin.out
      unfold LfP at lf
      rw [show ((X.id.1, X.id.2) : Pid) = X.id from rfl, hZf] at lf
      dsimp only at lf
      unfold env at lf
      have hNv := Lib.hid hNv
      clear hZf hq hN O8 S8
      obtain ⟨⟨p0, p1, p2, p3, p4, p5, p6, p7, p8⟩, pl⟩ := C3.out.cells
      go_wp2_with fail
      refine lf.mono ?_
      rintro e w9 ⟨u7, rfl, O7, B⟩
      obtain ⟨va7, vn7, vc7, rfl⟩ : ∃ ua un uc, u7 = .slice ua un uc := by obtain ⟨a, c, e, _⟩ := O7.read; exact ⟨a, _, c, e⟩
      have BA := (Below.refl w9.heap.size w9).alloc (Nat.le_refl _) (.cells #[.int .i64 Z.id.1, .int .i64 Z.id.2, .int .i64 Z.bal, .int .i64 Z.st, .int .i64 Z.k, .int .i64 Z.key, .int .i64 Z.v, .int .i64 Z.seq, .slice va7 vn7 vc7] 30)
      have G7 := Lib.hid (show BxE (w9.alloc (.cells #[.int .i64 Z.id.1, .int .i64 Z.id.2, .int .i64 Z.bal, .int .i64 Z.st, .int .i64 Z.k, .int .i64 Z.key, .int .i64 Z.v, .int .i64 Z.seq, .slice va7 vn7 vc7] 30)) w9.heap.size Z (.slice va7 vn7 vc7) from heap_alloc_new _ _)
      have I7 := Lib.hid ((O7.up BA).read)
      have B2 := bstep B BA
      replace L5 := Lib.hid (L5.out.up B2 (Nat.le_refl _))
      replace I8 := Lib.hid (I8.out.up B2 (Nat.le_refl _))
      replace C3 := Lib.hid (C3.out.up B2)
      replace D8 := Lib.hid (bstep D8.out B2)
      clear lf B BA B2 O7 p0 p1 p2 p3 p4 p5 p6 p7 p8 pl
      go_upto_region 9 with fail
      obtain ⟨xb, hxb⟩ : ∃ c, Hid (w9.heap.size = c) := ⟨_, Lib.hid rfl⟩
      rw [hxb.out] at G7 ⊢
      generalize w9.alloc (.cells #[.int .i64 Z.id.1, .int .i64 Z.id.2, .int .i64 Z.bal, .int .i64 Z.st, .int .i64 Z.k, .int .i64 Z.key, .int .i64 Z.v, .int .i64 Z.seq, .slice va7 vn7 vc7] 30) = w10 at G7 I7 L5 I8 C3 D8 ⊢
      clear hxb
      have lv := ilogv_any _ N w10 L5.out
      rw [hNv.out] at lv
      go_wp2_with fail
      refine lv.mono ?_
      rintro e w11 ⟨rfl, B⟩
      replace G7 := Lib.hid (G7.out.up B)
      replace I7 := Lib.hid (I7.out.up B (Nat.le_refl _))
      replace I8 := Lib.hid (I8.out.up B (Nat.le_refl _))
      replace C3 := Lib.hid (C3.out.up B)
      replace D8 := Lib.hid (bstep D8.out B)
      clear B lv L5
      obtain ⟨⟨p0, p1, p2, p3, p4, p5, p6, p7, p8⟩, pl⟩ := C3.out.cells
      obtain ⟨⟨r0, r1, r2, r3, r4, r5, r6, r7, r8⟩, rl⟩ := G7.out.cells
      rw [hZe.out.1] at r3
      rw [hZe.out.2.1] at r4
      rw [hZe.out.2.2.1] at r5
      rw [hZe.out.2.2.2.1] at r6
      rw [hZe.out.2.2.2.2.1] at r7
      have sg := sameg_any _ _ Z.deps X.deps w11 I7.out I8.out
      rw [decide_eq_true hZe.out.2.2.2.2.2] at sg
      obtain ⟨k1, hk1⟩ : ∃ z, X.k = z := ⟨_, rfl⟩
      obtain ⟨k2, hk2⟩ : ∃ z, X.key = z := ⟨_, rfl⟩
      obtain ⟨k3, hk3⟩ : ∃ z, X.v = z := ⟨_, rfl⟩
      obtain ⟨k4, hk4⟩ : ∃ z, X.seq = z := ⟨_, rfl⟩
      rw [hk1] at r4 p4
      rw [hk2] at r5 p5
      rw [hk3] at r6 p6
      rw [hk4] at r7 p7
      clear hk1 hk2 hk3 hk4
      go_wp2_with fail
      refine sg.mono ?_
      rintro e w12 ⟨rfl, B⟩
      have D9 := Lib.hid (bstep D8.out B)
      clear B sg p0 p1 p2 p3 p4 p5 p6 p7 p8 pl r0 r1 r2 r3 r4 r5 r6 r7 r8 rl
      go_wp2_with fail
      go_ret
      exact ⟨by first | rfl | simp, D9.out⟩
end Go.Proofs.YtiolhjjkjmepcaaGreatDoor

/- The walk of FnFixStay. -/
namespace Go.Proofs.YtiolhjjkjmepcaaGreatDoor
open Go.RowKit
set_option linter.unusedVariables false

set_option maxRecDepth 100000 in
set_option maxHeartbeats 8000000 in
theorem fnFixStay_walk (a : Option Addr) (len cap : Nat) (w : World) (hc : CodeIn w a len cap) (hcap : cap ≤ maxLen) (hS0 : SenW w) :
    Calls Tryz.prog 7 #[.slice a len cap] w fun e w' => e = .returned (.bool true) ∧ Below w.heap.size w w' := by
  have dn := dfix_any a len cap w hc hcap
  obtain ⟨a0, a1, hS⟩ := hS0
  by_cases hlen : 1048576 < len
  · go_enter Tryz.func7, Tryz.ntmps7
    go_wp2_with fail
    go_ret
    exact ⟨rfl, Below.refl _ _⟩
  · have hS := Lib.hid hS
    go_enter Tryz.func7, Tryz.ntmps7
    go_wp2_with fail
    refine dn.mono ?_
    rintro e w1 ⟨v, E, X, ux, b1, rfl, O, hl, hin, hb1, OX, B⟩
    obtain ⟨g, cp, hv⟩ := O.len
    subst hv
    obtain ⟨xa, xn, xc, rfl⟩ : ∃ ua un uc, ux = .slice ua un uc := by obtain ⟨c, e, _⟩ := OX.shape; exact ⟨_, _, _, e⟩
    have BA := (Below.refl w1.heap.size w1).alloc (Nat.le_refl _) (.cells #[.int .i64 X.id.1, .int .i64 X.id.2, .int .i64 X.bal, .int .i64 X.st, .int .i64 X.k, .int .i64 X.key, .int .i64 X.v, .int .i64 X.seq, .slice xa xn xc] 30)
    have C2 := Lib.hid (show BxE (w1.alloc (.cells #[.int .i64 X.id.1, .int .i64 X.id.2, .int .i64 X.bal, .int .i64 X.st, .int .i64 X.k, .int .i64 X.key, .int .i64 X.v, .int .i64 X.seq, .slice xa xn xc] 30)) w1.heap.size X (.slice xa xn xc) from heap_alloc_new _ _)
    have O2 := Lib.hid (O.up BA).read
    have I2 := Lib.hid (OX.up BA OX.lt).read
    have D := Lib.hid (bstep B BA)
    have S2 := Lib.hid (hS.out.up D.out)
    have hin := Lib.hid hin
    clear BA B O OX dn hS
    unfold env
    go_upto_region 4 with fail
    obtain ⟨cb, hx2⟩ : ∃ c, Hid (w1.heap.size = c) := ⟨_, Lib.hid rfl⟩
    rw [hx2.out] at C2 ⊢
    generalize w1.alloc (.cells #[.int .i64 X.id.1, .int .i64 X.id.2, .int .i64 X.bal, .int .i64 X.st, .int .i64 X.k, .int .i64 X.key, .int .i64 X.v, .int .i64 X.seq, .slice xa xn xc] 30) = w2 at C2 O2 I2 D S2 ⊢
    clear hx2
    have iv := ifix_any a0 a1 _ (.slice xa xn xc) E X w2 O2.out I2.out hin.out (fun W hb => S2.out.up hb)
    have sv := fun W (hb : Below w2.heap.size w2 W) => sfix_any _ (.slice xa xn xc) E X W (O2.out.up hb (Nat.le_refl _)) (I2.out.up hb (Nat.le_refl _))
    obtain ⟨⟨N, q⟩, hR⟩ : ∃ r, Hid (fixR E X = r) := ⟨_, Lib.hid rfl⟩
    unfold TkZ at iv
    unfold StkP at sv
    rw [hR.out] at iv sv
    dsimp only at iv sv
    unfold env at iv sv
    obtain ⟨n, hn⟩ : ∃ n, Hid (E.length = n) := ⟨_, Lib.hid rfl⟩
    rw [hn.out] at iv sv O2 hl ⊢
    have hm12 : N.length ≤ 12 := by have := fixR_len E X; rw [hR.out] at this; exact this
    obtain ⟨m, hm⟩ : ∃ m, Hid (N.length = m) := ⟨_, Lib.hid rfl⟩
    obtain ⟨⟨b0, b1, b2, b3, b4, b5, b6, b7, b8⟩, bl⟩ := C2.out.cells
    go_wp2_with fail
    refine iv.mono ?_
    rintro e w3 ⟨⟨v5, rfl, L5⟩, B⟩
    obtain ⟨g5, c5, hv5, _⟩ := L5.shape
    subst hv5
    have L5 := Lib.hid L5.read
    have F := Lib.hid B
    have C3 := Lib.hid (C2.out.up F.out)
    rw [hm.out] at L5 hm12 ⊢
    clear iv B b0 b1 b2 b3 b4 b5 b6 b7 b8 bl C2
    obtain ⟨⟨b0, b1, b2, b3, b4, b5, b6, b7, b8⟩, bl⟩ := C3.out.cells
    go_wp2_with fail
    refine (sv _ F.out).mono ?_
    rintro e w5 ⟨v6, rfl, O6, B⟩
    obtain ⟨g6, c6, hv6⟩ := O6.len
    subst hv6
    have L6 := Lib.hid O6.read
    rw [hm.out] at L6 ⊢
    replace L5 := Lib.hid (L5.out.up B (Nat.le_refl _))
    replace C3 := Lib.hid (C3.out.up B)
    replace F := Lib.hid (bstep F.out B)
    clear sv B O6 b0 b1 b2 b3 b4 b5 b6 b7 b8 bl
    have sm := fun W (hb : Below w5.heap.size w5 W) => smL_any _ _ N W (L5.out.up hb (Nat.le_refl _)) (L6.out.up hb (Nat.le_refl _))
    go_wp2_with fail
    refine (sm _ (Below.refl _ _)).mono ?_
    rintro e w8 ⟨rfl, B⟩
    have K7 := Lib.hid B
    clear B
    cases q
    · go_wp2_with fail
      refine (sm _ K7.out).mono ?_
      rintro e w10 ⟨rfl, B⟩
      replace K7 := Lib.hid (bstep K7.out B)
      have D9 := Lib.hid (bstep D.out (bstep F.out K7.out))
      clear B
      go_wp2_with fail
      go_ret
      exact ⟨rfl, D9.out⟩
    · clear sm
      have hq := Lib.hid (show (fixR E X).2 = true by rw [hR.out])
      have hN := Lib.hid (show (fixR E X).1 = N by rw [hR.out])
      replace L5 := Lib.hid (L5.out.up K7.out (Nat.le_refl _))
      replace C3 := Lib.hid (C3.out.up K7.out)
      replace F := Lib.hid (bstep F.out K7.out)
      have O8 := Lib.hid (O2.out.up F.out (Nat.le_refl _))
      have I8 := Lib.hid (I2.out.up F.out (Nat.le_refl _))
      have S8 := Lib.hid (S2.out.up F.out)
      have D8 := Lib.hid (bstep D.out F.out)
      clear L6 F K7 O2 I2 S2 D hR
      have hT2 := fix_stay hq.out
      have hT1 := fix_seq hq.out
      rw [hN.out] at hT1 hT2
      have hb0 := (enB_of (fix_is hq.out).2.1).2.1
      obtain ⟨zb, hzb⟩ : ∃ z, Hid (X.seq + 1 = z) := ⟨_, Lib.hid rfl⟩
      rw [hzb.out] at hT1
      obtain ⟨Y, hY⟩ : ∃ Y : En, Hid ({ X with seq := zb } = Y) := ⟨_, Lib.hid rfl⟩
      rw [hY.out] at hT1
      have hYi : Hid (inR Y.id) := Lib.hid (by rw [← hY.out]; exact hin.out)
      have hYd : Hid (Y.deps = X.deps) := Lib.hid (by rw [← hY.out])
      clear hq hN O8
      have hT1 := Lib.hid hT1
      have hT2 := Lib.hid hT2
      have iy := ifix_any a0 a1 _ (.slice xa xn xc) N X w8 L5.out (I8.out) hin.out (fun W hb => S8.out.up hb)
      unfold TkZ at iy
      rw [hT2.out] at iy
      dsimp only at iy
      unfold env at iy
      obtain ⟨⟨x0, x1, x2, x3, x4, x5, x6, x7, x8⟩, xl⟩ := C3.out.cells
      go_wp2_with fail
      refine iy.mono ?_
      rintro e w9 ⟨⟨v7, rfl, L7⟩, B⟩
      obtain ⟨g7, c7, hv7, _⟩ := L7.shape
      subst hv7
      have L7 := Lib.hid L7.read
      clear x0 x1 x2 x3 x4 x5 x6 x7 x8 xl iy
      replace L5 := Lib.hid (L5.out.up B (Nat.le_refl _))
      replace I8 := Lib.hid (I8.out.up B (Nat.le_refl _))
      replace S8 := Lib.hid (S8.out.up B)
      replace D8 := Lib.hid (bstep D8.out B)
      replace C3 := Lib.hid (C3.out.up B)
      clear B
      have BA9 := (Below.refl w9.heap.size w9).alloc (Nat.le_refl _) (.cells #[.int .i64 X.id.1, .int .i64 X.id.2, .int .i64 X.bal, .int .i64 X.st, .int .i64 X.k, .int .i64 X.key, .int .i64 X.v, .int .i64 X.seq, .slice xa xn xc] 30)
      have X9 := Lib.hid (show BxE (w9.alloc (.cells #[.int .i64 X.id.1, .int .i64 X.id.2, .int .i64 X.bal, .int .i64 X.st, .int .i64 X.k, .int .i64 X.key, .int .i64 X.v, .int .i64 X.seq, .slice xa xn xc] 30)) w9.heap.size X (.slice xa xn xc) from heap_alloc_new _ _)
      have hcb := C3.out.cells.2
      have C9 := Lib.hid (C3.out.up BA9)
      have E9 := Lib.hid BA9
      obtain ⟨⟨b0, b1, b2, b3, b4, b5, b6, b7, b8⟩, bl⟩ := C3.out.cells
      go_upto_region 10 with fail
      clear b0 b1 b2 b3 b4 b5 b6 b7 b8 bl BA9 C3
      obtain ⟨xb, hxb⟩ : ∃ c, Hid (w9.heap.size = c) := ⟨_, Lib.hid rfl⟩
      rw [hxb.out] at X9 ⊢
      have hxb2 := hxb.out
      obtain ⟨w10, hw10⟩ : ∃ q, q = w9.alloc (.cells #[.int .i64 X.id.1, .int .i64 X.id.2, .int .i64 X.bal, .int .i64 X.st, .int .i64 X.k, .int .i64 X.key, .int .i64 X.v, .int .i64 X.seq, .slice xa xn xc] 30) := ⟨_, rfl⟩
      rw [← hw10] at X9 C9 E9 ⊢
      clear hw10
      obtain ⟨z0, hz0⟩ : ∃ z, Hid (X.seq = z) := ⟨_, Lib.hid rfl⟩
      obtain ⟨⟨b0, b1, b2, b3, b4, b5, b6, b7, b8⟩, bl⟩ := C9.out.cells
      obtain ⟨⟨x0, x1, x2, x3, x4, x5, x6, x7, x8⟩, xl⟩ := X9.out.cells
      rw [hz0.out] at b7
      rw [hz0.out] at hb0 hzb
      obtain ⟨hb1, hb2⟩ := hb0
      have xf := X9.out.free 7
      go_upto_region 11 with fail
      rw [hzb.out]
      clear b0 b1 b2 b3 b4 b5 b6 b7 b8 bl x0 x1 x2 x3 x4 x5 x6 x7 x8 xl xf hz0 hzb
      have G := Lib.hid (X9.out.s7 zb)
      have C1 := Lib.hid (C9.out.so (b := xb) (i := 7) (x := .int .i64 zb) (by have := C9.out.cells.2; omega))
      have E1 := Lib.hid (E9.out.setCell (p := ⟨xb, 7, none⟩) (by show w9.heap.size ≤ xb; omega) (.int .i64 zb))
      rw [hY.out] at G
      clear X9 C9 E9
      generalize w10.setCell ⟨xb, 7, none⟩ (.int .i64 zb) = w11 at G C1 E1 ⊢
      replace L7 := Lib.hid (L7.out.up E1.out (Nat.le_refl _))
      replace L5 := Lib.hid (L5.out.up E1.out (Nat.le_refl _))
      replace I8 := Lib.hid (I8.out.up E1.out (Nat.le_refl _))
      replace S8 := Lib.hid (S8.out.up E1.out)
      replace D8 := Lib.hid (bstep D8.out E1.out)
      clear C1 E1 hY
      have iy := ifix_any a0 a1 _ (.slice xa xn xc) N Y w11 L5.out (by rw [hYd.out]; exact I8.out) hYi.out (fun W hb => S8.out.up hb)
      unfold TkZ at iy
      rw [hT1.out] at iy
      dsimp only at iy
      unfold env at iy
      obtain ⟨⟨x0, x1, x2, x3, x4, x5, x6, x7, x8⟩, xl⟩ := G.out.cells
      go_wp2_with fail
      refine iy.mono ?_
      rintro e w12 ⟨⟨v9, rfl, L9⟩, B⟩
      obtain ⟨g9, c9, hv9, _⟩ := L9.shape
      subst hv9
      have L9 := Lib.hid L9.read
      clear x0 x1 x2 x3 x4 x5 x6 x7 x8 xl iy
      replace L5 := Lib.hid (L5.out.up B (Nat.le_refl _))
      replace D8 := Lib.hid (bstep D8.out B)
      replace L7 := Lib.hid (L7.out.up B (Nat.le_refl _))
      clear B
      rw [hm.out] at L7 ⊢
      have sl := smL_any _ _ N w12 L7.out L5.out
      clear L9
      go_wp2_with fail
      refine sl.mono ?_
      rintro e w13 ⟨rfl, B⟩
      have D9 := Lib.hid (bstep D8.out B)
      clear B sl
      go_wp2_with fail
      go_ret
      exact ⟨by first | rfl | simp, D9.out⟩
end Go.Proofs.YtiolhjjkjmepcaaGreatDoor
