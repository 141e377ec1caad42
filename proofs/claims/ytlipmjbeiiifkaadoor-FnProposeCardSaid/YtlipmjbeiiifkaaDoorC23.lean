/- Texts laid together. -/
import Derived.Test.YtlipmjbeiiifkaaDoorC12
import Derived.Test.YtlipmjbeiiifkaaDoorC07
import Derived.Test.YtlipmjbeiiifkaaDoorC19
import Derived.Test.YtlipmjbeiiifkaaDoorC03
import Derived.Deep.RegionWith
import Derived.Deep.DeepCutAuto
import Derived.Maps.AppendAt
/- The model's l11Put and LogPut. -/
namespace Go.Proofs.YtlipmjbeiiifkaaDoor
open Go.RowKit
set_option linter.unusedVariables false

theorem ER.wide {w : World} {B B' : Nat} {v : Value} {L : EL} (h : ER w B v L) (hB : B' ≤ B) : ER w B' v L := by
  refine ⟨⟨h.row.1, ?_⟩, h.nn, fun x hx => ?_⟩
  · rcases h.row.2 with hn | ⟨g, cap, cur, rfl, hb, rest⟩
    · exact .inl hn
    · exact .inr ⟨g, cap, cur, rfl, Nat.le_trans hB hb, rest⟩
  · obtain ⟨b, h1, h2, h3⟩ := h.deps x hx
    exact ⟨b, Nat.le_trans hB h1, h2, h3⟩
/-- Where l11Put is: the entry's box, the entries so far. -/
structure PtE (w wr : World) (X : En) (u v : Value) (L : EL) : Prop where
  er : ER wr (w.heap.size + 1) v L
  bx : wr.heap[w.heap.size]? = some (.cells #[.int .i64 X.id.1, .int .i64 X.id.2, .int .i64 X.bal, .int .i64 X.st, .int .i64 X.k, .int .i64 X.key, .int .i64 X.v, .int .i64 X.seq, u] 32 (0, 0))
  kp : Below w.heap.size w wr
section
variable {w wr w' : World} {X : En} {u v : Value} {L : EL}
theorem PtE.up (h : PtE w wr X u v L) (hb : Below wr.heap.size wr w') : PtE w w' X u v L := ⟨h.er.up hb, (hb.block _ (lt_of_heap h.bx)).trans h.bx, bstep h.kp hb⟩
theorem PtE.fresh (h : PtE w wr X u v L) {b : Nat} {x : En × Value} (hb : wr.heap.size ≤ b) (hO : OwnP w' b x.2 x.1.deps) : ∃ b, w.heap.size + 1 ≤ b ∧ v.ownBlock ≠ some b ∧ OwnP w' b x.2 x.1.deps :=
  ⟨b, by have := lt_of_heap h.bx; omega, fun e => by have := (rowT h.er.row e).1.lt; omega, hO⟩
theorem PtE.next (h : PtE w wr X u v L) {o : Obj} {v' : Value} {x : En × Value} {m : Nat} {A : List En} (hown : w'.ownsRow (w.heap.size + 1) 32 9 v' (L.length + 1) (flatE L ++ ecell x)) (hg : (wr.alloc o).grownBy w' (Value.ownBlock v)) (hn : v' ≠ .slice none 0 0)
    (hat : v'.ownBlock = v.ownBlock ∨ v'.ownBlock = some (wr.heap.size + 1)) (hx : ∃ b, w.heap.size + 1 ≤ b ∧ v.ownBlock ≠ some b ∧ OwnP wr b x.2 x.1.deps) (hA : L.map Prod.fst = A) (hm : L.length = m) :
    ∃ L', PtE w w' X u v' L' ∧ L'.map Prod.fst = A ++ [x.1] ∧ L'.length = m + 1 := by
  have hl := lt_of_heap h.bx
  refine ⟨L ++ [x], ⟨h.er.put hown hg hn hat hx, ?_, h.kp.trans ((h.er.grown hg hl).mono (Nat.le_succ _))⟩, by rw [List.map_append, hA]; rfl, by rw [List.length_append, hm]; rfl⟩
  refine (hg.block _ (by simp; omega) fun e => ?_).trans ((Below.heap_alloc _ _ _ hl).trans h.bx)
  have := (rowT h.er.row e.symm).2
  omega
end
/-- One step, by what it finds. -/
theorem step_he {X x : En} (O : List En) (hid : x.id = X.id) : stpE X (O, false) x = (O ++ [X], true) := by unfold stpE; simp [hid, ltP_irr]
theorem step_hn {X x : En} (O : List En) (hid : ¬ x.id = X.id) (hlt : ltP x.id X.id = false) : stpE X (O, false) x = (O ++ [X] ++ [x], true) := by unfold stpE; simp [hid, hlt]
theorem step_m {X x : En} (O : List En) (hlt : ltP x.id X.id = true) : stpE X (O, false) x = (O ++ [x], false) := by
  have hid : ¬ x.id = X.id := fun e => by rw [e, ltP_irr] at hlt; cases hlt
  unfold stpE; simp [hid, hlt]
theorem step_de {X x : En} (O : List En) (hid : x.id = X.id) : stpE X (O, true) x = (O, true) := by unfold stpE; simp [hid]
theorem step_dn {X x : En} (O : List En) (hid : ¬ x.id = X.id) : stpE X (O, true) x = (O ++ [x], true) := by unfold stpE; simp [hid]
theorem pid_ne {a b : Pid} (h : ¬ a = b) : (¬ a.1 = b.1) ∨ (a.1 = b.1 ∧ ¬ a.2 = b.2) := by
  by_cases h1 : a.1 = b.1
  · exact .inr ⟨h1, fun h2 => h (Prod.ext h1 h2)⟩
  · exact .inl h1

set_option maxRecDepth 100000 in
set_option maxHeartbeats 16000000 in
theorem sput11_at (b off ca : Nat) (E : List En) (U : Nat → Value) (X : En) (u : Value) (w : World) (hm : E.length ≤ 12) (h : EnsAt w b off E U) (hu : Ids w u X.deps) :
    Calls Tryd.prog 38 #[.slice (some ⟨b, off, none⟩) E.length ca, env X u] w fun e w' => (∃ v, e = .returned v ∧ EnO w' w.heap.size v (endE X (runE X E))) ∧ Below w.heap.size w w' := by
  obtain ⟨i0, hi, hz0, hz1, hz2⟩ := info_parts info_en
  obtain ⟨ua0, un0, uc0, rfl⟩ : ∃ ua un uc, u = .slice ua un uc := by obtain ⟨a, c, e, _⟩ := hu; exact ⟨a, _, c, e⟩
  have h := Lib.hid h
  have uat := fun W (hb : Below w.heap.size w W) => hu.up hb (Nat.le_refl _)
  obtain ⟨n, hn⟩ : ∃ n, Hid (E.length = n) := ⟨_, Lib.hid rfl⟩
  rw [hn.out] at hm ⊢
  have P0 : Hid (PtE w ((w.alloc (.cells #[.int .i64 X.id.1, .int .i64 X.id.2, .int .i64 X.bal, .int .i64 X.st, .int .i64 X.k, .int .i64 X.key, .int .i64 X.v, .int .i64 X.seq, .slice ua0 un0 uc0] 32)).alloc (.cells #[] 32)) X (.slice ua0 un0 uc0) (.slice (some ⟨w.heap.size + 1, 0, none⟩) 0 0) []) := Lib.hid
    ⟨by have := er_new (w.alloc (.cells #[.int .i64 X.id.1, .int .i64 X.id.2, .int .i64 X.bal, .int .i64 X.st, .int .i64 X.k, .int .i64 X.key, .int .i64 X.v, .int .i64 X.seq, .slice ua0 un0 uc0] 32)) (w.heap.size + 1) (by simp); simpa using this, (Below.heap_alloc _ _ _ (by simp)).trans (heap_alloc_new w _), ((Below.refl _ _).alloc (Nat.le_refl _) _).alloc (by simp) _⟩
  clear hu
  unfold env
  go_enter Tryd.func38, Tryd.ntmps38
  go_wp2_with fail
  go_loopw [5, 6, 7] (fun vo d i wr => ∃ (k : Nat) (LL : EL), k ≤ n ∧ i = .int .i64 k ∧ d = .bool (runE X (E.take k)).2 ∧ Hid (LL.map Prod.fst = (runE X (E.take k)).1) ∧ Hid (PtE w wr X (.slice ua0 un0 uc0) vo LL)) (fun _ _ i _ => n - (intOf i).toNat)
  case atStart => exact ⟨0, [], Nat.zero_le _, rfl, rfl, Lib.hid rfl, P0⟩
  case round =>
    clear P0
    obtain ⟨k, LL, hk, rfl, rfl, hM, P⟩ := hrel
    have hLl : LL.length ≤ 24 := by
      have h1 := runE_len X (E.take k) ([], false)
      have h2 : LL.length = (runE X (E.take k)).1.length := by rw [← hM.out, List.length_map]
      have h3 : (E.take k).length ≤ 12 := by rw [List.length_take, hn.out]; omega
      have h4 : (runE X (E.take k)).1.length ≤ 0 + 2 * (E.take k).length := h1
      omega
    by_cases hlt : k < n
    · have hkE : k < E.length := by rw [hn.out]; exact hlt
      obtain ⟨x, hx⟩ : ∃ x, Hid (E.getD k en0 = x) := ⟨_, Lib.hid rfl⟩
      obtain ⟨ua, un, uc, hU⟩ : ∃ ua un uc, U k = .slice ua un uc := by obtain ⟨a, c, e, _⟩ := (h.out.at_ k hkE).ids; exact ⟨a, _, c, e⟩
      have xat : ∀ W, Below w.heap.size w W → EnAt W b (off + k * 9) x (.slice ua un uc) := fun W hb => by
        have := (h.out.up hb (Nat.le_refl _)).at_ k hkE
        rw [hx.out, hU] at this; exact this
      have hbl : ∀ W, Below w.heap.size w W → b < W.heap.size := fun W hb => (h.out.up hb (Nat.le_refl _)).lt
      obtain ⟨⟨O, q⟩, hr⟩ : ∃ r, Hid (runE X (E.take k) = r) := ⟨_, Lib.hid rfl⟩
      rw [hr.out] at hM ⊢
      dsimp only at hM ⊢
      clear h hU
      cases q
      · by_cases hlt : ltP x.id X.id = true
        · have sl := slt_any x.id.1 x.id.2 X.id.1 X.id.2
          rw [show ltB x.id.1 x.id.2 X.id.1 X.id.2 = true from hlt] at sl
          go_upto_region 6 with fail
          go_cut [27] from 15 to 26 (fun s wx => s = .bool false ∧ Hid (PtE w wx X (.slice ua0 un0 uc0) u5 LL))
          case first =>
            obtain ⟨⟨y0, y1, y2, y3, y4, y5, y6, y7, y8⟩, _, ys⟩ := nine_all P.out.bx
            obtain ⟨q0, q1, q2, q3, q4, q5, q6, q7, q8, qi⟩ := xat _ P.out.kp
            have qb := hbl _ P.out.kp
            go_region_with (go_at_call 68; (with_reducible refine (sl _).mono ?_); rintro e wy ⟨rfl, B⟩; have P2 := Lib.hid (PtE.up (PtE.up P.out (Below.drew (Below.refl _ _))) B); clear B)
            all_goals
              go_wp2_with fail
              go_meet
              exact ⟨rfl, P2⟩
          case rest =>
            obtain ⟨rfl, P2⟩ := hcut
            clear P sl
            have P := P2
            clear P2
            obtain ⟨⟨y0, y1, y2, y3, y4, y5, y6, y7, y8⟩, _, ys⟩ := nine_all P.out.bx
            obtain ⟨q0, q1, q2, q3, q4, q5, q6, q7, q8, qi⟩ := xat _ P.out.kp
            have qb := hbl _ P.out.kp
            have F := Lib.hid (step_m O hlt)
            have hid : ¬ x.id = X.id := fun e => by rw [e, ltP_irr] at hlt; cases hlt
            rcases pid_ne hid with hne | ⟨hne0, hne⟩
            · go_wp2_with fail
              go_quiet (fail)
              replace P := Lib.hid (P.out.up (w' := wc.drewN nq) (bdrewN (Below.refl _ _) _))
              generalize wc.drewN nq = wz3 at P ⊢
              clear y0 y1 y2 y3 y4 y5 y6 y7 y8 ys
              clear q0 q1 q2 q3 q4 q5 q6 q7 q8 qi qb
              clear hne
              obtain ⟨⟨y0, y1, y2, y3, y4, y5, y6, y7, y8⟩, _, ys⟩ := nine_all P.out.bx
              obtain ⟨q0, q1, q2, q3, q4, q5, q6, q7, q8, qi⟩ := xat _ P.out.kp
              have qb := hbl _ P.out.kp
              go_wp2_with fail
              refine (copy_at x.id.1 x.id.2 x.bal x.st x.k x.key x.v x.seq x.deps (.slice ua un uc) _ qi).mono ?_
              rintro e wc2 ⟨⟨cu2, rfl, hrow⟩, B⟩
              have hDl : x.deps.length ≤ 2000000 := by obtain ⟨_, _, _, _, hh, _⟩ := qi; exact hh
              obtain ⟨b2, hb2, hO⟩ := hrow.own hDl
              obtain ⟨cc2, rfl, _⟩ := hO.shape
              have hx2 := Lib.hid (P.out.fresh (x := (x, .slice (some ⟨b2, 0, none⟩) x.deps.length cc2)) hb2 hO)
              replace P := Lib.hid (P.out.up B)
              have hPs := P.out.kp.size
              have hPr := Lib.hid P.out.er.row
              obtain ⟨m, hm'⟩ : ∃ m, Hid (LL.length = m) := ⟨_, Lib.hid rfl⟩
              rw [hm'.out] at hPr hLl
              clear hrow hO B
              clear y0 y1 y2 y3 y4 y5 y6 y7 y8 ys
              clear q0 q1 q2 q3 q4 q5 q6 q7 q8 qi qb
              go_wp2_with (at_builtin; refine wpList_append_own_at _ rfl _ _ 23 rfl (w.heap.size + 1) 32 i0 (.agg #[.int .i64 0, .int .i64 0, .int .i64 0, .int .i64 0, .int .i64 0, .int .i64 0, .int .i64 0, .int .i64 0, .slice none 0 0]) 9 88 Tryd.underlying23 hi hz0 hz1 hz2 rfl (by decide) _ m (flatE LL) rfl (hPr.out.alloc _) ⟨wc2.heap.size, 0, none⟩ 1 1 [.int .i64 x.id.1, .int .i64 x.id.2, .int .i64 x.bal, .int .i64 x.st, .int .i64 x.k, .int .i64 x.key, .int .i64 x.v, .int .i64 x.seq, .slice (some ⟨b2, 0, none⟩) x.deps.length cc2] rfl rfl ?fc1 ?fc2 ?fc3 ?fc4 ?fc5 ?_)
              case fc1 => exact nine_srcE _ _ _ _ _ _ _ _ _ _ _ _ (by simp)
              case fc2 => exact nine_oneE _ _ _ _ _ _ _ _ _ _ _
              case fc3 => unfold maxLen; omega
              case fc4 => omega
              case fc5 => first | omega | (simp; omega)
              intro v' w' hown' hgrow hnil hat
              obtain ⟨LL2, P5, hM5, hl5⟩ := P.out.next (x := (x, .slice (some ⟨b2, 0, none⟩) x.deps.length cc2)) (by rw [hm'.out]; exact hown') hgrow (fun e => hnil e) (hat.imp (fun h => h) (fun h => by simpa using h)) hx2.out hM.out hm'.out
              clear hown' hgrow hnil hat hPr hPs hx2 hM hb2 hDl hm' P
              have P := Lib.hid P5
              have hM := Lib.hid hM5
              replace hLl : LL2.length ≤ 25 := by omega
              clear P5 hM5 hl5
              go_wp2_with fail
              refine ⟨⟨k + 1, LL2, by omega, by go_num, by rw [runE_next X hkE, hx.out, hr.out, F.out], Lib.hid (by rw [runE_next X hkE, hx.out, hr.out, F.out]; exact hM.out), P⟩, ?_⟩
              simp [intOf]; omega
            · go_wp2_with fail
              go_quiet (fail)
              replace P := Lib.hid (P.out.up (w' := wc.drewN nq) (bdrewN (Below.refl _ _) _))
              generalize wc.drewN nq = wz3 at P ⊢
              clear y0 y1 y2 y3 y4 y5 y6 y7 y8 ys
              clear q0 q1 q2 q3 q4 q5 q6 q7 q8 qi qb
              clear hne hne0
              obtain ⟨⟨y0, y1, y2, y3, y4, y5, y6, y7, y8⟩, _, ys⟩ := nine_all P.out.bx
              obtain ⟨q0, q1, q2, q3, q4, q5, q6, q7, q8, qi⟩ := xat _ P.out.kp
              have qb := hbl _ P.out.kp
              go_wp2_with fail
              refine (copy_at x.id.1 x.id.2 x.bal x.st x.k x.key x.v x.seq x.deps (.slice ua un uc) _ qi).mono ?_
              rintro e wc2 ⟨⟨cu2, rfl, hrow⟩, B⟩
              have hDl : x.deps.length ≤ 2000000 := by obtain ⟨_, _, _, _, hh, _⟩ := qi; exact hh
              obtain ⟨b2, hb2, hO⟩ := hrow.own hDl
              obtain ⟨cc2, rfl, _⟩ := hO.shape
              have hx2 := Lib.hid (P.out.fresh (x := (x, .slice (some ⟨b2, 0, none⟩) x.deps.length cc2)) hb2 hO)
              replace P := Lib.hid (P.out.up B)
              have hPs := P.out.kp.size
              have hPr := Lib.hid P.out.er.row
              obtain ⟨m, hm'⟩ : ∃ m, Hid (LL.length = m) := ⟨_, Lib.hid rfl⟩
              rw [hm'.out] at hPr hLl
              clear hrow hO B
              clear y0 y1 y2 y3 y4 y5 y6 y7 y8 ys
              clear q0 q1 q2 q3 q4 q5 q6 q7 q8 qi qb
              go_wp2_with (at_builtin; refine wpList_append_own_at _ rfl _ _ 23 rfl (w.heap.size + 1) 32 i0 (.agg #[.int .i64 0, .int .i64 0, .int .i64 0, .int .i64 0, .int .i64 0, .int .i64 0, .int .i64 0, .int .i64 0, .slice none 0 0]) 9 88 Tryd.underlying23 hi hz0 hz1 hz2 rfl (by decide) _ m (flatE LL) rfl (hPr.out.alloc _) ⟨wc2.heap.size, 0, none⟩ 1 1 [.int .i64 x.id.1, .int .i64 x.id.2, .int .i64 x.bal, .int .i64 x.st, .int .i64 x.k, .int .i64 x.key, .int .i64 x.v, .int .i64 x.seq, .slice (some ⟨b2, 0, none⟩) x.deps.length cc2] rfl rfl ?fc1 ?fc2 ?fc3 ?fc4 ?fc5 ?_)
              case fc1 => exact nine_srcE _ _ _ _ _ _ _ _ _ _ _ _ (by simp)
              case fc2 => exact nine_oneE _ _ _ _ _ _ _ _ _ _ _
              case fc3 => unfold maxLen; omega
              case fc4 => omega
              case fc5 => first | omega | (simp; omega)
              intro v' w' hown' hgrow hnil hat
              obtain ⟨LL2, P5, hM5, hl5⟩ := P.out.next (x := (x, .slice (some ⟨b2, 0, none⟩) x.deps.length cc2)) (by rw [hm'.out]; exact hown') hgrow (fun e => hnil e) (hat.imp (fun h => h) (fun h => by simpa using h)) hx2.out hM.out hm'.out
              clear hown' hgrow hnil hat hPr hPs hx2 hM hb2 hDl hm' P
              have P := Lib.hid P5
              have hM := Lib.hid hM5
              replace hLl : LL2.length ≤ 25 := by omega
              clear P5 hM5 hl5
              go_wp2_with fail
              refine ⟨⟨k + 1, LL2, by omega, by go_num, by rw [runE_next X hkE, hx.out, hr.out, F.out], Lib.hid (by rw [runE_next X hkE, hx.out, hr.out, F.out]; exact hM.out), P⟩, ?_⟩
              simp [intOf]; omega
        · have hlt : ltP x.id X.id = false := by simpa using hlt
          have sl := slt_any x.id.1 x.id.2 X.id.1 X.id.2
          rw [show ltB x.id.1 x.id.2 X.id.1 X.id.2 = false from hlt] at sl
          go_upto_region 6 with fail
          go_cut [27] from 15 to 26 (fun s wx => s = .bool true ∧ Hid (PtE w wx X (.slice ua0 un0 uc0) u5 LL))
          case first =>
            obtain ⟨⟨y0, y1, y2, y3, y4, y5, y6, y7, y8⟩, _, ys⟩ := nine_all P.out.bx
            obtain ⟨q0, q1, q2, q3, q4, q5, q6, q7, q8, qi⟩ := xat _ P.out.kp
            have qb := hbl _ P.out.kp
            go_region_with (go_at_call 68; (with_reducible refine (sl _).mono ?_); rintro e wy ⟨rfl, B⟩; have P2 := Lib.hid (PtE.up (PtE.up P.out (Below.drew (Below.refl _ _))) B); clear B)
            all_goals
              go_wp2_with fail
              go_meet
              exact ⟨rfl, P2⟩
          case rest =>
            obtain ⟨rfl, P2⟩ := hcut
            clear P sl
            have P := P2
            clear P2
            have ui := uat _ P.out.kp
            obtain ⟨⟨y0, y1, y2, y3, y4, y5, y6, y7, y8⟩, _, ys⟩ := nine_all P.out.bx
            go_wp2_with fail
            refine (copy_at X.id.1 X.id.2 X.bal X.st X.k X.key X.v X.seq X.deps (.slice ua0 un0 uc0) _ ui).mono ?_
            rintro e wc3 ⟨⟨cu3, rfl, hrow⟩, B⟩
            have hDl : X.deps.length ≤ 2000000 := by obtain ⟨_, _, _, _, hh, _⟩ := ui; exact hh
            obtain ⟨b3, hb3, hO⟩ := hrow.own hDl
            obtain ⟨cc3, rfl, _⟩ := hO.shape
            have hx3 := Lib.hid (P.out.fresh (x := (X, .slice (some ⟨b3, 0, none⟩) X.deps.length cc3)) hb3 hO)
            replace P := Lib.hid (P.out.up B)
            have hPs := P.out.kp.size
            have hPr := Lib.hid P.out.er.row
            obtain ⟨m, hm'⟩ : ∃ m, Hid (LL.length = m) := ⟨_, Lib.hid rfl⟩
            rw [hm'.out] at hPr hLl
            clear hrow hO B
            clear y0 y1 y2 y3 y4 y5 y6 y7 y8 ys
            clear ui
            go_wp2_with (at_builtin; refine wpList_append_own_at _ rfl _ _ 23 rfl (w.heap.size + 1) 32 i0 (.agg #[.int .i64 0, .int .i64 0, .int .i64 0, .int .i64 0, .int .i64 0, .int .i64 0, .int .i64 0, .int .i64 0, .slice none 0 0]) 9 88 Tryd.underlying23 hi hz0 hz1 hz2 rfl (by decide) _ m (flatE LL) rfl (hPr.out.alloc _) ⟨wc3.heap.size, 0, none⟩ 1 1 [.int .i64 X.id.1, .int .i64 X.id.2, .int .i64 X.bal, .int .i64 X.st, .int .i64 X.k, .int .i64 X.key, .int .i64 X.v, .int .i64 X.seq, .slice (some ⟨b3, 0, none⟩) X.deps.length cc3] rfl rfl ?fc1 ?fc2 ?fc3 ?fc4 ?fc5 ?_)
            case fc1 => exact nine_srcE _ _ _ _ _ _ _ _ _ _ _ _ (by simp)
            case fc2 => exact nine_oneE _ _ _ _ _ _ _ _ _ _ _
            case fc3 => unfold maxLen; omega
            case fc4 => omega
            case fc5 => first | omega | (simp; omega)
            intro v' w' hown' hgrow hnil hat
            obtain ⟨LL2, P5, hM5, hl5⟩ := P.out.next (x := (X, .slice (some ⟨b3, 0, none⟩) X.deps.length cc3)) (by rw [hm'.out]; exact hown') hgrow (fun e => hnil e) (hat.imp (fun h => h) (fun h => by simpa using h)) hx3.out hM.out hm'.out
            clear hown' hgrow hnil hat hPr hPs hx3 hM hb3 hDl hm' P
            have P := Lib.hid P5
            have hM := Lib.hid hM5
            replace hLl : LL2.length ≤ 25 := by omega
            clear P5 hM5 hl5
            obtain ⟨⟨y0, y1, y2, y3, y4, y5, y6, y7, y8⟩, _, ys⟩ := nine_all P.out.bx
            obtain ⟨q0, q1, q2, q3, q4, q5, q6, q7, q8, qi⟩ := xat _ P.out.kp
            have qb := hbl _ P.out.kp
            by_cases hid : x.id = X.id
            · have F := Lib.hid (step_he O hid)
              skip
              rw [hid] at q0 q1
              go_wp2_with fail
              go_quiet (fail)
              replace P := Lib.hid (P.out.up (w' := w'.drewN nq) (bdrewN (Below.refl _ _) _))
              generalize w'.drewN nq = wz4 at P ⊢
              clear y0 y1 y2 y3 y4 y5 y6 y7 y8 ys
              clear q0 q1 q2 q3 q4 q5 q6 q7 q8 qi qb
              go_wp2_with fail
              refine ⟨⟨k + 1, LL2, by omega, by go_num, by rw [runE_next X hkE, hx.out, hr.out, F.out], Lib.hid (by rw [runE_next X hkE, hx.out, hr.out, F.out]; exact hM.out), P⟩, ?_⟩
              simp [intOf]; omega
            · have F := Lib.hid (step_hn O hid hlt)
              skip
              rcases pid_ne hid with hne | ⟨hne0, hne⟩
              · go_wp2_with fail
                go_quiet (fail)
                replace P := Lib.hid (P.out.up (w' := w'.drewN nq) (bdrewN (Below.refl _ _) _))
                generalize w'.drewN nq = wz5 at P ⊢
                clear y0 y1 y2 y3 y4 y5 y6 y7 y8 ys
                clear q0 q1 q2 q3 q4 q5 q6 q7 q8 qi qb
                clear hne
                obtain ⟨⟨y0, y1, y2, y3, y4, y5, y6, y7, y8⟩, _, ys⟩ := nine_all P.out.bx
                obtain ⟨q0, q1, q2, q3, q4, q5, q6, q7, q8, qi⟩ := xat _ P.out.kp
                have qb := hbl _ P.out.kp
                go_wp2_with fail
                refine (copy_at x.id.1 x.id.2 x.bal x.st x.k x.key x.v x.seq x.deps (.slice ua un uc) _ qi).mono ?_
                rintro e wc4 ⟨⟨cu4, rfl, hrow⟩, B⟩
                have hDl : x.deps.length ≤ 2000000 := by obtain ⟨_, _, _, _, hh, _⟩ := qi; exact hh
                obtain ⟨b4, hb4, hO⟩ := hrow.own hDl
                obtain ⟨cc4, rfl, _⟩ := hO.shape
                have hx4 := Lib.hid (P.out.fresh (x := (x, .slice (some ⟨b4, 0, none⟩) x.deps.length cc4)) hb4 hO)
                replace P := Lib.hid (P.out.up B)
                have hPs := P.out.kp.size
                have hPr := Lib.hid P.out.er.row
                obtain ⟨m, hm'⟩ : ∃ m, Hid (LL2.length = m) := ⟨_, Lib.hid rfl⟩
                rw [hm'.out] at hPr hLl
                clear hrow hO B
                clear y0 y1 y2 y3 y4 y5 y6 y7 y8 ys
                clear q0 q1 q2 q3 q4 q5 q6 q7 q8 qi qb
                go_wp2_with (at_builtin; refine wpList_append_own_at _ rfl _ _ 23 rfl (w.heap.size + 1) 32 i0 (.agg #[.int .i64 0, .int .i64 0, .int .i64 0, .int .i64 0, .int .i64 0, .int .i64 0, .int .i64 0, .int .i64 0, .slice none 0 0]) 9 88 Tryd.underlying23 hi hz0 hz1 hz2 rfl (by decide) _ m (flatE LL2) rfl (hPr.out.alloc _) ⟨wc4.heap.size, 0, none⟩ 1 1 [.int .i64 x.id.1, .int .i64 x.id.2, .int .i64 x.bal, .int .i64 x.st, .int .i64 x.k, .int .i64 x.key, .int .i64 x.v, .int .i64 x.seq, .slice (some ⟨b4, 0, none⟩) x.deps.length cc4] rfl rfl ?fc1 ?fc2 ?fc3 ?fc4 ?fc5 ?_)
                case fc1 => exact nine_srcE _ _ _ _ _ _ _ _ _ _ _ _ (by simp)
                case fc2 => exact nine_oneE _ _ _ _ _ _ _ _ _ _ _
                case fc3 => unfold maxLen; omega
                case fc4 => omega
                case fc5 => first | omega | (simp; omega)
                intro v' w' hown' hgrow hnil hat
                obtain ⟨LL3, P5, hM5, hl5⟩ := P.out.next (x := (x, .slice (some ⟨b4, 0, none⟩) x.deps.length cc4)) (by rw [hm'.out]; exact hown') hgrow (fun e => hnil e) (hat.imp (fun h => h) (fun h => by simpa using h)) hx4.out hM.out hm'.out
                clear hown' hgrow hnil hat hPr hPs hx4 hM hb4 hDl hm' P
                have P := Lib.hid P5
                have hM := Lib.hid hM5
                replace hLl : LL3.length ≤ 26 := by omega
                clear P5 hM5 hl5
                go_wp2_with fail
                refine ⟨⟨k + 1, LL3, by omega, by go_num, by rw [runE_next X hkE, hx.out, hr.out, F.out], Lib.hid (by rw [runE_next X hkE, hx.out, hr.out, F.out]; exact hM.out), P⟩, ?_⟩
                simp [intOf]; omega
              · go_wp2_with fail
                go_quiet (fail)
                replace P := Lib.hid (P.out.up (w' := w'.drewN nq) (bdrewN (Below.refl _ _) _))
                generalize w'.drewN nq = wz5 at P ⊢
                clear y0 y1 y2 y3 y4 y5 y6 y7 y8 ys
                clear q0 q1 q2 q3 q4 q5 q6 q7 q8 qi qb
                clear hne hne0
                obtain ⟨⟨y0, y1, y2, y3, y4, y5, y6, y7, y8⟩, _, ys⟩ := nine_all P.out.bx
                obtain ⟨q0, q1, q2, q3, q4, q5, q6, q7, q8, qi⟩ := xat _ P.out.kp
                have qb := hbl _ P.out.kp
                go_wp2_with fail
                refine (copy_at x.id.1 x.id.2 x.bal x.st x.k x.key x.v x.seq x.deps (.slice ua un uc) _ qi).mono ?_
                rintro e wc4 ⟨⟨cu4, rfl, hrow⟩, B⟩
                have hDl : x.deps.length ≤ 2000000 := by obtain ⟨_, _, _, _, hh, _⟩ := qi; exact hh
                obtain ⟨b4, hb4, hO⟩ := hrow.own hDl
                obtain ⟨cc4, rfl, _⟩ := hO.shape
                have hx4 := Lib.hid (P.out.fresh (x := (x, .slice (some ⟨b4, 0, none⟩) x.deps.length cc4)) hb4 hO)
                replace P := Lib.hid (P.out.up B)
                have hPs := P.out.kp.size
                have hPr := Lib.hid P.out.er.row
                obtain ⟨m, hm'⟩ : ∃ m, Hid (LL2.length = m) := ⟨_, Lib.hid rfl⟩
                rw [hm'.out] at hPr hLl
                clear hrow hO B
                clear y0 y1 y2 y3 y4 y5 y6 y7 y8 ys
                clear q0 q1 q2 q3 q4 q5 q6 q7 q8 qi qb
                go_wp2_with (at_builtin; refine wpList_append_own_at _ rfl _ _ 23 rfl (w.heap.size + 1) 32 i0 (.agg #[.int .i64 0, .int .i64 0, .int .i64 0, .int .i64 0, .int .i64 0, .int .i64 0, .int .i64 0, .int .i64 0, .slice none 0 0]) 9 88 Tryd.underlying23 hi hz0 hz1 hz2 rfl (by decide) _ m (flatE LL2) rfl (hPr.out.alloc _) ⟨wc4.heap.size, 0, none⟩ 1 1 [.int .i64 x.id.1, .int .i64 x.id.2, .int .i64 x.bal, .int .i64 x.st, .int .i64 x.k, .int .i64 x.key, .int .i64 x.v, .int .i64 x.seq, .slice (some ⟨b4, 0, none⟩) x.deps.length cc4] rfl rfl ?fc1 ?fc2 ?fc3 ?fc4 ?fc5 ?_)
                case fc1 => exact nine_srcE _ _ _ _ _ _ _ _ _ _ _ _ (by simp)
                case fc2 => exact nine_oneE _ _ _ _ _ _ _ _ _ _ _
                case fc3 => unfold maxLen; omega
                case fc4 => omega
                case fc5 => first | omega | (simp; omega)
                intro v' w' hown' hgrow hnil hat
                obtain ⟨LL3, P5, hM5, hl5⟩ := P.out.next (x := (x, .slice (some ⟨b4, 0, none⟩) x.deps.length cc4)) (by rw [hm'.out]; exact hown') hgrow (fun e => hnil e) (hat.imp (fun h => h) (fun h => by simpa using h)) hx4.out hM.out hm'.out
                clear hown' hgrow hnil hat hPr hPs hx4 hM hb4 hDl hm' P
                have P := Lib.hid P5
                have hM := Lib.hid hM5
                replace hLl : LL3.length ≤ 26 := by omega
                clear P5 hM5 hl5
                go_wp2_with fail
                refine ⟨⟨k + 1, LL3, by omega, by go_num, by rw [runE_next X hkE, hx.out, hr.out, F.out], Lib.hid (by rw [runE_next X hkE, hx.out, hr.out, F.out]; exact hM.out), P⟩, ?_⟩
                simp [intOf]; omega
      · obtain ⟨⟨y0, y1, y2, y3, y4, y5, y6, y7, y8⟩, _, ys⟩ := nine_all P.out.bx
        obtain ⟨q0, q1, q2, q3, q4, q5, q6, q7, q8, qi⟩ := xat _ P.out.kp
        have qb := hbl _ P.out.kp
        go_wp2_with fail
        go_quiet (fail)
        replace P := Lib.hid (P.out.up (w' := wr.drewN nq) (bdrewN (Below.refl _ _) _))
        generalize wr.drewN nq = wy at P ⊢
        clear y0 y1 y2 y3 y4 y5 y6 y7 y8 ys
        clear q0 q1 q2 q3 q4 q5 q6 q7 q8 qi qb
        obtain ⟨⟨y0, y1, y2, y3, y4, y5, y6, y7, y8⟩, _, ys⟩ := nine_all P.out.bx
        obtain ⟨q0, q1, q2, q3, q4, q5, q6, q7, q8, qi⟩ := xat _ P.out.kp
        have qb := hbl _ P.out.kp
        by_cases hid : x.id = X.id
        · have F := Lib.hid (step_de O hid)
          rw [hid] at q0 q1
          go_wp2_with fail
          go_quiet (fail)
          replace P := Lib.hid (P.out.up (w' := wy.drewN nq) (bdrewN (Below.refl _ _) _))
          generalize wy.drewN nq = wz1 at P ⊢
          clear y0 y1 y2 y3 y4 y5 y6 y7 y8 ys
          clear q0 q1 q2 q3 q4 q5 q6 q7 q8 qi qb
          go_wp2_with fail
          refine ⟨⟨k + 1, LL, by omega, by go_num, by rw [runE_next X hkE, hx.out, hr.out, F.out], Lib.hid (by rw [runE_next X hkE, hx.out, hr.out, F.out]; exact hM.out), P⟩, ?_⟩
          simp [intOf]; omega
        · have F := Lib.hid (step_dn O hid)
          rcases pid_ne hid with hne | ⟨hne0, hne⟩
          · go_wp2_with fail
            go_quiet (fail)
            replace P := Lib.hid (P.out.up (w' := wy.drewN nq) (bdrewN (Below.refl _ _) _))
            generalize wy.drewN nq = wz2 at P ⊢
            clear y0 y1 y2 y3 y4 y5 y6 y7 y8 ys
            clear q0 q1 q2 q3 q4 q5 q6 q7 q8 qi qb
            clear hne
            obtain ⟨⟨y0, y1, y2, y3, y4, y5, y6, y7, y8⟩, _, ys⟩ := nine_all P.out.bx
            obtain ⟨q0, q1, q2, q3, q4, q5, q6, q7, q8, qi⟩ := xat _ P.out.kp
            have qb := hbl _ P.out.kp
            go_wp2_with fail
            refine (copy_at x.id.1 x.id.2 x.bal x.st x.k x.key x.v x.seq x.deps (.slice ua un uc) _ qi).mono ?_
            rintro e wc1 ⟨⟨cu1, rfl, hrow⟩, B⟩
            have hDl : x.deps.length ≤ 2000000 := by obtain ⟨_, _, _, _, hh, _⟩ := qi; exact hh
            obtain ⟨b1, hb1, hO⟩ := hrow.own hDl
            obtain ⟨cc1, rfl, _⟩ := hO.shape
            have hx1 := Lib.hid (P.out.fresh (x := (x, .slice (some ⟨b1, 0, none⟩) x.deps.length cc1)) hb1 hO)
            replace P := Lib.hid (P.out.up B)
            have hPs := P.out.kp.size
            have hPr := Lib.hid P.out.er.row
            obtain ⟨m, hm'⟩ : ∃ m, Hid (LL.length = m) := ⟨_, Lib.hid rfl⟩
            rw [hm'.out] at hPr hLl
            clear hrow hO B
            clear y0 y1 y2 y3 y4 y5 y6 y7 y8 ys
            clear q0 q1 q2 q3 q4 q5 q6 q7 q8 qi qb
            go_wp2_with (at_builtin; refine wpList_append_own_at _ rfl _ _ 23 rfl (w.heap.size + 1) 32 i0 (.agg #[.int .i64 0, .int .i64 0, .int .i64 0, .int .i64 0, .int .i64 0, .int .i64 0, .int .i64 0, .int .i64 0, .slice none 0 0]) 9 88 Tryd.underlying23 hi hz0 hz1 hz2 rfl (by decide) _ m (flatE LL) rfl (hPr.out.alloc _) ⟨wc1.heap.size, 0, none⟩ 1 1 [.int .i64 x.id.1, .int .i64 x.id.2, .int .i64 x.bal, .int .i64 x.st, .int .i64 x.k, .int .i64 x.key, .int .i64 x.v, .int .i64 x.seq, .slice (some ⟨b1, 0, none⟩) x.deps.length cc1] rfl rfl ?fc1 ?fc2 ?fc3 ?fc4 ?fc5 ?_)
            case fc1 => exact nine_srcE _ _ _ _ _ _ _ _ _ _ _ _ (by simp)
            case fc2 => exact nine_oneE _ _ _ _ _ _ _ _ _ _ _
            case fc3 => unfold maxLen; omega
            case fc4 => omega
            case fc5 => first | omega | (simp; omega)
            intro v' w' hown' hgrow hnil hat
            obtain ⟨LL2, P5, hM5, hl5⟩ := P.out.next (x := (x, .slice (some ⟨b1, 0, none⟩) x.deps.length cc1)) (by rw [hm'.out]; exact hown') hgrow (fun e => hnil e) (hat.imp (fun h => h) (fun h => by simpa using h)) hx1.out hM.out hm'.out
            clear hown' hgrow hnil hat hPr hPs hx1 hM hb1 hDl hm' P
            have P := Lib.hid P5
            have hM := Lib.hid hM5
            replace hLl : LL2.length ≤ 25 := by omega
            clear P5 hM5 hl5
            go_wp2_with fail
            refine ⟨⟨k + 1, LL2, by omega, by go_num, by rw [runE_next X hkE, hx.out, hr.out, F.out], Lib.hid (by rw [runE_next X hkE, hx.out, hr.out, F.out]; exact hM.out), P⟩, ?_⟩
            simp [intOf]; omega
          · go_wp2_with fail
            go_quiet (fail)
            replace P := Lib.hid (P.out.up (w' := wy.drewN nq) (bdrewN (Below.refl _ _) _))
            generalize wy.drewN nq = wz2 at P ⊢
            clear y0 y1 y2 y3 y4 y5 y6 y7 y8 ys
            clear q0 q1 q2 q3 q4 q5 q6 q7 q8 qi qb
            clear hne hne0
            obtain ⟨⟨y0, y1, y2, y3, y4, y5, y6, y7, y8⟩, _, ys⟩ := nine_all P.out.bx
            obtain ⟨q0, q1, q2, q3, q4, q5, q6, q7, q8, qi⟩ := xat _ P.out.kp
            have qb := hbl _ P.out.kp
            go_wp2_with fail
            refine (copy_at x.id.1 x.id.2 x.bal x.st x.k x.key x.v x.seq x.deps (.slice ua un uc) _ qi).mono ?_
            rintro e wc1 ⟨⟨cu1, rfl, hrow⟩, B⟩
            have hDl : x.deps.length ≤ 2000000 := by obtain ⟨_, _, _, _, hh, _⟩ := qi; exact hh
            obtain ⟨b1, hb1, hO⟩ := hrow.own hDl
            obtain ⟨cc1, rfl, _⟩ := hO.shape
            have hx1 := Lib.hid (P.out.fresh (x := (x, .slice (some ⟨b1, 0, none⟩) x.deps.length cc1)) hb1 hO)
            replace P := Lib.hid (P.out.up B)
            have hPs := P.out.kp.size
            have hPr := Lib.hid P.out.er.row
            obtain ⟨m, hm'⟩ : ∃ m, Hid (LL.length = m) := ⟨_, Lib.hid rfl⟩
            rw [hm'.out] at hPr hLl
            clear hrow hO B
            clear y0 y1 y2 y3 y4 y5 y6 y7 y8 ys
            clear q0 q1 q2 q3 q4 q5 q6 q7 q8 qi qb
            go_wp2_with (at_builtin; refine wpList_append_own_at _ rfl _ _ 23 rfl (w.heap.size + 1) 32 i0 (.agg #[.int .i64 0, .int .i64 0, .int .i64 0, .int .i64 0, .int .i64 0, .int .i64 0, .int .i64 0, .int .i64 0, .slice none 0 0]) 9 88 Tryd.underlying23 hi hz0 hz1 hz2 rfl (by decide) _ m (flatE LL) rfl (hPr.out.alloc _) ⟨wc1.heap.size, 0, none⟩ 1 1 [.int .i64 x.id.1, .int .i64 x.id.2, .int .i64 x.bal, .int .i64 x.st, .int .i64 x.k, .int .i64 x.key, .int .i64 x.v, .int .i64 x.seq, .slice (some ⟨b1, 0, none⟩) x.deps.length cc1] rfl rfl ?fc1 ?fc2 ?fc3 ?fc4 ?fc5 ?_)
            case fc1 => exact nine_srcE _ _ _ _ _ _ _ _ _ _ _ _ (by simp)
            case fc2 => exact nine_oneE _ _ _ _ _ _ _ _ _ _ _
            case fc3 => unfold maxLen; omega
            case fc4 => omega
            case fc5 => first | omega | (simp; omega)
            intro v' w' hown' hgrow hnil hat
            obtain ⟨LL2, P5, hM5, hl5⟩ := P.out.next (x := (x, .slice (some ⟨b1, 0, none⟩) x.deps.length cc1)) (by rw [hm'.out]; exact hown') hgrow (fun e => hnil e) (hat.imp (fun h => h) (fun h => by simpa using h)) hx1.out hM.out hm'.out
            clear hown' hgrow hnil hat hPr hPs hx1 hM hb1 hDl hm' P
            have P := Lib.hid P5
            have hM := Lib.hid hM5
            replace hLl : LL2.length ≤ 25 := by omega
            clear P5 hM5 hl5
            go_wp2_with fail
            refine ⟨⟨k + 1, LL2, by omega, by go_num, by rw [runE_next X hkE, hx.out, hr.out, F.out], Lib.hid (by rw [runE_next X hkE, hx.out, hr.out, F.out]; exact hM.out), P⟩, ?_⟩
            simp [intOf]; omega
    · obtain rfl : k = n := by omega
      have hrun : E.take k = E := List.take_of_length_le (by rw [hn.out]; exact Nat.le_refl _)
      rw [hrun] at hM ⊢
      clear h
      obtain ⟨⟨O, q⟩, hr⟩ : ∃ r, Hid (runE X E = r) := ⟨_, Lib.hid rfl⟩
      rw [hr.out] at hM ⊢
      dsimp only at hM ⊢
      cases q
      · have ui := uat _ P.out.kp
        obtain ⟨⟨y0, y1, y2, y3, y4, y5, y6, y7, y8⟩, _, ys⟩ := nine_all P.out.bx
        go_wp2_with fail
        refine (copy_at X.id.1 X.id.2 X.bal X.st X.k X.key X.v X.seq X.deps (.slice ua0 un0 uc0) _ ui).mono ?_
        rintro e wc5 ⟨⟨cu5, rfl, hrow⟩, B⟩
        have hDl : X.deps.length ≤ 2000000 := by obtain ⟨_, _, _, _, hh, _⟩ := ui; exact hh
        obtain ⟨b5, hb5, hO⟩ := hrow.own hDl
        obtain ⟨cc5, rfl, _⟩ := hO.shape
        have hx5 := Lib.hid (P.out.fresh (x := (X, .slice (some ⟨b5, 0, none⟩) X.deps.length cc5)) hb5 hO)
        replace P := Lib.hid (P.out.up B)
        have hPs := P.out.kp.size
        have hPr := Lib.hid P.out.er.row
        obtain ⟨m, hm'⟩ : ∃ m, Hid (LL.length = m) := ⟨_, Lib.hid rfl⟩
        rw [hm'.out] at hPr hLl
        clear hrow hO B
        clear y0 y1 y2 y3 y4 y5 y6 y7 y8 ys
        clear ui
        go_wp2_with (at_builtin; refine wpList_append_own_at _ rfl _ _ 23 rfl (w.heap.size + 1) 32 i0 (.agg #[.int .i64 0, .int .i64 0, .int .i64 0, .int .i64 0, .int .i64 0, .int .i64 0, .int .i64 0, .int .i64 0, .slice none 0 0]) 9 88 Tryd.underlying23 hi hz0 hz1 hz2 rfl (by decide) _ m (flatE LL) rfl (hPr.out.alloc _) ⟨wc5.heap.size, 0, none⟩ 1 1 [.int .i64 X.id.1, .int .i64 X.id.2, .int .i64 X.bal, .int .i64 X.st, .int .i64 X.k, .int .i64 X.key, .int .i64 X.v, .int .i64 X.seq, .slice (some ⟨b5, 0, none⟩) X.deps.length cc5] rfl rfl ?fc1 ?fc2 ?fc3 ?fc4 ?fc5 ?_)
        case fc1 => exact nine_srcE _ _ _ _ _ _ _ _ _ _ _ _ (by simp)
        case fc2 => exact nine_oneE _ _ _ _ _ _ _ _ _ _ _
        case fc3 => unfold maxLen; omega
        case fc4 => omega
        case fc5 => first | omega | (simp; omega)
        intro v' w' hown' hgrow hnil hat
        obtain ⟨LL2, P5, hM5, hl5⟩ := P.out.next (x := (X, .slice (some ⟨b5, 0, none⟩) X.deps.length cc5)) (by rw [hm'.out]; exact hown') hgrow (fun e => hnil e) (hat.imp (fun h => h) (fun h => by simpa using h)) hx5.out hM.out hm'.out
        clear hown' hgrow hnil hat hPr hPs hx5 hM hb5 hDl hm' P
        have P := Lib.hid P5
        have hM := Lib.hid hM5
        replace hLl : LL2.length ≤ 25 := by omega
        clear P5 hM5 hl5
        have R := ((P.out.er.wide (Nat.le_succ _)).eno (by omega))
        rw [hM.out] at R
        replace R := Lib.hid (show EnO _ w.heap.size _ (endE X (O, false)) from by simpa [endE] using R)
        have B := Lib.hid P.out.kp
        clear P hM
        go_wp2_with fail
        go_ret
        exact ⟨⟨_, rfl, by rw [hr.out]; exact R.out⟩, B.out⟩
      · have R := ((P.out.er.wide (Nat.le_succ _)).eno (by omega))
        rw [hM.out] at R
        replace R := Lib.hid (show EnO _ w.heap.size _ (endE X (O, true)) from by simpa [endE] using R)
        have B := Lib.hid P.out.kp
        clear P hM
        go_wp2_with fail
        go_ret
        exact ⟨⟨_, rfl, by rw [hr.out]; exact R.out⟩, B.out⟩
end Go.Proofs.YtlipmjbeiiifkaaDoor
