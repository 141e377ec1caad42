/- Texts laid together. -/
import Derived.Test.YtfcjhojkfchccaaDoorC15
import Derived.Test.YtfcjhojkfchccaaDoorC09
import Derived.Test.YtfcjhojkfchccaaDoorC19
import Derived.Test.YtfcjhojkfchccaaDoorC08
import Derived.Deep.RegionWith
import Derived.Deep.DeepCutAuto
/- The model's l13Answers. -/
namespace Go.Proofs.YtfcjhojkfchccaaDoor
open Go.RowKit
set_option linter.unusedVariables false

theorem one_no {own x : En} (h : ¬ (enB x = true ∧ x.id = own.id ∧ (x.k = own.k ∧ x.key = own.key ∧ x.v = own.v) ∧ x.st = 1)) : oneB own x = false := by
  cases e : oneB own x with
  | false => rfl
  | true => exact absurd (one_of e) h
theorem answ_no {own : En} {A : List En} {k : Nat} (hk : k < A.length) (h : oneB own (A.getD k en0) = false) : answB own A = false := by
  cases e : answB own A with
  | false => rfl
  | true => rw [(answ_of e).1 _ (enD_mem hk)] at h; cases h
theorem answ_all {own : En} {A : List En} (h : ∀ t, t < A.length → oneB own (A.getD t en0) = true) : answB own A = (enB own && (decide (own.st = 1) && decide (A.length < 5))) := by
  have e : A.all (oneB own) = true := by
    rw [List.all_eq_true]
    intro x hx
    obtain ⟨k, hk, rfl⟩ := mem_enD hx
    exact h k hk
  unfold answB
  rw [e, Bool.true_and]
set_option maxRecDepth 100000 in
set_option maxHeartbeats 8000000 in
theorem sans_any (X : En) (u v : Value) (E : List En) (w : World) (hu : Ids w u X.deps) (h : Ens w v E) :
    Calls Tryd.prog 35 #[env X u, v] w fun e w' => e = .returned (.bool (answB X E)) ∧ Below w.heap.size w w' := by
  obtain ⟨ua, un, uc, rfl⟩ : ∃ ua un uc, u = .slice ua un uc := by obtain ⟨a, c, e, _⟩ := hu; exact ⟨a, _, c, e⟩
  have ex := fun W (hb : Below w.heap.size w W) => sentry_any X (.slice ua un uc) W (hu.up hb (Nat.le_refl _))
  obtain ⟨a0, ca0, rfl, _, hm, h⟩ := h
  obtain ⟨n, hn⟩ : ∃ n, Hid (E.length = n) := ⟨_, Lib.hid rfl⟩
  rw [hn.out] at hm ⊢
  replace h := Lib.hid h
  obtain ⟨⟨x1, x2⟩, xb, xt, xk, xy, xv, xs, XD⟩ := X
  unfold env at ex
  unfold env
  dsimp only at ex hu ⊢
  have A := Lib.hid (heap_alloc_new w (.cells #[.int .i64 x1, .int .i64 x2, .int .i64 xb, .int .i64 xt, .int .i64 xk, .int .i64 xy, .int .i64 xv, .int .i64 xs, .slice ua un uc] 29))
  have D := Lib.hid ((Below.refl w.heap.size w).alloc (Nat.le_refl _) (.cells #[.int .i64 x1, .int .i64 x2, .int .i64 xb, .int .i64 xt, .int .i64 xk, .int .i64 xy, .int .i64 xv, .int .i64 xs, .slice ua un uc] 29))
  clear hu
  go_enter Tryd.func35, Tryd.ntmps35
  go_upto_region 1 with fail
  generalize w.alloc (.cells #[.int .i64 x1, .int .i64 x2, .int .i64 xb, .int .i64 xt, .int .i64 xk, .int .i64 xy, .int .i64 xv, .int .i64 xs, .slice ua un uc] 29) = w1 at A D ⊢
  go_wp2_with fail
  go_loopw [5] (fun i wr => ∃ k : Nat, k ≤ n ∧ i = .int .i64 k ∧ Hid (∀ t, t < k → oneB ⟨(x1, x2), xb, xt, xk, xy, xv, xs, XD⟩ (E.getD t en0) = true) ∧ Hid (wr.heap[w.heap.size]? = some (.cells #[.int .i64 x1, .int .i64 x2, .int .i64 xb, .int .i64 xt, .int .i64 xk, .int .i64 xy, .int .i64 xv, .int .i64 xs, .slice ua un uc] 29 (0, 0))) ∧ Hid (Below w.heap.size w wr)) (fun i _ => n - (intOf i).toNat)
  case atStart => exact ⟨0, Nat.zero_le _, rfl, Lib.hid (fun t ht => absurd ht (Nat.not_lt_zero _)), A, D⟩
  case round =>
    obtain ⟨k, hk, rfl, hS, A2, D2⟩ := hrel
    clear A D
    by_cases hlt : k < n
    · have hkE : k < E.length := by rw [hn.out]; exact hlt
      obtain ⟨b, off, U, ha, hE⟩ := h.out.resolve_left (by have := hn.out; omega)
      subst ha
      have hA := hE.up D2.out (Nat.le_refl _)
      have hbl := hA.lt
      have hP := hA.at_ k hkE
      obtain ⟨ya, yn, yc, hy⟩ : ∃ ua un uc, U k = .slice ua un uc := by obtain ⟨a, c, e, _⟩ := hP.ids; exact ⟨a, _, c, e⟩
      obtain ⟨Y, hY⟩ : ∃ Y, Hid (E.getD k en0 = Y) := ⟨_, Lib.hid rfl⟩
      rw [hy, hY.out] at hP
      obtain ⟨⟨z1, z2⟩, zb, zt, zk, zy, zv, zs, YD⟩ := Y
      have q0 := hP.c0
      have q1 := hP.c1
      have q2 := hP.c2
      have q3 := hP.c3
      have q4 := hP.c4
      have q5 := hP.c5
      have q6 := hP.c6
      have q7 := hP.c7
      have q8 := hP.c8
      have hI := hP.ids
      dsimp only at q0 q1 q2 q3 q4 q5 q6 q7 q8 hI
      clear hA hE hP hy ex
      go_upto_region 5 with fail
      have ey := fun W (hb : Below wr.heap.size wr W) => sentry_any ⟨(z1, z2), zb, zt, zk, zy, zv, zs, YD⟩ (.slice ya yn yc) W (hI.up hb (Nat.le_refl _))
      unfold env at ey
      dsimp only at ey
      have B5 := Lib.hid ((Below.refl wr.heap.size wr).alloc (Nat.le_refl _) (.cells #[.int .i64 z1, .int .i64 z2, .int .i64 zb, .int .i64 zt, .int .i64 zk, .int .i64 zy, .int .i64 zv, .int .i64 zs, .slice ya yn yc] 29))
      have D5 := Lib.hid (bstep D2.out B5.out)
      have A5 := Lib.hid (bblk B5.out (lt_of_heap A2.out) A2.out)
      have G5 := Lib.hid (heap_alloc_new wr (.cells #[.int .i64 z1, .int .i64 z2, .int .i64 zb, .int .i64 zt, .int .i64 zk, .int .i64 zy, .int .i64 zv, .int .i64 zs, .slice ya yn yc] 29))
      clear q0 q1 q2 q3 q4 q5 q6 q7 q8 hI hbl A2 D2
      generalize wr.heap.size = bx at G5 B5 ey ⊢
      generalize wr.alloc (.cells #[.int .i64 z1, .int .i64 z2, .int .i64 zb, .int .i64 zt, .int .i64 zk, .int .i64 zy, .int .i64 zv, .int .i64 zs, .slice ya yn yc] 29) = w5 at A5 D5 G5 B5 ⊢
      obtain ⟨⟨y0, y1, y2, y3, y4, y5, y6, y7, y8⟩, _, yl⟩ := nine_all G5.out
      go_wp2_with fail
      refine (ey _ B5.out).mono ?_
      rintro e w6 ⟨rfl, B⟩
      clear y0 y1 y2 y3 y4 y5 y6 y7 y8 yl ey B5
      replace A5 := Lib.hid (bblk B (lt_of_heap A5.out) A5.out)
      replace G5 := Lib.hid (bblk B (lt_of_heap G5.out) G5.out)
      replace D5 := Lib.hid (bstep D5.out B)
      clear B
      obtain ⟨⟨y0, y1, y2, y3, y4, y5, y6, y7, y8⟩, _, yl⟩ := nine_all G5.out
      obtain ⟨⟨c0, c1, c2, c3, c4, c5, c6, c7, c8⟩, _, cl⟩ := nine_all A5.out
      obtain ⟨q, hyv⟩ : ∃ q, Hid (enB ⟨(z1, z2), zb, zt, zk, zy, zv, zs, YD⟩ = q) := ⟨_, Lib.hid rfl⟩
      rw [hyv.out]
      cases q
      · have hR := Lib.hid (answ_no (own := ⟨(x1, x2), xb, xt, xk, xy, xv, xs, XD⟩) (A := E) hkE (one_no (by rw [hY.out]; exact fun g => by have := hyv.out.symm.trans g.1; cases this)))
        go_wp2_with fail
        go_ret
        exact ⟨by rw [hR.out]; rfl, D5.out⟩
      · by_cases e1 : x1 = z1
        · subst e1
          by_cases e2 : x2 = z2
          · subst e2
            by_cases e3 : xk = zk
            · subst e3
              by_cases e4 : xy = zy
              · subst e4
                by_cases e5 : xv = zv
                · subst e5
                  by_cases e6 : zt = 1
                  · subst e6
                    have hone := Lib.hid (show oneB ⟨(x1, x2), xb, xt, xk, xy, xv, xs, XD⟩ ⟨(x1, x2), zb, 1, xk, xy, xv, zs, YD⟩ = true from by unfold oneB; rw [hyv.out]; simp)
                    go_wp2_with fail
                    go_roundw
                    case rel =>
                      refine ⟨k + 1, by omega, by go_num, Lib.hid (fun t ht => ?_), A5, D5⟩
                      rcases Nat.lt_or_eq_of_le (Nat.le_of_lt_succ ht) with h1 | h1
                      · exact hS.out t h1
                      · rw [h1, hY.out]; exact hone.out
                    case measure => simp [intOf]; omega
                  · have hR := Lib.hid (answ_no (own := ⟨(x1, x2), xb, xt, xk, xy, xv, xs, XD⟩) (A := E) hkE (one_no (by rw [hY.out]; exact fun g => e6 g.2.2.2)))
                    go_wp2_with fail
                    go_ret
                    exact ⟨by rw [hR.out]; rfl, D5.out⟩
                · have e5' : ¬ zv = xv := fun h => e5 h.symm
                  have hR := Lib.hid (answ_no (own := ⟨(x1, x2), xb, xt, xk, xy, xv, xs, XD⟩) (A := E) hkE (one_no (by rw [hY.out]; exact fun g => e5 g.2.2.1.2.2.symm)))
                  go_wp2_with fail
                  go_ret
                  exact ⟨by rw [hR.out]; rfl, D5.out⟩
              · have e4' : ¬ zy = xy := fun h => e4 h.symm
                have hR := Lib.hid (answ_no (own := ⟨(x1, x2), xb, xt, xk, xy, xv, xs, XD⟩) (A := E) hkE (one_no (by rw [hY.out]; exact fun g => e4 g.2.2.1.2.1.symm)))
                go_wp2_with fail
                go_ret
                exact ⟨by rw [hR.out]; rfl, D5.out⟩
            · have e3' : ¬ zk = xk := fun h => e3 h.symm
              have hR := Lib.hid (answ_no (own := ⟨(x1, x2), xb, xt, xk, xy, xv, xs, XD⟩) (A := E) hkE (one_no (by rw [hY.out]; exact fun g => e3 g.2.2.1.1.symm)))
              go_wp2_with fail
              go_ret
              exact ⟨by rw [hR.out]; rfl, D5.out⟩
          · have e2' : ¬ z2 = x2 := fun h => e2 h.symm
            have hR := Lib.hid (answ_no (own := ⟨(x1, x2), xb, xt, xk, xy, xv, xs, XD⟩) (A := E) hkE (one_no (by rw [hY.out]; exact fun g => e2 (congrArg Prod.snd g.2.1).symm)))
            go_wp2_with fail
            go_ret
            exact ⟨by rw [hR.out]; rfl, D5.out⟩
        · have e1' : ¬ z1 = x1 := fun h => e1 h.symm
          have hR := Lib.hid (answ_no (own := ⟨(x1, x2), xb, xt, xk, xy, xv, xs, XD⟩) (A := E) hkE (one_no (by rw [hY.out]; exact fun g => e1 (congrArg Prod.fst g.2.1).symm)))
          go_wp2_with fail
          go_ret
          exact ⟨by rw [hR.out]; rfl, D5.out⟩
    · obtain rfl : k = n := by omega
      have hR := Lib.hid (answ_all (own := ⟨(x1, x2), xb, xt, xk, xy, xv, xs, XD⟩) (A := E) (fun t ht => hS.out t (by rw [← hn.out]; exact ht)))
      obtain ⟨q, hyv⟩ : ∃ q, Hid (enB ⟨(x1, x2), xb, xt, xk, xy, xv, xs, XD⟩ = q) := ⟨_, Lib.hid rfl⟩
      obtain ⟨⟨c0, c1, c2, c3, c4, c5, c6, c7, c8⟩, _, cl⟩ := nine_all A2.out
      go_wp2_with fail
      refine (ex _ D2.out).mono ?_
      rintro e w6 ⟨rfl, B⟩
      clear c0 c1 c2 c3 c4 c5 c6 c7 c8 cl ex
      replace A2 := Lib.hid (bblk B (lt_of_heap A2.out) A2.out)
      replace D2 := Lib.hid (bstep D2.out B)
      clear B
      obtain ⟨⟨c0, c1, c2, c3, c4, c5, c6, c7, c8⟩, _, cl⟩ := nine_all A2.out
      rw [hyv.out]
      have hR2 : answB ⟨(x1, x2), xb, xt, xk, xy, xv, xs, XD⟩ E = (q && (decide (xt = 1) && decide (k < 5))) := by rw [hR.out, hyv.out, hn.out]
      replace hR2 := Lib.hid hR2
      clear hR
      cases q
      · go_wp2_with fail
        go_ret
        exact ⟨by rw [hR2.out]; rfl, D2.out⟩
      · by_cases e6 : xt = 1
        · subst e6
          by_cases h5 : (k : Int) < 5
          · go_wp2_with fail
            go_ret
            exact ⟨by rw [hR2.out, decide_eq_true (show k < 5 by omega)]; rfl, D2.out⟩
          · go_wp2_with fail
            go_ret
            exact ⟨by rw [hR2.out, decide_eq_false (show ¬ k < 5 by omega)]; show Ending.returned (Value.bool (decide ((k : Int) < 5))) = _; rw [decide_eq_false (show ¬ (k : Int) < 5 by omega)]; rfl, D2.out⟩
        · go_wp2_with fail
          go_ret
          exact ⟨by rw [hR2.out, decide_eq_false e6]; rfl, D2.out⟩
end Go.Proofs.YtfcjhojkfchccaaDoor

/- The model's AnswersJoin. -/
namespace Go.Proofs.YtfcjhojkfchccaaDoor
open Go.RowKit
set_option linter.unusedVariables false

theorem en_resSj (tm : Array Value) (w : World) (b : Nat) (q x0 x1 x2 x3 x4 x5 x6 x7 x8 : Value) (t : TypeId) (h1 : tm[4]? = some (.pointer (some ⟨b, 0, none⟩))) (h2 : tm[5]? = some q) (h : w.heap[b]? = some (.cells #[x0, x1, x2, x3, x4, x5, x6, x7, x8] t (0, 0))) :
    (results Tryd.f10 tm).run Tryd.prog w = .ok (.tuple #[.agg #[x0, x1, x2, x3, x4, x5, x6, x7, x8], q]) w := by
  obtain ⟨t0, t1, t2, t3, t4, t5, t6, t7, t8⟩ := nine_cells h
  simp [results, Tryd.results10, go_sem, h1, h2, t0, t1, t2, t3, t4, t5, t6, t7, t8]
theorem sansR_no {X : En} {E : List En} (h : ¬ (answB X E = true ∧ enB (ansE X E) = true)) : ansR X E = (en0, false) := if_neg h
theorem sansR_yes {X : En} {E : List En} (h : answB X E = true ∧ enB (ansE X E) = true) : ansR X E = (ansE X E, true) := if_pos h
theorem ansE_len : ∀ (A : List En) (X : En), X.deps.length ≤ 12 → (∀ x ∈ A, x.deps.length ≤ 12) → (ansE X A).deps.length ≤ 12 + 12 * A.length := by
  suffices H : ∀ (A : List En) (X : En) (m : Nat), X.deps.length ≤ m → (∀ x ∈ A, x.deps.length ≤ 12) → (ansE X A).deps.length ≤ m + 12 * A.length from fun A X h g => H A X 12 h g
  intro A
  induction A with
  | nil => intro X m h _; simpa [ansE] using h
  | cons x A ih =>
    intro X m h g
    have h2 : (ansS X x).deps.length ≤ m + 12 := by
      have := joinP_len X.deps x.deps
      have := g x (List.mem_cons_self ..)
      show (joinP X.deps x.deps).length ≤ _
      omega
    have := ih (ansS X x) (m + 12) h2 (fun y hy => g y (List.mem_cons_of_mem _ hy))
    show (ansE (ansS X x) A).deps.length ≤ _
    simp only [List.length_cons]
    omega
/-- What stands in the loop. -/
structure SjS (w : World) (ob : Nat) (Y : En) (u : Value) (yb : Nat) (wx : World) : Prop where
  bx : wx.heap[ob]? = some (.cells #[.int .i64 Y.id.1, .int .i64 Y.id.2, .int .i64 Y.bal, .int .i64 Y.st, .int .i64 Y.k, .int .i64 Y.key, .int .i64 Y.v, .int .i64 Y.seq, u] 29 (0, 0))
  ids : OwnP wx yb u Y.deps
  ne : yb ≠ ob
  nz : w.heap.size + 1 < yb
  z : wx.heap[w.heap.size + 1]? = some (.cells #[.int .i64 0, .int .i64 0, .int .i64 0, .int .i64 0, .int .i64 0, .int .i64 0, .int .i64 0, .int .i64 0, .slice none 0 0] 29 (0, 0))
  wo : w.heap.size + 1 < ob
  kp : Below w.heap.size w wx
section
variable {w : World} {ob : Nat} {Y : En} {u : Value} {yb : Nat} {wx w' : World}
theorem SjS.low (h : SjS w ob Y u yb wx) (hb : Below wx.heap.size wx w') : SjS w ob Y u yb w' :=
  ⟨bblk hb (lt_of_heap h.bx) h.bx, h.ids.same (hb.block yb h.ids.lt), h.ne, h.nz, bblk hb (lt_of_heap h.z) h.z, h.wo, bstep h.kp hb⟩
theorem SjS.sq (h : SjS w ob Y u yb wx) (z : Int) : SjS w ob { Y with seq := z } u yb (wx.setCell ⟨ob, 7, none⟩ (.int .i64 z)) := by
  have e := heap_setCell_same wx ob 7 _ _ (.int .i64 z) h.bx
  simp only [List.setIfInBounds_toArray, List.set_cons_zero, List.set_cons_succ] at e
  have ho : ∀ c, c ≠ ob → (wx.setCell ⟨ob, 7, none⟩ (.int .i64 z)).heap[c]? = wx.heap[c]? := fun c hc => heap_setCell_other _ _ _ _ hc
  exact ⟨e, h.ids.same (ho yb h.ne), h.ne, h.nz, (ho _ (by have := h.wo; omega)).trans h.z, h.wo, h.kp.setCell (p := ⟨ob, 7, none⟩) (by have := h.wo; show w.heap.size ≤ ob; omega) _⟩
theorem SjS.dp (h : SjS w ob Y u yb wx) {D : List Pid} {u2 : Value} {b2 : Nat} (hO : OwnP wx b2 u2 D) (hn : b2 ≠ ob) (hz : w.heap.size + 1 < b2) : SjS w ob { Y with deps := D } u2 b2 (wx.setCell ⟨ob, 8, none⟩ u2) := by
  have e := heap_setCell_same wx ob 8 _ _ (u2) h.bx
  simp only [List.setIfInBounds_toArray, List.set_cons_zero, List.set_cons_succ] at e
  have ho : ∀ c, c ≠ ob → (wx.setCell ⟨ob, 8, none⟩ (u2)).heap[c]? = wx.heap[c]? := fun c hc => heap_setCell_other _ _ _ _ hc
  exact ⟨e, hO.same (ho b2 hn), hn, hz, (ho _ (by have := h.wo; omega)).trans h.z, h.wo, h.kp.setCell (p := ⟨ob, 8, none⟩) (by have := h.wo; show w.heap.size ≤ ob; omega) _⟩
end
/-- What the model's AnswersJoin leaves. -/
def SjP (Q : En × Bool) (w : World) (e : Ending) (w' : World) : Prop :=
  ∃ u, e = .returned (.tuple #[env Q.1 u, .bool Q.2]) ∧ Ids w' u Q.1.deps ∧ Below w.heap.size w w'
set_option maxRecDepth 100000 in
set_option maxHeartbeats 8000000 in
theorem saj_any (X : En) (u v : Value) (E : List En) (w : World) (hu : Ids w u X.deps) (h : Ens w v E) :
    Calls Tryd.prog 10 #[env X u, v] w (SjP (ansR X E) w) := by
  obtain ⟨ua, un, uc, rfl⟩ : ∃ ua un uc, u = .slice ua un uc := by obtain ⟨a, c, e, _⟩ := hu; exact ⟨a, _, c, e⟩
  have sa := fun W (hb : Below w.heap.size w W) => sans_any X (.slice ua un uc) v E W (hu.up hb (Nat.le_refl _)) (h.up hb (Nat.le_refl _))
  have cp := fun W (hb : Below w.heap.size w W) => copy_at X.id.1 X.id.2 X.bal X.st X.k X.key X.v X.seq X.deps (.slice ua un uc) W (hu.up hb (Nat.le_refl _))
  obtain ⟨a0, ca0, rfl, h1, h2, h3⟩ := h
  obtain ⟨l, hl⟩ : ∃ l, Hid (E.length = l) := ⟨_, Lib.hid rfl⟩
  simp only [hl.out] at sa h1 h2 ⊢
  replace h3 := Lib.hid h3
  clear hu
  obtain ⟨Q, hQ⟩ : ∃ Q, Hid (ansR X E = Q) := ⟨_, Lib.hid rfl⟩
  obtain ⟨q, hq⟩ : ∃ q, Hid (answB X E = q) := ⟨_, Lib.hid rfl⟩
  rw [hQ.out]
  simp only [hq.out] at sa
  unfold env at sa
  unfold env
  have A := Lib.hid ((Below.heap_alloc _ (.cells #[.int .i64 0, .int .i64 0, .int .i64 0, .int .i64 0, .int .i64 0, .int .i64 0, .int .i64 0, .int .i64 0, .slice none 0 0] 29) _ (by simp)).trans (heap_alloc_new w (.cells #[.int .i64 X.id.1, .int .i64 X.id.2, .int .i64 X.bal, .int .i64 X.st, .int .i64 X.k, .int .i64 X.key, .int .i64 X.v, .int .i64 X.seq, .slice ua un uc] 29)))
  have R := Lib.hid (heap_alloc_at (w.alloc (.cells #[.int .i64 X.id.1, .int .i64 X.id.2, .int .i64 X.bal, .int .i64 X.st, .int .i64 X.k, .int .i64 X.key, .int .i64 X.v, .int .i64 X.seq, .slice ua un uc] 29)) (.cells #[.int .i64 0, .int .i64 0, .int .i64 0, .int .i64 0, .int .i64 0, .int .i64 0, .int .i64 0, .int .i64 0, .slice none 0 0] 29) (w.heap.size + 1) (by simp))
  have D := Lib.hid (((Below.refl w.heap.size w).alloc (Nat.le_refl _) (.cells #[.int .i64 X.id.1, .int .i64 X.id.2, .int .i64 X.bal, .int .i64 X.st, .int .i64 X.k, .int .i64 X.key, .int .i64 X.v, .int .i64 X.seq, .slice ua un uc] 29)).alloc (by simp) (.cells #[.int .i64 0, .int .i64 0, .int .i64 0, .int .i64 0, .int .i64 0, .int .i64 0, .int .i64 0, .int .i64 0, .slice none 0 0] 29))
  go_enter Tryd.func10, Tryd.ntmps10
  go_upto_region 1 with fail
  generalize (w.alloc (.cells #[.int .i64 X.id.1, .int .i64 X.id.2, .int .i64 X.bal, .int .i64 X.st, .int .i64 X.k, .int .i64 X.key, .int .i64 X.v, .int .i64 X.seq, .slice ua un uc] 29)).alloc (.cells #[.int .i64 0, .int .i64 0, .int .i64 0, .int .i64 0, .int .i64 0, .int .i64 0, .int .i64 0, .int .i64 0, .slice none 0 0] 29) = w1 at A R D ⊢
  obtain ⟨⟨y0, y1, y2, y3, y4, y5, y6, y7, y8⟩, _, yl⟩ := nine_all A.out
  go_wp2_with fail
  refine (sa _ D.out).mono ?_
  rintro e w2 ⟨rfl, B⟩
  replace D := Lib.hid (bstep D.out B)
  replace R := Lib.hid (bblk B (lt_of_heap R.out) R.out)
  replace A := Lib.hid (bblk B (lt_of_heap A.out) A.out)
  clear sa B y0 y1 y2 y3 y4 y5 y6 y7 y8 yl
  cases q
  · have hQe := hQ.out.symm.trans (sansR_no (X := X) (E := E) (fun g => by have := g.1; rw [hq.out] at this; cases this))
    replace hQ := Lib.hid hQe
    clear hQe A
    obtain ⟨⟨z0, z1, z2, z3, z4, z5, z6, z7, z8⟩, ⟨f0, f1, f2, f3, f4, f5, f6, f7, f8⟩, zl⟩ := nine_all R.out
    go_wp2_with fail
    refine bodyPost_ret (en_resSj _ _ _ _ _ _ _ _ _ _ _ _ _ _ rfl rfl (put9_at (.int .i64 0) (.int .i64 0) (.int .i64 0) (.int .i64 0) (.int .i64 0) (.int .i64 0) (.int .i64 0) (.int .i64 0) (.slice none 0 0) R.out)) rfl ⟨.slice none 0 0, by rw [hQ.out]; rfl, by rw [hQ.out]; exact ⟨none, 0, rfl, Nat.le_refl _, by simp [en0], .inl rfl⟩, D.out.trans (put9_below _ _ _ _ _ _ _ _ _ (Nat.le_succ _))⟩
  · have hA := Lib.hid (answ_of hq.out)
    have hX := Lib.hid (enB_of hA.out.2.1)
    obtain ⟨⟨y0, y1, y2, y3, y4, y5, y6, y7, y8⟩, _, yl⟩ := nine_all A.out
    go_wp2_with fail
    refine (cp _ D.out).mono ?_
    rintro e w3 ⟨⟨u3, rfl, O3⟩, B⟩
    obtain ⟨yb, hyb, O3⟩ := O3.own (by have := (srt_of hX.out.2.2.1).1; omega)
    obtain ⟨yn, yc, rfl⟩ : ∃ n c, u3 = .slice (some ⟨yb, 0, none⟩) n c := by obtain ⟨c, e, _⟩ := O3.shape; exact ⟨_, c, e⟩
    have BA := (Below.refl w3.heap.size w3).alloc (Nat.le_refl _) (.cells #[.int .i64 X.id.1, .int .i64 X.id.2, .int .i64 X.bal, .int .i64 X.st, .int .i64 X.k, .int .i64 X.key, .int .i64 X.v, .int .i64 X.seq, .slice (some ⟨yb, 0, none⟩) yn yc] 29)
    have hzl := lt_of_heap R.out
    have hs3 := B.size
    have S0 := Lib.hid (show SjS w w3.heap.size X (.slice (some ⟨yb, 0, none⟩) yn yc) yb (w3.alloc (.cells #[.int .i64 X.id.1, .int .i64 X.id.2, .int .i64 X.bal, .int .i64 X.st, .int .i64 X.k, .int .i64 X.key, .int .i64 X.v, .int .i64 X.seq, .slice (some ⟨yb, 0, none⟩) yn yc] 29)) from
      ⟨heap_alloc_new _ _, O3.up BA O3.lt, Nat.ne_of_lt O3.lt, by omega, bblk (bstep B BA) hzl R.out, by omega, bstep D.out (bstep B BA)⟩)
    clear cp B BA O3 y0 y1 y2 y3 y4 y5 y6 y7 y8 yl A R D hyb hzl hs3
    go_upto_region 4 with fail
    generalize w3.heap.size = ob at S0 ⊢
    generalize w3.alloc (.cells #[.int .i64 X.id.1, .int .i64 X.id.2, .int .i64 X.bal, .int .i64 X.st, .int .i64 X.k, .int .i64 X.key, .int .i64 X.v, .int .i64 X.seq, .slice (some ⟨yb, 0, none⟩) yn yc] 29) = w4 at S0 ⊢
    go_upto_region 5 with fail
    go_loopw [7] (fun i wr => ∃ (k : Nat) (u : Value) (b : Nat), k ≤ l ∧ i = .int .i64 k ∧ Hid (SjS w ob (ansE X (E.take k)) u b wr)) (fun i _ => l - (intOf i).toNat)
    case atStart => exact ⟨0, _, _, Nat.zero_le _, rfl, S0⟩
    case round =>
      clear S0
      obtain ⟨k, u, b0, hk, rfl, S⟩ := hrel
      by_cases hkl : k < l
      · have hkE : k < E.length := by rw [hl.out]; exact hkl
        obtain ⟨b, off, U, ha, hE⟩ := h3.out.resolve_left (by have := hl.out; omega)
        subst ha
        have hnx := Lib.hid (ansE_next (own := X) hkE)
        have hxd : (E.getD k en0).deps.length ≤ 12 := (srt_of (enB_of (one_of (hA.out.1 _ (enD_mem hkE))).1).2.2.1).1
        have hlen : (ansE X (E.take k)).deps.length ≤ 12 + 12 * (E.take k).length := ansE_len _ X (srt_of hX.out.2.2.1).1 (fun x hx => (srt_of (enB_of (one_of (hA.out.1 x (List.mem_of_mem_take hx))).1).2.2.1).1)
        have hlt : (E.take k).length ≤ 4 := by have := hA.out.2.2.2; rw [List.length_take]; omega
        have hE1 := hE.up S.out.kp (Nat.le_refl _)
        have hbl := hE1.lt
        have hP := hE1.at_ k hkE
        obtain ⟨ya, yn, yc, hy⟩ : ∃ ua un uc, U k = .slice ua un uc := by obtain ⟨a, c, e, _⟩ := hP.ids; exact ⟨a, _, c, e⟩
        obtain ⟨x, hx⟩ : ∃ x, Hid (E.getD k en0 = x) := ⟨_, Lib.hid rfl⟩
        obtain ⟨Y, hY⟩ : ∃ x, Hid (ansE X (E.take k) = x) := ⟨_, Lib.hid rfl⟩
        have hEk := Lib.hid (fun W (hb : Below w.heap.size w W) => (hE.up hb (Nat.le_refl _)).at_ k hkE)
        have hEl := Lib.hid (fun W (hb : Below w.heap.size w W) => (hE.up hb (Nat.le_refl _)).lt)
        rw [hx.out] at hxd hnx hEk
        rw [hY.out] at S hnx hlen
        rw [hy] at hEk
        clear hE hE1 hP hbl hY hx
        obtain ⟨gn, gc, rfl⟩ : ∃ n c, u = .slice (some ⟨b0, 0, none⟩) n c := by obtain ⟨c, e, _⟩ := S.out.ids.shape; exact ⟨_, c, e⟩
        have q7 := (hEk.out _ S.out.kp).c7
        have qbl := hEl.out _ S.out.kp
        obtain ⟨⟨y0, y1, y2, y3, y4, y5, y6, y7, y8⟩, ⟨f0, f1, f2, f3, f4, f5, f6, f7, f8⟩, yl⟩ := nine_all S.out.bx
        go_upto_region 7 with fail
        obtain ⟨mx, hmx⟩ : ∃ m, Hid (max Y.seq x.seq = m) := ⟨_, Lib.hid rfl⟩
        have hns := Lib.hid (hmx.out)
        go_cut [] from 21 to 29 (fun wx => Hid (SjS w ob { Y with seq := mx } (.slice (some ⟨b0, 0, none⟩) gn gc) b0 wx))
        case first =>
          rcases (show (x.seq ≤ Y.seq ∧ max Y.seq x.seq = Y.seq) ∨ (¬ x.seq ≤ Y.seq ∧ max Y.seq x.seq = x.seq) by omega) with ⟨hm, e⟩ | ⟨hm, e⟩
          all_goals
            rw [e] at hmx
            have S2 := Lib.hid (S.out.sq mx)
            obtain rfl := hmx.out
            clear hmx e
            go_region
            all_goals
              go_wp2_with fail
              go_meet
              exact Lib.hid (SjS.low S2.out (Below.drew (Below.refl _ _)))
        case rest =>
          clear S y0 y1 y2 y3 y4 y5 y6 y7 y8 f0 f1 f2 f3 f4 f5 f6 f7 f8 yl q7 qbl
          have S := hcut
          have q8 := (hEk.out _ S.out.kp).c8
          have qbl := hEl.out _ S.out.kp
          obtain ⟨⟨y0, y1, y2, y3, y4, y5, y6, y7, y8⟩, ⟨f0, f1, f2, f3, f4, f5, f6, f7, f8⟩, yl⟩ := nine_all S.out.bx
          go_upto_region 8 with fail
          have jn := fun W (B : Below wc.heap.size wc W) => l4_big (.slice (some ⟨b0, 0, none⟩) gn gc) (.slice ya yn yc) Y.deps x.deps W (S.out.ids.read.up B (Nat.le_refl _)) ((hEk.out _ (bstep S.out.kp B)).ids) (by omega) (by omega)
          go_region_with (go_at_call 37; (with_reducible refine (jn _ (Below.drew (Below.refl _ _))).mono ?_); rintro e w8 ⟨b2, u2, hb2, rfl, O2, hb⟩; obtain ⟨pn2, pc2, rfl⟩ : ∃ n c, u2 = .slice (some ⟨b2, 0, none⟩) n c := (by obtain ⟨c, e, _⟩ := O2.shape; exact ⟨_, _, e⟩); have S5 := Lib.hid ((S.out.low (Below.drew (Below.refl _ _))).low hb); have hbn : b2 ≠ ob := (by have := lt_of_heap S.out.bx; have h9 : wc.heap.size ≤ b2 := hb2; omega); have hbz : w.heap.size + 1 < b2 := (by have := lt_of_heap S.out.z; have h9 : wc.heap.size ≤ b2 := hb2; omega); clear y0 y1 y2 y3 y4 y5 y6 y7 y8 f0 f1 f2 f3 f4 f5 f6 f7 f8 yl hb; obtain ⟨⟨y0, y1, y2, y3, y4, y5, y6, y7, y8⟩, ⟨f0, f1, f2, f3, f4, f5, f6, f7, f8⟩, yl⟩ := nine_all S5.out.bx)
          all_goals
            have S6 := Lib.hid (S5.out.dp O2 hbn hbz)
            go_wp2_with fail
            go_roundw
            case rel =>
              have SN : SjS w ob (ansE X (E.take (k + 1))) (.slice (some ⟨b2, 0, none⟩) pn2 pc2) b2 (w8.setCell ⟨ob, 8, none⟩ (.slice (some ⟨b2, 0, none⟩) pn2 pc2)) := by
                rw [hnx.out]
                unfold ansS
                rw [hns.out]
                exact S6.out
              exact ⟨k + 1, _, _, by omega, by go_num, Lib.hid SN⟩
            case measure => simp [intOf]; omega
      · obtain rfl : k = l := by omega
        have ht : E.take k = E := List.take_of_length_le (by rw [hl.out]; exact Nat.le_refl _)
        have S1 := S.out
        rw [ht] at S1
        obtain ⟨Y, hY⟩ : ∃ x, Hid (ansE X E = x) := ⟨_, Lib.hid rfl⟩
        rw [hY.out] at S1
        replace S := Lib.hid S1
        clear S1 ht h3
        obtain ⟨gn, gc, rfl⟩ : ∃ n c, u = .slice (some ⟨b0, 0, none⟩) n c := by obtain ⟨c, e, _⟩ := S.out.ids.shape; exact ⟨_, c, e⟩
        have ev := fun W (H : Ids W (.slice (some ⟨b0, 0, none⟩) gn gc) Y.deps) => sentry_any Y (.slice (some ⟨b0, 0, none⟩) gn gc) W H
        obtain ⟨t, ht⟩ : ∃ t, Hid (enB Y = t) := ⟨_, Lib.hid rfl⟩
        simp only [ht.out] at ev
        unfold env at ev
        obtain ⟨⟨y0, y1, y2, y3, y4, y5, y6, y7, y8⟩, _, yl⟩ := nine_all S.out.bx
        go_wp2_with fail
        refine (ev _ S.out.ids.read).mono ?_
        rintro e w7 ⟨rfl, B⟩
        have S2 := Lib.hid (S.out.low B)
        clear y0 y1 y2 y3 y4 y5 y6 y7 y8 yl ev S B
        have R := Lib.hid S2.out.z
        have D := Lib.hid S2.out.kp
        cases t
        · have hQe := hQ.out.symm.trans (sansR_no (X := X) (E := E) (fun g => by have := g.2; rw [hY.out, ht.out] at this; cases this))
          replace hQ := Lib.hid hQe
          clear hQe
          obtain ⟨⟨z0, z1, z2, z3, z4, z5, z6, z7, z8⟩, ⟨f0, f1, f2, f3, f4, f5, f6, f7, f8⟩, zl⟩ := nine_all R.out
          go_wp2_with fail
          refine bodyPost_ret (en_resSj _ _ _ _ _ _ _ _ _ _ _ _ _ _ rfl rfl (put9_at (.int .i64 0) (.int .i64 0) (.int .i64 0) (.int .i64 0) (.int .i64 0) (.int .i64 0) (.int .i64 0) (.int .i64 0) (.slice none 0 0) R.out)) rfl ⟨.slice none 0 0, by rw [hQ.out]; rfl, by rw [hQ.out]; exact ⟨none, 0, rfl, Nat.le_refl _, by simp [en0], .inl rfl⟩, D.out.trans (put9_below _ _ _ _ _ _ _ _ _ (Nat.le_succ _))⟩
        · have hQe := hQ.out.symm.trans (sansR_yes (X := X) (E := E) ⟨hq.out, by rw [hY.out]; exact ht.out⟩)
          rw [hY.out] at hQe
          replace hQ := Lib.hid hQe
          clear hQe
          obtain ⟨⟨y0, y1, y2, y3, y4, y5, y6, y7, y8⟩, _, yl⟩ := nine_all S2.out.bx
          obtain ⟨⟨z0, z1, z2, z3, z4, z5, z6, z7, z8⟩, ⟨f0, f1, f2, f3, f4, f5, f6, f7, f8⟩, zl⟩ := nine_all R.out
          have hbz : b0 ≠ w.heap.size + 1 := by have := S2.out.nz; omega
          go_wp2_with fail
          refine bodyPost_ret (en_resSj _ _ _ _ _ _ _ _ _ _ _ _ _ _ rfl rfl (put9_at (.int .i64 Y.id.1) (.int .i64 Y.id.2) (.int .i64 Y.bal) (.int .i64 Y.st) (.int .i64 Y.k) (.int .i64 Y.key) (.int .i64 Y.v) (.int .i64 Y.seq) (.slice (some ⟨b0, 0, none⟩) gn gc) R.out)) rfl ⟨_, by rw [hQ.out]; rfl, by rw [hQ.out]; exact (S2.out.ids.same (put9_other _ _ _ _ _ _ _ _ _ hbz)).read, D.out.trans (put9_below _ _ _ _ _ _ _ _ _ (Nat.le_succ _))⟩
end Go.Proofs.YtfcjhojkfchccaaDoor
