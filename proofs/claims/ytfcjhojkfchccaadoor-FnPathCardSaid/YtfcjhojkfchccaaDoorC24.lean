/- Texts laid together. -/
import Derived.Test.YtfcjhojkfchccaaDoorC01
import Derived.Test.YtfcjhojkfchccaaDoorC09
import Derived.Test.YtfcjhojkfchccaaDoorC19
import Derived.Deep.RegionWith
/- The model's l13Alike. -/
namespace Go.Proofs.YtfcjhojkfchccaaDoor
open Go.RowKit
set_option linter.unusedVariables false

theorem ids_ext {A B : List Pid} (hl : A.length = B.length) (h : ∀ t, t < A.length → A.getD t nop = B.getD t nop) : A = B := by
  refine List.ext_getElem hl fun i h1 h2 => ?_
  have := h i h1
  rwa [List.getD_eq_getElem?_getD, List.getD_eq_getElem?_getD, List.getElem?_eq_getElem h1, List.getElem?_eq_getElem h2] at this
theorem like_no {X Y : En} (h : ¬ (Y.seq = X.seq ∧ Y.deps = X.deps)) : likeB X Y = false := decide_eq_false h
theorem like_yes {X Y : En} (h : Y.seq = X.seq ∧ Y.deps = X.deps) : likeB X Y = true := decide_eq_true h
set_option maxRecDepth 100000 in
set_option maxHeartbeats 4000000 in
theorem sali_any (X Y : En) (u v : Value) (w : World) (hu : Ids w u X.deps) (hv : Ids w v Y.deps) :
    Calls Tryd.prog 48 #[env X u, env Y v] w fun e w' => e = .returned (.bool (likeB X Y)) ∧ Below w.heap.size w w' := by
  obtain ⟨ua, uc, rfl, _, hun, hu⟩ := hu
  obtain ⟨va, vc, rfl, _, hvn, hv⟩ := hv
  obtain ⟨n, hn⟩ : ∃ n, Hid (X.deps.length = n) := ⟨_, Lib.hid rfl⟩
  obtain ⟨m, hm⟩ : ∃ n, Hid (Y.deps.length = n) := ⟨_, Lib.hid rfl⟩
  rw [hn.out] at hun ⊢
  rw [hm.out] at hvn ⊢
  replace hu := Lib.hid hu
  replace hv := Lib.hid hv
  unfold env
  have A := Lib.hid ((Below.heap_alloc _ (.cells #[.int .i64 Y.id.1, .int .i64 Y.id.2, .int .i64 Y.bal, .int .i64 Y.st, .int .i64 Y.k, .int .i64 Y.key, .int .i64 Y.v, .int .i64 Y.seq, .slice va m vc] 29) _ (by simp)).trans (heap_alloc_new w (.cells #[.int .i64 X.id.1, .int .i64 X.id.2, .int .i64 X.bal, .int .i64 X.st, .int .i64 X.k, .int .i64 X.key, .int .i64 X.v, .int .i64 X.seq, .slice ua n uc] 29)))
  have R := Lib.hid (heap_alloc_at (w.alloc (.cells #[.int .i64 X.id.1, .int .i64 X.id.2, .int .i64 X.bal, .int .i64 X.st, .int .i64 X.k, .int .i64 X.key, .int .i64 X.v, .int .i64 X.seq, .slice ua n uc] 29)) (.cells #[.int .i64 Y.id.1, .int .i64 Y.id.2, .int .i64 Y.bal, .int .i64 Y.st, .int .i64 Y.k, .int .i64 Y.key, .int .i64 Y.v, .int .i64 Y.seq, .slice va m vc] 29) (w.heap.size + 1) (by simp))
  have D := Lib.hid (((Below.refl w.heap.size w).alloc (Nat.le_refl _) (.cells #[.int .i64 X.id.1, .int .i64 X.id.2, .int .i64 X.bal, .int .i64 X.st, .int .i64 X.k, .int .i64 X.key, .int .i64 X.v, .int .i64 X.seq, .slice ua n uc] 29)).alloc (by simp) (.cells #[.int .i64 Y.id.1, .int .i64 Y.id.2, .int .i64 Y.bal, .int .i64 Y.st, .int .i64 Y.k, .int .i64 Y.key, .int .i64 Y.v, .int .i64 Y.seq, .slice va m vc] 29))
  go_enter Tryd.func48, Tryd.ntmps48
  go_upto_region 1 with fail
  generalize (w.alloc (.cells #[.int .i64 X.id.1, .int .i64 X.id.2, .int .i64 X.bal, .int .i64 X.st, .int .i64 X.k, .int .i64 X.key, .int .i64 X.v, .int .i64 X.seq, .slice ua n uc] 29)).alloc (.cells #[.int .i64 Y.id.1, .int .i64 Y.id.2, .int .i64 Y.bal, .int .i64 Y.st, .int .i64 Y.k, .int .i64 Y.key, .int .i64 Y.v, .int .i64 Y.seq, .slice va m vc] 29) = w1 at A R D ⊢
  obtain ⟨⟨y0, y1, y2, y3, y4, y5, y6, y7, y8⟩, _, yl⟩ := nine_all A.out
  obtain ⟨⟨z0, z1, z2, z3, z4, z5, z6, z7, z8⟩, _, zl⟩ := nine_all R.out
  by_cases hs : X.seq = Y.seq
  · by_cases hl : n = m
    · subst hl
      replace hs := Lib.hid hs
      have hss : Hid (∀ b : Bool, X.deps = Y.deps → likeB X Y = true) := Lib.hid (fun _ e => like_yes ⟨hs.out.symm, e.symm⟩)
      have hse := hs.out
      go_upto_region 3 with fail
      clear y0 y1 y2 y3 y4 y5 y6 y7 y8 z0 z1 z2 z3 z4 z5 z6 z7 z8 yl zl hse
      go_wp2_with fail
      go_loopw [5] (fun i wr => ∃ k : Nat, k ≤ n ∧ i = .int .i64 k ∧ Hid (∀ t, t < k → X.deps.getD t nop = Y.deps.getD t nop) ∧ Hid (Below w1.heap.size w1 wr)) (fun i _ => n - (intOf i).toNat)
      case atStart => exact ⟨0, Nat.zero_le _, rfl, Lib.hid (fun t ht => absurd ht (Nat.not_lt_zero _)), Lib.hid (Below.refl _ _)⟩
      case round =>
        obtain ⟨k, hk, rfl, hS, hnx⟩ := hrel
        have A2 := bblk hnx.out (lt_of_heap A.out) A.out
        have R2 := bblk hnx.out (lt_of_heap R.out) R.out
        obtain ⟨⟨y0, y1, y2, y3, y4, y5, y6, y7, y8⟩, _, yl⟩ := nine_all A2
        obtain ⟨⟨z0, z1, z2, z3, z4, z5, z6, z7, z8⟩, _, zl⟩ := nine_all R2
        clear A2 R2
        by_cases hlt : k < n
        · obtain ⟨b, off, hb0, hb1, hb2⟩ := hu.out.resolve_left (by have := hn.out; omega)
          obtain ⟨c, off', hc0, hc1, hc2⟩ := hv.out.resolve_left (by have := hm.out; omega)
          subst hb0
          subst hc0
          obtain ⟨h0, h1⟩ := hb2 k (by rw [hn.out]; exact hlt)
          obtain ⟨g0, g1⟩ := hc2 k (by rw [hm.out]; exact hlt)
          have DD := bstep D.out hnx.out
          have q0 := (DD.cell (p := ⟨b, off + k * 2, none⟩) hb1).trans h0
          have q1 := (DD.cell (p := ⟨b, off + k * 2 + 1, none⟩) hb1).trans h1
          have r0 := (DD.cell (p := ⟨c, off' + k * 2, none⟩) hc1).trans g0
          have r1 := (DD.cell (p := ⟨c, off' + k * 2 + 1, none⟩) hc1).trans g1
          obtain ⟨x, hx⟩ : ∃ x, Hid (X.deps.getD k nop = x) := ⟨_, Lib.hid rfl⟩
          obtain ⟨y, hy⟩ : ∃ x, Hid (Y.deps.getD k nop = x) := ⟨_, Lib.hid rfl⟩
          rw [hx.out] at q0 q1
          rw [hy.out] at r0 r1
          clear h0 h1 g0 g1 hb2 hc2 DD hss
          obtain ⟨x1, x2⟩ := x
          obtain ⟨x3, x4⟩ := y
          dsimp only at q0 q1 r0 r1
          by_cases e1 : x1 = x3
          · subst e1
            by_cases e2 : x2 = x4
            · subst e2
              go_wp2_with fail
              go_quiet (fail)
              go_wp2_with fail
              go_roundw
              case rel =>
                refine ⟨k + 1, by omega, by go_num, Lib.hid (fun t ht => ?_), Lib.hid (bdrewN hnx.out _)⟩
                rcases Nat.lt_or_eq_of_le (Nat.le_of_lt_succ ht) with h1 | h1
                · exact hS.out t h1
                · rw [h1, hx.out, hy.out]
              case measure => simp [intOf]; omega
            · have hR := Lib.hid (like_no (X := X) (Y := Y) (fun g => e2 (by have := hx.out; rw [← g.2, hy.out] at this; injection this with _ h; exact h.symm)))
              go_wp2_with fail
              go_quiet (fail)
              go_wp2_with fail
              go_ret
              exact ⟨by rw [hR.out]; rfl, bstep D.out (bdrewN hnx.out _)⟩
          · have hR := Lib.hid (like_no (X := X) (Y := Y) (fun g => e1 (by have := hx.out; rw [← g.2, hy.out] at this; injection this with h _; exact h.symm)))
            go_wp2_with fail
            go_quiet (fail)
            go_wp2_with fail
            go_ret
            exact ⟨by rw [hR.out]; rfl, bstep D.out (bdrewN hnx.out _)⟩
        · obtain rfl : k = n := by omega
          have hR := Lib.hid (hss.out true (ids_ext (by rw [hn.out, hm.out]) (fun t ht => hS.out t (by rw [← hn.out]; exact ht))))
          clear hss hu hv
          go_wp2_with fail
          go_ret
          exact ⟨by rw [hR.out]; rfl, bstep D.out hnx.out⟩
    · have hR := Lib.hid (like_no (X := X) (Y := Y) (fun g => hl (by rw [← hn.out, ← hm.out, g.2])))
      replace hs := hs
      go_wp2_with fail
      go_ret
      exact ⟨by rw [hR.out]; rfl, D.out⟩
  · have hR := Lib.hid (like_no (X := X) (Y := Y) (fun g => hs g.1.symm))
    go_wp2_with fail
    go_ret
    exact ⟨by rw [hR.out]; rfl, D.out⟩
end Go.Proofs.YtfcjhojkfchccaaDoor
