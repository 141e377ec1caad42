/- Texts laid together. -/
import Derived.Test.YtiolhjjkjmepcaaGreatDoorC01
import Derived.Deep.RegionWith
import Derived.Test.YtiolhjjkjmepcaaGreatDoorC08
import Derived.Test.YtiolhjjkjmepcaaGreatDoorC13
import Derived.Deep.RegionHeld3
/- slices.Equal at ids. -/
namespace Go.Proofs.YtiolhjjkjmepcaaGreatDoor
open Go.RowKit
set_option linter.unusedVariables false

theorem ids_extE {A B : List Pid} (hl : A.length = B.length) (h : ∀ t, t < A.length → A.getD t nop = B.getD t nop) : A = B := by
  refine List.ext_getElem hl fun i h1 h2 => ?_
  have := h i h1
  rwa [List.getD_eq_getElem?_getD, List.getD_eq_getElem?_getD, List.getElem?_eq_getElem h1, List.getElem?_eq_getElem h2] at this
set_option maxRecDepth 100000 in
set_option maxHeartbeats 4000000 in
theorem ieqi_any (u v : Value) (A B : List Pid) (w : World) (hu : Ids w u A) (hv : Ids w v B) :
    Calls Tryz.prog 76 #[u, v] w fun e w' => e = .returned (.bool (decide (A = B))) ∧ Below w.heap.size w w' := by
  obtain ⟨ua, uc, rfl, _, hun, hu⟩ := hu
  obtain ⟨va, vc, rfl, _, hvn, hv⟩ := hv
  obtain ⟨n, hn⟩ : ∃ n, Hid (A.length = n) := ⟨_, Lib.hid rfl⟩
  obtain ⟨m, hm⟩ : ∃ n, Hid (B.length = n) := ⟨_, Lib.hid rfl⟩
  rw [hn.out] at hun ⊢
  rw [hm.out] at hvn ⊢
  replace hu := Lib.hid hu
  replace hv := Lib.hid hv
  by_cases hl : n = m
  · subst hl
    have hyes : Hid (A = B → decide (A = B) = true) := Lib.hid (fun e => decide_eq_true e)
    go_enter Tryz.func76, Tryz.ntmps76
    go_wp2_with fail
    go_loopw [13] (fun i wr => ∃ k : Nat, k ≤ n ∧ i = .int .i64 k ∧ Hid (∀ t, t < k → A.getD t nop = B.getD t nop) ∧ Hid (Below w.heap.size w wr)) (fun i _ => n - (intOf i).toNat)
    case atStart => exact ⟨0, Nat.zero_le _, rfl, Lib.hid (fun t ht => absurd ht (Nat.not_lt_zero _)), Lib.hid (Below.refl _ _)⟩
    case round =>
      obtain ⟨k, hk, rfl, hS, hnx⟩ := hrel
      by_cases hlt : k < n
      · obtain ⟨b, off, hb0, hb1, hb2⟩ := hu.out.resolve_left (by have := hn.out; omega)
        obtain ⟨c, off', hc0, hc1, hc2⟩ := hv.out.resolve_left (by have := hm.out; omega)
        subst hb0
        subst hc0
        obtain ⟨h0, h1⟩ := hb2 k (by rw [hn.out]; exact hlt)
        obtain ⟨g0, g1⟩ := hc2 k (by rw [hm.out]; exact hlt)
        have q0 := (hnx.out.cell (p := ⟨b, off + k * 2, none⟩) hb1).trans h0
        have q1 := (hnx.out.cell (p := ⟨b, off + k * 2 + 1, none⟩) hb1).trans h1
        have r0 := (hnx.out.cell (p := ⟨c, off' + k * 2, none⟩) hc1).trans g0
        have r1 := (hnx.out.cell (p := ⟨c, off' + k * 2 + 1, none⟩) hc1).trans g1
        obtain ⟨x, hx⟩ : ∃ x, Hid (A.getD k nop = x) := ⟨_, Lib.hid rfl⟩
        obtain ⟨y, hy⟩ : ∃ x, Hid (B.getD k nop = x) := ⟨_, Lib.hid rfl⟩
        rw [hx.out] at q0 q1
        rw [hy.out] at r0 r1
        clear h0 h1 g0 g1 hb2 hc2 hyes
        obtain ⟨x1, x2⟩ := x
        obtain ⟨x3, x4⟩ := y
        dsimp only at q0 q1 r0 r1
        by_cases e1 : x1 = x3
        · subst e1
          by_cases e2 : x2 = x4
          · subst e2
            go_wp2_with fail
            go_quiet (fail)
            go_wp2_with fail
            go_roundw
            case rel =>
              refine ⟨k + 1, by omega, by go_num, Lib.hid (fun t ht => ?_), Lib.hid (bdrewN hnx.out _)⟩
              rcases Nat.lt_or_eq_of_le (Nat.le_of_lt_succ ht) with h1 | h1
              · exact hS.out t h1
              · rw [h1, hx.out, hy.out]
            case measure => simp [intOf]; omega
          · have hR : Hid (decide (A = B) = false) := Lib.hid (decide_eq_false (fun g => e2 (by have := hx.out; rw [g, hy.out] at this; injection this with _ h; exact h.symm)))
            go_wp2_with fail
            go_quiet (fail)
            go_wp2_with fail
            go_ret
            exact ⟨by rw [hR.out]; rfl, bdrewN hnx.out _⟩
        · have hR : Hid (decide (A = B) = false) := Lib.hid (decide_eq_false (fun g => e1 (by have := hx.out; rw [g, hy.out] at this; injection this with h _; exact h.symm)))
          go_wp2_with fail
          go_quiet (fail)
          go_wp2_with fail
          go_ret
          exact ⟨by rw [hR.out]; rfl, bdrewN hnx.out _⟩
      · obtain rfl : k = n := by omega
        have hR := Lib.hid (hyes.out (ids_extE (by rw [hn.out, hm.out]) (fun t ht => hS.out t (by rw [← hn.out]; exact ht))))
        clear hyes hu hv
        go_wp2_with fail
        go_ret
        exact ⟨by rw [hR.out]; rfl, hnx.out⟩
  · have hR : Hid (decide (A = B) = false) := Lib.hid (decide_eq_false (fun g => hl (by rw [← hn.out, ← hm.out, g])))
    go_enter Tryz.func76, Tryz.ntmps76
    go_wp2_with fail
    go_ret
    exact ⟨by rw [hR.out]; rfl, Below.refl _ _⟩
end Go.Proofs.YtiolhjjkjmepcaaGreatDoor

/- Entry.alike. -/
namespace Go.Proofs.YtiolhjjkjmepcaaGreatDoor
open Go.RowKit
set_option linter.unusedVariables false

set_option maxRecDepth 100000 in
set_option maxHeartbeats 4000000 in
theorem ialike_any (X Y : En) (u v : Value) (w : World) (hu : Ids w u X.deps) (hv : Ids w v Y.deps) :
    Calls Tryz.prog 45 #[env X u, env Y v] w fun e w' => e = .returned (.bool (sameB X Y)) ∧ Below w.heap.size w w' := by
  obtain ⟨ua, un, uc, rfl⟩ : ∃ ua un uc, u = .slice ua un uc := by obtain ⟨a, c, e, _⟩ := hu; exact ⟨a, _, c, e⟩
  obtain ⟨va, vn, vc, rfl⟩ : ∃ ua un uc, v = .slice ua un uc := by obtain ⟨a, c, e, _⟩ := hv; exact ⟨a, _, c, e⟩
  have eq := fun W (hb : Below w.heap.size w W) => ieqi_any (.slice ua un uc) (.slice va vn vc) X.deps Y.deps W (hu.up hb (Nat.le_refl _)) (hv.up hb (Nat.le_refl _))
  obtain ⟨q, hq⟩ : ∃ q, Hid (decide (X.deps = Y.deps) = q) := ⟨_, Lib.hid rfl⟩
  simp only [hq.out] at eq
  unfold env
  have A := Lib.hid ((Below.heap_alloc _ (.cells #[.int .i64 Y.id.1, .int .i64 Y.id.2, .int .i64 Y.bal, .int .i64 Y.st, .int .i64 Y.k, .int .i64 Y.key, .int .i64 Y.v, .int .i64 Y.seq, .slice va vn vc] 30) _ (by simp)).trans (heap_alloc_new w (.cells #[.int .i64 X.id.1, .int .i64 X.id.2, .int .i64 X.bal, .int .i64 X.st, .int .i64 X.k, .int .i64 X.key, .int .i64 X.v, .int .i64 X.seq, .slice ua un uc] 30)))
  have R := Lib.hid (heap_alloc_at (w.alloc (.cells #[.int .i64 X.id.1, .int .i64 X.id.2, .int .i64 X.bal, .int .i64 X.st, .int .i64 X.k, .int .i64 X.key, .int .i64 X.v, .int .i64 X.seq, .slice ua un uc] 30)) (.cells #[.int .i64 Y.id.1, .int .i64 Y.id.2, .int .i64 Y.bal, .int .i64 Y.st, .int .i64 Y.k, .int .i64 Y.key, .int .i64 Y.v, .int .i64 Y.seq, .slice va vn vc] 30) (w.heap.size + 1) (by simp))
  have D := Lib.hid (((Below.refl w.heap.size w).alloc (Nat.le_refl _) (.cells #[.int .i64 X.id.1, .int .i64 X.id.2, .int .i64 X.bal, .int .i64 X.st, .int .i64 X.k, .int .i64 X.key, .int .i64 X.v, .int .i64 X.seq, .slice ua un uc] 30)).alloc (by simp) (.cells #[.int .i64 Y.id.1, .int .i64 Y.id.2, .int .i64 Y.bal, .int .i64 Y.st, .int .i64 Y.k, .int .i64 Y.key, .int .i64 Y.v, .int .i64 Y.seq, .slice va vn vc] 30))
  clear hu hv
  go_enter Tryz.func45, Tryz.ntmps45
  go_upto_region 1 with fail
  generalize (w.alloc (.cells #[.int .i64 X.id.1, .int .i64 X.id.2, .int .i64 X.bal, .int .i64 X.st, .int .i64 X.k, .int .i64 X.key, .int .i64 X.v, .int .i64 X.seq, .slice ua un uc] 30)).alloc (.cells #[.int .i64 Y.id.1, .int .i64 Y.id.2, .int .i64 Y.bal, .int .i64 Y.st, .int .i64 Y.k, .int .i64 Y.key, .int .i64 Y.v, .int .i64 Y.seq, .slice va vn vc] 30) = w1 at A R D ⊢
  obtain ⟨⟨y0, y1, y2, y3, y4, y5, y6, y7, y8⟩, _, yl⟩ := nine_all A.out
  obtain ⟨⟨z0, z1, z2, z3, z4, z5, z6, z7, z8⟩, _, zl⟩ := nine_all R.out
  by_cases ek : X.k = Y.k
  · by_cases ekey : X.key = Y.key
    · by_cases ev : X.v = Y.v
      · by_cases eseq : X.seq = Y.seq
        · have hs : Hid (sameB X Y = q) := Lib.hid (by rw [← hq.out]; unfold sameB; rw [ek, ekey, ev, eseq]; simp)
          go_wp2_with fail
          refine (eq _ D.out).mono ?_
          rintro e w2 ⟨rfl, B⟩
          replace D := Lib.hid (bstep D.out B)
          clear B
          go_wp2_with fail
          go_ret
          exact ⟨by rw [hs.out]; rfl, D.out⟩
        · have hR : Hid (sameB X Y = false) := Lib.hid (decide_eq_false (fun g => eseq g.2.2.2.1))
          go_wp2_with fail
          go_ret
          exact ⟨by rw [hR.out]; rfl, D.out⟩
      · have hR : Hid (sameB X Y = false) := Lib.hid (decide_eq_false (fun g => ev g.2.2.1))
        go_wp2_with fail
        go_ret
        exact ⟨by rw [hR.out]; rfl, D.out⟩
    · have hR : Hid (sameB X Y = false) := Lib.hid (decide_eq_false (fun g => ekey g.2.1))
      go_wp2_with fail
      go_ret
      exact ⟨by rw [hR.out]; rfl, D.out⟩
  · have hR : Hid (sameB X Y = false) := Lib.hid (decide_eq_false (fun g => ek g.1))
    go_wp2_with fail
    go_ret
    exact ⟨by rw [hR.out]; rfl, D.out⟩
end Go.Proofs.YtiolhjjkjmepcaaGreatDoor

/- The program's FixEntry. -/
namespace Go.Proofs.YtiolhjjkjmepcaaGreatDoor
open Go.RowKit
set_option linter.unusedVariables false

section
variable {w1 wc w' : World} {a0 : Addr} {ib bb : Nat} {X : En} {ua0 : Option Addr} {un0 uc0 : Nat} {Z : En} {za : Option Addr} {zn zc : Nat}
theorem fx_keep (hb : Below wc.heap.size wc w') (h : ((wc.cell? ⟨ib, 0, none⟩ = some (.int .i64 X.id.1) ∧ wc.cell? ⟨ib, 1, none⟩ = some (.int .i64 X.id.2) ∧ wc.cell? ⟨ib, 2, none⟩ = some (.int .i64 X.bal) ∧ wc.cell? ⟨ib, 3, none⟩ = some (.int .i64 X.st) ∧ wc.cell? ⟨ib, 4, none⟩ = some (.int .i64 X.k) ∧ wc.cell? ⟨ib, 5, none⟩ = some (.int .i64 X.key) ∧ wc.cell? ⟨ib, 6, none⟩ = some (.int .i64 X.v) ∧ wc.cell? ⟨ib, 7, none⟩ = some (.int .i64 X.seq) ∧ wc.cell? ⟨ib, 8, none⟩ = some (.slice ua0 un0 uc0)) ∧ wc.cell? ⟨0, 0, none⟩ = some (.iface 173 (.pointer (some a0)))) ∧ Below w1.heap.size w1 wc) : ((w'.cell? ⟨ib, 0, none⟩ = some (.int .i64 X.id.1) ∧ w'.cell? ⟨ib, 1, none⟩ = some (.int .i64 X.id.2) ∧ w'.cell? ⟨ib, 2, none⟩ = some (.int .i64 X.bal) ∧ w'.cell? ⟨ib, 3, none⟩ = some (.int .i64 X.st) ∧ w'.cell? ⟨ib, 4, none⟩ = some (.int .i64 X.k) ∧ w'.cell? ⟨ib, 5, none⟩ = some (.int .i64 X.key) ∧ w'.cell? ⟨ib, 6, none⟩ = some (.int .i64 X.v) ∧ w'.cell? ⟨ib, 7, none⟩ = some (.int .i64 X.seq) ∧ w'.cell? ⟨ib, 8, none⟩ = some (.slice ua0 un0 uc0)) ∧ w'.cell? ⟨0, 0, none⟩ = some (.iface 173 (.pointer (some a0)))) ∧ Below w1.heap.size w1 w' :=
  ⟨⟨⟨cell_later hb h.1.1.1, cell_later hb h.1.1.2.1, cell_later hb h.1.1.2.2.1, cell_later hb h.1.1.2.2.2.1, cell_later hb h.1.1.2.2.2.2.1, cell_later hb h.1.1.2.2.2.2.2.1, cell_later hb h.1.1.2.2.2.2.2.2.1, cell_later hb h.1.1.2.2.2.2.2.2.2.1, cell_later hb h.1.1.2.2.2.2.2.2.2.2⟩, cell_later hb h.1.2⟩, h.2.trans (hb.mono h.2.size)⟩
theorem fx_drew (h : ((wc.cell? ⟨ib, 0, none⟩ = some (.int .i64 X.id.1) ∧ wc.cell? ⟨ib, 1, none⟩ = some (.int .i64 X.id.2) ∧ wc.cell? ⟨ib, 2, none⟩ = some (.int .i64 X.bal) ∧ wc.cell? ⟨ib, 3, none⟩ = some (.int .i64 X.st) ∧ wc.cell? ⟨ib, 4, none⟩ = some (.int .i64 X.k) ∧ wc.cell? ⟨ib, 5, none⟩ = some (.int .i64 X.key) ∧ wc.cell? ⟨ib, 6, none⟩ = some (.int .i64 X.v) ∧ wc.cell? ⟨ib, 7, none⟩ = some (.int .i64 X.seq) ∧ wc.cell? ⟨ib, 8, none⟩ = some (.slice ua0 un0 uc0)) ∧ wc.cell? ⟨0, 0, none⟩ = some (.iface 173 (.pointer (some a0)))) ∧ Below w1.heap.size w1 wc) : ((wc.drew.cell? ⟨ib, 0, none⟩ = some (.int .i64 X.id.1) ∧ wc.drew.cell? ⟨ib, 1, none⟩ = some (.int .i64 X.id.2) ∧ wc.drew.cell? ⟨ib, 2, none⟩ = some (.int .i64 X.bal) ∧ wc.drew.cell? ⟨ib, 3, none⟩ = some (.int .i64 X.st) ∧ wc.drew.cell? ⟨ib, 4, none⟩ = some (.int .i64 X.k) ∧ wc.drew.cell? ⟨ib, 5, none⟩ = some (.int .i64 X.key) ∧ wc.drew.cell? ⟨ib, 6, none⟩ = some (.int .i64 X.v) ∧ wc.drew.cell? ⟨ib, 7, none⟩ = some (.int .i64 X.seq) ∧ wc.drew.cell? ⟨ib, 8, none⟩ = some (.slice ua0 un0 uc0)) ∧ wc.drew.cell? ⟨0, 0, none⟩ = some (.iface 173 (.pointer (some a0)))) ∧ Below w1.heap.size w1 wc.drew := ⟨h.1, h.2.drew⟩
theorem fy_keep (lk : ∀ W, Below w1.heap.size w1 W → (Instr.lookup 60 (.map (some bb)) (.agg #[.int .i64 X.id.1, .int .i64 X.id.2]) false).run Tryz.prog W = .ok (.agg #[.int .i64 Z.id.1, .int .i64 Z.id.2, .int .i64 Z.bal, .int .i64 Z.st, .int .i64 Z.k, .int .i64 Z.key, .int .i64 Z.v, .int .i64 Z.seq, .slice za zn zc]) W) (hb : Below wc.heap.size wc w') (h : ((wc.cell? ⟨ib, 0, none⟩ = some (.int .i64 X.id.1) ∧ wc.cell? ⟨ib, 1, none⟩ = some (.int .i64 X.id.2) ∧ wc.cell? ⟨ib, 2, none⟩ = some (.int .i64 X.bal) ∧ wc.cell? ⟨ib, 3, none⟩ = some (.int .i64 X.st) ∧ wc.cell? ⟨ib, 4, none⟩ = some (.int .i64 X.k) ∧ wc.cell? ⟨ib, 5, none⟩ = some (.int .i64 X.key) ∧ wc.cell? ⟨ib, 6, none⟩ = some (.int .i64 X.v) ∧ wc.cell? ⟨ib, 7, none⟩ = some (.int .i64 X.seq) ∧ wc.cell? ⟨ib, 8, none⟩ = some (.slice ua0 un0 uc0)) ∧ (Instr.lookup 60 (.map (some bb)) (.agg #[.int .i64 X.id.1, .int .i64 X.id.2]) false).run Tryz.prog wc = .ok (.agg #[.int .i64 Z.id.1, .int .i64 Z.id.2, .int .i64 Z.bal, .int .i64 Z.st, .int .i64 Z.k, .int .i64 Z.key, .int .i64 Z.v, .int .i64 Z.seq, .slice za zn zc]) wc) ∧ Below w1.heap.size w1 wc) : ((w'.cell? ⟨ib, 0, none⟩ = some (.int .i64 X.id.1) ∧ w'.cell? ⟨ib, 1, none⟩ = some (.int .i64 X.id.2) ∧ w'.cell? ⟨ib, 2, none⟩ = some (.int .i64 X.bal) ∧ w'.cell? ⟨ib, 3, none⟩ = some (.int .i64 X.st) ∧ w'.cell? ⟨ib, 4, none⟩ = some (.int .i64 X.k) ∧ w'.cell? ⟨ib, 5, none⟩ = some (.int .i64 X.key) ∧ w'.cell? ⟨ib, 6, none⟩ = some (.int .i64 X.v) ∧ w'.cell? ⟨ib, 7, none⟩ = some (.int .i64 X.seq) ∧ w'.cell? ⟨ib, 8, none⟩ = some (.slice ua0 un0 uc0)) ∧ (Instr.lookup 60 (.map (some bb)) (.agg #[.int .i64 X.id.1, .int .i64 X.id.2]) false).run Tryz.prog w' = .ok (.agg #[.int .i64 Z.id.1, .int .i64 Z.id.2, .int .i64 Z.bal, .int .i64 Z.st, .int .i64 Z.k, .int .i64 Z.key, .int .i64 Z.v, .int .i64 Z.seq, .slice za zn zc]) w') ∧ Below w1.heap.size w1 w' :=
  ⟨⟨⟨cell_later hb h.1.1.1, cell_later hb h.1.1.2.1, cell_later hb h.1.1.2.2.1, cell_later hb h.1.1.2.2.2.1, cell_later hb h.1.1.2.2.2.2.1, cell_later hb h.1.1.2.2.2.2.2.1, cell_later hb h.1.1.2.2.2.2.2.2.1, cell_later hb h.1.1.2.2.2.2.2.2.2.1, cell_later hb h.1.1.2.2.2.2.2.2.2.2⟩, lk _ (h.2.trans (hb.mono h.2.size))⟩, h.2.trans (hb.mono h.2.size)⟩
theorem fy_drew (lk : ∀ W, Below w1.heap.size w1 W → (Instr.lookup 60 (.map (some bb)) (.agg #[.int .i64 X.id.1, .int .i64 X.id.2]) false).run Tryz.prog W = .ok (.agg #[.int .i64 Z.id.1, .int .i64 Z.id.2, .int .i64 Z.bal, .int .i64 Z.st, .int .i64 Z.k, .int .i64 Z.key, .int .i64 Z.v, .int .i64 Z.seq, .slice za zn zc]) W) (h : ((wc.cell? ⟨ib, 0, none⟩ = some (.int .i64 X.id.1) ∧ wc.cell? ⟨ib, 1, none⟩ = some (.int .i64 X.id.2) ∧ wc.cell? ⟨ib, 2, none⟩ = some (.int .i64 X.bal) ∧ wc.cell? ⟨ib, 3, none⟩ = some (.int .i64 X.st) ∧ wc.cell? ⟨ib, 4, none⟩ = some (.int .i64 X.k) ∧ wc.cell? ⟨ib, 5, none⟩ = some (.int .i64 X.key) ∧ wc.cell? ⟨ib, 6, none⟩ = some (.int .i64 X.v) ∧ wc.cell? ⟨ib, 7, none⟩ = some (.int .i64 X.seq) ∧ wc.cell? ⟨ib, 8, none⟩ = some (.slice ua0 un0 uc0)) ∧ (Instr.lookup 60 (.map (some bb)) (.agg #[.int .i64 X.id.1, .int .i64 X.id.2]) false).run Tryz.prog wc = .ok (.agg #[.int .i64 Z.id.1, .int .i64 Z.id.2, .int .i64 Z.bal, .int .i64 Z.st, .int .i64 Z.k, .int .i64 Z.key, .int .i64 Z.v, .int .i64 Z.seq, .slice za zn zc]) wc) ∧ Below w1.heap.size w1 wc) : ((wc.drew.cell? ⟨ib, 0, none⟩ = some (.int .i64 X.id.1) ∧ wc.drew.cell? ⟨ib, 1, none⟩ = some (.int .i64 X.id.2) ∧ wc.drew.cell? ⟨ib, 2, none⟩ = some (.int .i64 X.bal) ∧ wc.drew.cell? ⟨ib, 3, none⟩ = some (.int .i64 X.st) ∧ wc.drew.cell? ⟨ib, 4, none⟩ = some (.int .i64 X.k) ∧ wc.drew.cell? ⟨ib, 5, none⟩ = some (.int .i64 X.key) ∧ wc.drew.cell? ⟨ib, 6, none⟩ = some (.int .i64 X.v) ∧ wc.drew.cell? ⟨ib, 7, none⟩ = some (.int .i64 X.seq) ∧ wc.drew.cell? ⟨ib, 8, none⟩ = some (.slice ua0 un0 uc0)) ∧ (Instr.lookup 60 (.map (some bb)) (.agg #[.int .i64 X.id.1, .int .i64 X.id.2]) false).run Tryz.prog wc.drew = .ok (.agg #[.int .i64 Z.id.1, .int .i64 Z.id.2, .int .i64 Z.bal, .int .i64 Z.st, .int .i64 Z.k, .int .i64 Z.key, .int .i64 Z.v, .int .i64 Z.seq, .slice za zn zc]) wc.drew) ∧ Below w1.heap.size w1 wc.drew := ⟨⟨h.1.1, lk _ h.2.drew⟩, h.2.drew⟩
end

set_option maxRecDepth 100000 in
set_option maxHeartbeats 8000000 in
theorem ifix_any (a0 a1 : Addr) (u v : Value) (E : List En) (X : En) (w : World) (h : Ens w u E) (hv : Ids w v X.deps) (hX : inR X.id) (hS : ∀ W, Below w.heap.size w W → SenIn a0 a1 W) :
    Calls Tryz.prog 19 #[u, env X v] w (TkZ (fixR E X) w) := by
  obtain ⟨ua0, un0, uc0, rfl⟩ : ∃ ua un uc, v = .slice ua un uc := by obtain ⟨a, c, e, _⟩ := hv; exact ⟨a, _, c, e⟩
  have A0 := Lib.hid (heap_alloc_new w (.cells #[.int .i64 X.id.1, .int .i64 X.id.2, .int .i64 X.bal, .int .i64 X.st, .int .i64 X.k, .int .i64 X.key, .int .i64 X.v, .int .i64 X.seq, .slice ua0 un0 uc0] 30))
  have B0 := Lib.hid ((Below.refl w.heap.size w).alloc (Nat.le_refl _) (.cells #[.int .i64 X.id.1, .int .i64 X.id.2, .int .i64 X.bal, .int .i64 X.st, .int .i64 X.k, .int .i64 X.key, .int .i64 X.v, .int .i64 X.seq, .slice ua0 un0 uc0] 30))
  obtain ⟨U, hU, bk⟩ := ibookfor_any u (.slice ua0 un0 uc0) E X 3 _ (h.up B0.out (Nat.le_refl _)) (hv.up B0.out (Nat.le_refl _))
  have hU := Lib.hid hU
  have hX := Lib.hid hX
  have hS := Lib.hid hS
  have hI := Lib.hid (fun W (hb : Below w.heap.size w W) => hv.up hb (Nat.le_refl _))
  unfold BfP at bk
  have hok : Hid (∀ ok, ok = (enB X && decide (X.st = 3)) → ok = false → fixR E X = ([], false)) := Lib.hid (by
    intro ok e1 e2
    unfold fixR
    rw [if_neg]
    rintro ⟨_, g1, g2⟩
    rw [e2, g1, g2] at e1
    simp at e1)
  obtain ⟨ok, hokE⟩ : ∃ q, Hid ((enB X && decide (X.st = 3)) = q) := ⟨_, Lib.hid rfl⟩
  rw [hokE.out] at bk
  obtain ⟨Q, hQ⟩ : ∃ q, Hid (fixR E X = q) := ⟨_, Lib.hid rfl⟩
  rw [hQ.out]
  clear h hv
  unfold env at bk ⊢
  go_enter Tryz.func19, Tryz.ntmps19
  obtain ⟨⟨y0, y1, y2, y3, y4, y5, y6, y7, y8⟩, _, ys⟩ := nine_all A0.out
  go_wp2_with fail
  refine bk.mono ?_
  rintro e w1 ⟨⟨hqt, bb, hbb, rfl, hB⟩ | ⟨hqf, rfl⟩, B⟩
  · have A1 := Lib.hid (bblk B (lt_of_heap A0.out) A0.out)
    have B1 := Lib.hid (bstep B0.out B)
    have hU1 := Lib.hid (fun k (hk : k < E.length) => (hU.out k hk).up B (Nat.le_refl _))
    have hqt := Lib.hid hqt
    have hB := Lib.hid hB
    replace hbb : w.heap.size < bb := by simp at hbb; omega
    clear B A0 B0 bk hU y0 y1 y2 y3 y4 y5 y6 y7 y8 ys
    cases ok
    · have R := Lib.hid (tkz_fail B1.out (hQ.out.symm.trans (hok.out false hokE.out.symm rfl)))
      go_wp2_with fail
      go_ret2
      exact R.out
    · have hen : Hid (enB X = true ∧ X.st = 3) := Lib.hid (by have := hokE.out; simpa using this)
      obtain ⟨lv, hlv⟩ : ∃ q, Hid (lateV a0 a1 E X = q) := ⟨_, Lib.hid rfl⟩
      obtain ⟨fb, hfb⟩ : ∃ q, Hid (fixedB E X.id = q) := ⟨_, Lib.hid rfl⟩
      have lt := fun W (hb : Below w1.heap.size w1 W) => ilate_any bb a0 a1 E U X ua0 un0 uc0 W hqt.out (hB.out.up hb hB.out.lt) (fun k hk => by obtain ⟨a, c, e, _⟩ := hU1.out k hk; exact ⟨a, _, c, e⟩) hX.out (fun W' hb' => (hS.out W' (bstep (bstep B1.out hb) hb')).1) (fun W' hb' => (hS.out W' (bstep (bstep B1.out hb) hb')).2.1)
      have i1 : ∀ W, Below w1.heap.size w1 W → Calls Tryz.prog 37 #[lv, errV a0] W fun e w' => e = .returned (.bool fb) ∧ w' = W := by
        intro W hb
        obtain ⟨_, _, hne, c0, c1, t0, t1, b0, b1⟩ := hS.out W (bstep B1.out hb)
        rw [← hlv.out, ← hfb.out]
        unfold lateV
        by_cases hf : fixedB E X.id = true
        · rw [if_pos hf, hf]; exact err_same a0 W
        · rw [if_neg hf, Bool.eq_false_iff.2 hf]
          by_cases hp : passB E X = true
          · rw [if_pos hp]; exact err_other a1 a0 _ _ _ _ W (fun h => hne h.symm) b1 b0
          · rw [if_neg hp]; exact err_nil a0 W
      rw [hlv.out] at lt
      unfold env at lt
      unfold errV at i1
      have g0 := (hS.out w1 B1.out).cells.1
      obtain ⟨⟨y0, y1, y2, y3, y4, y5, y6, y7, y8⟩, _, ys⟩ := nine_all A1.out
      have H0 := Lib.hid (show ((w1.cell? ⟨w.heap.size, 0, none⟩ = some (.int .i64 X.id.1) ∧ w1.cell? ⟨w.heap.size, 1, none⟩ = some (.int .i64 X.id.2) ∧ w1.cell? ⟨w.heap.size, 2, none⟩ = some (.int .i64 X.bal) ∧ w1.cell? ⟨w.heap.size, 3, none⟩ = some (.int .i64 X.st) ∧ w1.cell? ⟨w.heap.size, 4, none⟩ = some (.int .i64 X.k) ∧ w1.cell? ⟨w.heap.size, 5, none⟩ = some (.int .i64 X.key) ∧ w1.cell? ⟨w.heap.size, 6, none⟩ = some (.int .i64 X.v) ∧ w1.cell? ⟨w.heap.size, 7, none⟩ = some (.int .i64 X.seq) ∧ w1.cell? ⟨w.heap.size, 8, none⟩ = some (.slice ua0 un0 uc0)) ∧ w1.cell? ⟨0, 0, none⟩ = some (.iface 173 (.pointer (some a0)))) ∧ Below w1.heap.size w1 w1 from ⟨⟨⟨y0, y1, y2, y3, y4, y5, y6, y7, y8⟩, g0⟩, Below.refl _ _⟩)
      clear y0 y1 y2 y3 y4 y5 y6 y7 y8 ys g0
      go_upto_region 4 with fail
      go_region_held3 (fun w' => ((w'.cell? ⟨w.heap.size, 0, none⟩ = some (.int .i64 X.id.1) ∧ w'.cell? ⟨w.heap.size, 1, none⟩ = some (.int .i64 X.id.2) ∧ w'.cell? ⟨w.heap.size, 2, none⟩ = some (.int .i64 X.bal) ∧ w'.cell? ⟨w.heap.size, 3, none⟩ = some (.int .i64 X.st) ∧ w'.cell? ⟨w.heap.size, 4, none⟩ = some (.int .i64 X.k) ∧ w'.cell? ⟨w.heap.size, 5, none⟩ = some (.int .i64 X.key) ∧ w'.cell? ⟨w.heap.size, 6, none⟩ = some (.int .i64 X.v) ∧ w'.cell? ⟨w.heap.size, 7, none⟩ = some (.int .i64 X.seq) ∧ w'.cell? ⟨w.heap.size, 8, none⟩ = some (.slice ua0 un0 uc0)) ∧ w'.cell? ⟨0, 0, none⟩ = some (.iface 173 (.pointer (some a0)))) ∧ Below w1.heap.size w1 w') (first | exact fx_drew H0.out | assumption | exact fx_keep (by assumption) (by assumption))
        (first | (go_at_call 36; (with_reducible refine (lt _ (by assumption : ((_ ∧ _ ∧ _ ∧ _ ∧ _ ∧ _ ∧ _ ∧ _ ∧ _) ∧ _) ∧ Below w1.heap.size w1 _).2).mono ?_); rintro e w' ⟨rfl, hb⟩) | (go_at_call 37; (with_reducible refine (i1 _ (by assumption : ((_ ∧ _ ∧ _ ∧ _ ∧ _ ∧ _ ∧ _ ∧ _ ∧ _) ∧ _) ∧ Below w1.heap.size w1 _).2).mono ?_); rintro e w' ⟨rfl, hw⟩; subst hw))
      rename_i H2
      have K2 := Lib.hid (show ((_ ∧ _ ∧ _ ∧ _ ∧ _ ∧ _ ∧ _ ∧ _ ∧ _) ∧ _) ∧ Below w1.heap.size w1 _ from H2).2
      have hk2 := K2.out
      clear lt i1 H0 H2
      obtain ⟨w2, hw2⟩ : ∃ q, q = w' := ⟨_, rfl⟩
      rw [← hw2] at hk2 K2 ⊢
      clear hw2
      have A2 := Lib.hid (bblk hk2 (lt_of_heap A1.out) A1.out)
      have B2 := Lib.hid (bstep B1.out hk2)
      have hU2 := Lib.hid (fun k (hk : k < E.length) => (hU1.out k hk).up hk2 (Nat.le_refl _))
      replace hB := Lib.hid (hB.out.up hk2 hB.out.lt)
      have hlog := Lib.hid (log_of hqt.out)
      have hbk := Lib.hid (bkE_log hqt.out hB.out hU2.out)
      have hs2 := B2.out.size
      clear K2 hk2 A1 B1 hU1 hlv hok
      cases fb
      · have hE12 := hlog.out.1
        have bp := ibput_any bb _ _ E X (.slice ua0 un0 uc0) w2 (by unfold maxLen; omega) hen.out.1 hbk.out (hI.out _ B2.out)
        unfold BpZ at bp
        have hR : Hid (Q = bputR E X) := Lib.hid (hQ.out.symm.trans (by
          unfold fixR
          rw [if_pos ⟨hqt.out, hen.out.1, hen.out.2⟩, if_neg (by rw [hfb.out]; simp)]
          unfold bputR
          by_cases h12 : (putE X E).length ≤ 12
          · rw [lputR_good hqt.out hen.out.1 h12, if_pos h12]
          · rw [lputR_long h12, if_neg h12]))
        obtain ⟨⟨N, q2⟩, hQ2⟩ : ∃ r, Hid (bputR E X = r) := ⟨_, Lib.hid rfl⟩
        rw [hQ2.out] at bp hR
        dsimp only at bp
        unfold env at bp
        obtain ⟨⟨y0, y1, y2, y3, y4, y5, y6, y7, y8⟩, _, ys⟩ := nine_all A2.out
        clear hB hU2 hI A2 hlog hbk
        go_wp2_with fail
        refine bp.mono ?_
        rintro e w4 ⟨⟨v4, rfl, O4⟩, K4⟩
        have B4 : Hid (Below w.heap.size w w4) := Lib.hid (B2.out.trans ((K4.mono hs2).below (Nat.le_of_lt hbb)))
        have O4 := Lib.hid (O4.wide hs2 (Nat.le_refl _) (Nat.le_refl _))
        obtain ⟨g4, c4, hv4, _⟩ := O4.out.shape
        subst hv4
        clear K4 bp y0 y1 y2 y3 y4 y5 y6 y7 y8 ys
        go_wp2_with fail
        go_ret2
        rw [TkZ, hR.out]
        exact ⟨⟨_, rfl, O4.out⟩, B4.out⟩
      · have hex : ∃ k, k < E.length ∧ (E.getD k en0).id = X.id := by
          by_cases h : ∃ k, k < E.length ∧ (E.getD k en0).id = X.id
          · exact h
          · have h1 := hfb.out
            unfold fixedB at h1
            rw [lfindR_none (fun k hk e => h ⟨k, hk, e⟩)] at h1
            cases h1
        obtain ⟨k, hk, hid⟩ := hex
        have hfd := lfindR_some hqt.out hk hid
        obtain ⟨uz, hm, hIz⟩ := hbk.out.look k hk
        rw [hid] at hm
        obtain ⟨Z, hZ⟩ : ∃ Z, Hid (E.getD k en0 = Z) := ⟨_, Lib.hid rfl⟩
        rw [hZ.out] at hfd hm hIz
        obtain ⟨za, zn, zc, rfl⟩ : ∃ ua un uc, uz = .slice ua un uc := by obtain ⟨a, c, e, _⟩ := hIz; exact ⟨a, _, c, e⟩
        obtain ⟨sb, hsb⟩ : ∃ q, Hid (sameB Z X = q) := ⟨_, Lib.hid rfl⟩
        have hQ3 : Hid (Q = if sb = true then (E, true) else ([], false)) := Lib.hid (hQ.out.symm.trans (by
          unfold fixR
          rw [if_pos ⟨hqt.out, hen.out.1, hen.out.2⟩, if_pos hfb.out, hfd, hsb.out]))
        have hIz := Lib.hid hIz
        have hm := Lib.hid hm
        have lk0 : ∀ W, Below w2.heap.size w2 W → (Instr.lookup 60 (.map (some bb)) (idv2 X.id) false).run Tryz.prog W = .ok (env Z (.slice za zn zc)) W := fun W hb =>
          (hB.out.up hb hB.out.lt).at Tryz.underlying60 (Tryz.zeroValue30 _) hX.out hm.out
        have al := fun W (hb : Below w2.heap.size w2 W) => ialike_any Z X (.slice za zn zc) (.slice ua0 un0 uc0) W (hIz.out.up hb (Nat.le_refl _)) (hI.out W (bstep B2.out hb))
        rw [hsb.out] at al
        unfold env at al
        unfold idv2 at lk0
        unfold env at lk0
        have lk2 := Lib.hid lk0
        have hkl : 1 ≤ E.length := by omega
        have hen2 := fun W (hb : Below w2.heap.size w2 W) => ientries_any bb _ _ E W (hbk.out.up hb) hkl hlog.out.1
        clear lk0 hid hk hfd
        obtain ⟨⟨y0, y1, y2, y3, y4, y5, y6, y7, y8⟩, _, ys⟩ := nine_all A2.out
        have H0 := Lib.hid (show ((w2.cell? ⟨w.heap.size, 0, none⟩ = some (.int .i64 X.id.1) ∧ w2.cell? ⟨w.heap.size, 1, none⟩ = some (.int .i64 X.id.2) ∧ w2.cell? ⟨w.heap.size, 2, none⟩ = some (.int .i64 X.bal) ∧ w2.cell? ⟨w.heap.size, 3, none⟩ = some (.int .i64 X.st) ∧ w2.cell? ⟨w.heap.size, 4, none⟩ = some (.int .i64 X.k) ∧ w2.cell? ⟨w.heap.size, 5, none⟩ = some (.int .i64 X.key) ∧ w2.cell? ⟨w.heap.size, 6, none⟩ = some (.int .i64 X.v) ∧ w2.cell? ⟨w.heap.size, 7, none⟩ = some (.int .i64 X.seq) ∧ w2.cell? ⟨w.heap.size, 8, none⟩ = some (.slice ua0 un0 uc0)) ∧ (Instr.lookup 60 (.map (some bb)) (.agg #[.int .i64 X.id.1, .int .i64 X.id.2]) false).run Tryz.prog w2 = .ok (.agg #[.int .i64 Z.id.1, .int .i64 Z.id.2, .int .i64 Z.bal, .int .i64 Z.st, .int .i64 Z.k, .int .i64 Z.key, .int .i64 Z.v, .int .i64 Z.seq, .slice za zn zc]) w2) ∧ Below w2.heap.size w2 w2 from ⟨⟨⟨y0, y1, y2, y3, y4, y5, y6, y7, y8⟩, lk2.out _ (Below.refl _ _)⟩, Below.refl _ _⟩)
        clear y0 y1 y2 y3 y4 y5 y6 y7 y8 ys hm hbk hU2 hB
        go_upto_region 6 with fail
        go_region_held3 (fun w' => ((w'.cell? ⟨w.heap.size, 0, none⟩ = some (.int .i64 X.id.1) ∧ w'.cell? ⟨w.heap.size, 1, none⟩ = some (.int .i64 X.id.2) ∧ w'.cell? ⟨w.heap.size, 2, none⟩ = some (.int .i64 X.bal) ∧ w'.cell? ⟨w.heap.size, 3, none⟩ = some (.int .i64 X.st) ∧ w'.cell? ⟨w.heap.size, 4, none⟩ = some (.int .i64 X.k) ∧ w'.cell? ⟨w.heap.size, 5, none⟩ = some (.int .i64 X.key) ∧ w'.cell? ⟨w.heap.size, 6, none⟩ = some (.int .i64 X.v) ∧ w'.cell? ⟨w.heap.size, 7, none⟩ = some (.int .i64 X.seq) ∧ w'.cell? ⟨w.heap.size, 8, none⟩ = some (.slice ua0 un0 uc0)) ∧ (Instr.lookup 60 (.map (some bb)) (.agg #[.int .i64 X.id.1, .int .i64 X.id.2]) false).run Tryz.prog w' = .ok (.agg #[.int .i64 Z.id.1, .int .i64 Z.id.2, .int .i64 Z.bal, .int .i64 Z.st, .int .i64 Z.k, .int .i64 Z.key, .int .i64 Z.v, .int .i64 Z.seq, .slice za zn zc]) w') ∧ Below w2.heap.size w2 w') (first | exact fy_drew lk2.out H0.out | assumption | exact fy_keep lk2.out (by assumption) (by assumption))
          (first | (go_at_call 45; (with_reducible refine (al _ (by assumption : ((_ ∧ _ ∧ _ ∧ _ ∧ _ ∧ _ ∧ _ ∧ _ ∧ _) ∧ _) ∧ Below w2.heap.size w2 _).2).mono ?_); rintro e w' ⟨rfl, hb⟩))
        rename_i H3
        have K3 := Lib.hid (show ((_ ∧ _ ∧ _ ∧ _ ∧ _ ∧ _ ∧ _ ∧ _ ∧ _) ∧ _) ∧ Below w2.heap.size w2 _ from H3).2
        have hk3 := K3.out
        clear al lk2 H0 H3
        obtain ⟨w3, hw3⟩ : ∃ q, q = w' := ⟨_, rfl⟩
        rw [← hw3] at hk3 K3 ⊢
        clear hw3
        have B3 := Lib.hid (bstep B2.out hk3)
        cases sb
        · have R := Lib.hid (tkz_fail (Q := Q) B3.out hQ3.out)
          go_wp2_with fail
          go_ret2
          exact R.out
        · have hR : Hid (Q = (E, true)) := Lib.hid hQ3.out
          have en3 := hen2 _ hk3
          clear hen2 A2 hk3 K3
          go_wp2_with fail
          refine en3.mono ?_
          rintro e w4 ⟨v4, rfl, O4, B⟩
          have B4 := Lib.hid (bstep B3.out B)
          have O4 := Lib.hid (O4.wide B3.out.size (Nat.le_refl _) (Nat.le_refl _))
          obtain ⟨g4, c4, hv4, _⟩ := O4.out.shape
          subst hv4
          clear B en3
          go_wp2_with fail
          go_ret2
          rw [TkZ, hR.out]
          exact ⟨⟨_, rfl, O4.out⟩, B4.out⟩
  · have B1 := Lib.hid (bstep B0.out B)
    have R := Lib.hid (tkz_fail (Q := Q) B1.out (hQ.out.symm.trans (by unfold fixR; rw [if_neg]; rintro ⟨g, _⟩; rw [hqf] at g; cases g)))
    clear B A0 B0 bk hU y0 y1 y2 y3 y4 y5 y6 y7 y8 ys
    go_wp2_with fail
    go_ret2
    exact R.out
end Go.Proofs.YtiolhjjkjmepcaaGreatDoor
