/- Texts laid together. -/
import Derived.Test.YtiolhjjkjmepcaaGreatDoorC01
import Derived.Deep.RegionWith
/- The laws' sameIds, of any two lists. -/
namespace Go.Proofs.YtiolhjjkjmepcaaGreatDoor
open Go.RowKit
set_option linter.unusedVariables false

theorem idl_ne {A B : List Pid} {k : Nat} (hk : k < A.length) (hl : A.length = B.length) (h : A.getD k nop ≠ B.getD k nop) : decide (A = B) = false := decide_eq_false fun e => h (by rw [e])
theorem idl_eq {A B : List Pid} (hl : A.length = B.length) (h : ∀ j, j < A.length → A.getD j nop = B.getD j nop) : decide (A = B) = true := by
  apply decide_eq_true
  apply List.ext_getElem hl
  intro i h1 h2
  have := h i h1
  rw [List.getD_eq_getElem?_getD, List.getD_eq_getElem?_getD, List.getElem?_eq_getElem h1, List.getElem?_eq_getElem h2] at this
  simpa using this
theorem idl_len {A B : List Pid} (h : A.length ≠ B.length) : decide (A = B) = false := decide_eq_false fun e => h (by rw [e])

set_option maxRecDepth 100000 in
set_option maxHeartbeats 4000000 in
theorem sameg_at (a b oa ob ca cb : Nat) (A B : List Pid) (w : World) (hl : A.length = B.length) (hm : A.length ≤ 2000000) (ha : a < w.heap.size) (hb : b < w.heap.size)
    (hA : ∀ i, i < A.length → w.cell? ⟨a, oa + i * 2, none⟩ = some (.int .i64 (A.getD i nop).1) ∧ w.cell? ⟨a, oa + i * 2 + 1, none⟩ = some (.int .i64 (A.getD i nop).2))
    (hB : ∀ i, i < B.length → w.cell? ⟨b, ob + i * 2, none⟩ = some (.int .i64 (B.getD i nop).1) ∧ w.cell? ⟨b, ob + i * 2 + 1, none⟩ = some (.int .i64 (B.getD i nop).2)) :
    Calls Tryz.prog 22 #[.slice (some ⟨a, oa, none⟩) A.length ca, .slice (some ⟨b, ob, none⟩) B.length cb] w fun e w' => e = .returned (.bool (decide (A = B))) ∧ Below w.heap.size w w' := by
  have hA := Lib.hid hA
  have hB := Lib.hid hB
  obtain ⟨n, hn⟩ : ∃ n, Hid (A.length = n) := ⟨_, Lib.hid rfl⟩
  have hnB : Hid (B.length = n) := Lib.hid (hl.symm.trans hn.out)
  obtain ⟨q, hq⟩ : ∃ q, Hid (decide (A = B) = q) := ⟨_, Lib.hid rfl⟩
  have hl := Lib.hid hl
  rw [hn.out] at hm ⊢
  rw [hnB.out, hq.out]
  go_enter Tryz.func22, Tryz.ntmps22
  go_wp2_with fail
  go_loopw [5] (fun i wr => ∃ k : Nat, k ≤ n ∧ i = .int .i64 k ∧ Hid (∀ j, j < k → A.getD j nop = B.getD j nop) ∧ Below w.heap.size w wr) (fun i _ => n - (intOf i).toNat)
  case atStart => exact ⟨0, Nat.zero_le _, rfl, Lib.hid fun j hj => absurd hj (Nat.not_lt_zero _), Below.refl _ _⟩
  case round =>
    obtain ⟨k, hk, rfl, hs, hnx⟩ := hrel
    by_cases hlt : k < n
    · obtain ⟨h0, h1⟩ := hA.out k (by rw [hn.out]; exact hlt)
      have q0 := (hnx.cell (p := ⟨a, oa + k * 2, none⟩) ha).trans h0
      have q1 := (hnx.cell (p := ⟨a, oa + k * 2 + 1, none⟩) ha).trans h1
      clear h0 h1
      obtain ⟨h0, h1⟩ := hB.out k (by rw [hnB.out]; exact hlt)
      have r0 := (hnx.cell (p := ⟨b, ob + k * 2, none⟩) hb).trans h0
      have r1 := (hnx.cell (p := ⟨b, ob + k * 2 + 1, none⟩) hb).trans h1
      clear h0 h1 hA hB
      obtain ⟨c, hc⟩ : ∃ c, Hid (A.getD k nop = c) := ⟨_, Lib.hid rfl⟩
      obtain ⟨d, hd⟩ : ∃ d, Hid (B.getD k nop = d) := ⟨_, Lib.hid rfl⟩
      rw [hc.out] at q0 q1
      rw [hd.out] at r0 r1
      obtain ⟨x, y⟩ := c
      obtain ⟨x', y'⟩ := d
      dsimp only at q0 q1 r0 r1
      have hnx := Lib.hid hnx
      have hbad : (x, y) ≠ (x', y') → Hid (q = false) := fun e => Lib.hid (by rw [← hq.out]; exact idl_ne (k := k) (by rw [hn.out]; exact hlt) hl.out (by rw [hc.out, hd.out]; exact e))
      by_cases e1 : x = x'
      · subst e1
        by_cases e2 : y = y'
        · subst e2
          have R := Lib.hid (up_to hs.out (show A.getD k nop = B.getD k nop by rw [hc.out, hd.out]))
          clear hbad
          go_wp2_with fail
          go_quiet (fail)
          go_wp2_with fail
          go_roundw
          case rel => exact ⟨k + 1, by omega, by go_num, R, bdrewN hnx.out _⟩
          case measure => simp [intOf]; omega
        · have hR := hbad (fun e => e2 (congrArg Prod.snd e))
          clear hbad
          have e3 : (y == y') = false := by simpa using e2
          go_wp2_with fail
          go_quiet (fail)
          go_wp2_with fail
          go_ret
          exact ⟨by rw [hR.out]; rfl, bdrewN hnx.out _⟩
      · have hR := hbad (fun e => e1 (congrArg Prod.fst e))
        clear hbad
        have e3 : (x == x') = false := by simpa using e1
        go_wp2_with fail
        go_quiet (fail)
        go_wp2_with fail
        go_ret
        exact ⟨by rw [hR.out]; rfl, bdrewN hnx.out _⟩
    · obtain rfl : k = n := by omega
      have hR : Hid (q = true) := Lib.hid (by rw [← hq.out]; exact idl_eq hl.out (fun j hj => hs.out j (by rw [← hn.out]; exact hj)))
      have hnx := Lib.hid hnx
      clear hA hB
      go_wp2_with fail
      go_ret
      exact ⟨by rw [hR.out]; rfl, hnx.out⟩

theorem sameg_nil (a b : Option Addr) (ca cb : Nat) (w : World) :
    Calls Tryz.prog 22 #[.slice a 0 ca, .slice b 0 cb] w fun e w' => e = .returned (.bool true) ∧ Below w.heap.size w w' := by
  go_enter Tryz.func22, Tryz.ntmps22
  go_wp2_with fail
  refine wp_loop_rounds 1 ?_
  rw [rounds_succ]
  go_wp2_with fail
  go_ret
  exact ⟨rfl, Below.refl _ _⟩

theorem sameg_len (a b : Option Addr) (n m ca cb : Nat) (w : World) (hn : n ≤ 2000000) (hm : m ≤ 2000000) (h : n ≠ m) :
    Calls Tryz.prog 22 #[.slice a n ca, .slice b m cb] w fun e w' => e = .returned (.bool false) ∧ Below w.heap.size w w' := by
  have h' : ((n : Int) == (m : Int)) = false := by simp; omega
  go_enter Tryz.func22, Tryz.ntmps22
  go_wp2_with fail
  go_ret
  exact ⟨rfl, Below.refl _ _⟩

theorem sameg_any (u x : Value) (A B : List Pid) (w : World) (h : Ids w u A) (g : Ids w x B) :
    Calls Tryz.prog 22 #[u, x] w fun e w' => e = .returned (.bool (decide (A = B))) ∧ Below w.heap.size w w' := by
  obtain ⟨a, cap, rfl, h1, h2, h3⟩ := h
  obtain ⟨b, cap', rfl, g1, g2, g3⟩ := g
  by_cases hl : A.length = B.length
  · rcases h3 with h3 | ⟨a, off, rfl, h4, h5⟩
    · obtain rfl : A = [] := List.length_eq_zero_iff.1 h3
      obtain rfl : B = [] := List.length_eq_zero_iff.1 hl.symm
      exact sameg_nil a b cap cap' w
    · rcases g3 with g3 | ⟨b, off', rfl, g4, g5⟩
      · obtain rfl : B = [] := List.length_eq_zero_iff.1 g3
        obtain rfl : A = [] := List.length_eq_zero_iff.1 hl
        exact sameg_nil _ b cap cap' w
      · exact sameg_at a b off off' cap cap' A B w hl h2 h4 g4 h5 g5
  · rw [idl_len hl]
    exact sameg_len _ _ _ _ _ _ w h2 g2 hl
end Go.Proofs.YtiolhjjkjmepcaaGreatDoor

/- The laws' sameEntry, of any two entries. -/
namespace Go.Proofs.YtiolhjjkjmepcaaGreatDoor
open Go.RowKit
set_option linter.unusedVariables false

set_option maxRecDepth 100000 in
set_option maxHeartbeats 8000000 in
theorem sameE_any (x y : En) (u u' : Value) (w : World) (hu : Ids w u x.deps) (hv : Ids w u' y.deps) :
    Calls Tryz.prog 23 #[env x u, env y u'] w fun e w' => (∃ b, e = .returned (.bool b) ∧ (b = true ↔ x = y)) ∧ Below w.heap.size w w' := by
  have sc := fun W (hb : Below w.heap.size w W) => sameg_any u u' x.deps y.deps W (hu.up hb (Nat.le_refl _)) (hv.up hb (Nat.le_refl _))
  obtain ⟨ua, un, uc, rfl⟩ : ∃ ua un uc, u = .slice ua un uc := by obtain ⟨a, c, e, _⟩ := hu; exact ⟨a, _, c, e⟩
  obtain ⟨va, vn, vc, rfl⟩ : ∃ ua un uc, u' = .slice ua un uc := by obtain ⟨a, c, e, _⟩ := hv; exact ⟨a, _, c, e⟩
  clear hu hv
  obtain ⟨⟨p, r⟩, bal, st, k, key, v, s, C⟩ := x
  obtain ⟨⟨p', r'⟩, bal', st', k', key', v', s', C'⟩ := y
  dsimp only [env] at sc ⊢
  have D0 := Lib.hid (((Below.refl w.heap.size w).alloc (Nat.le_refl _) (.cells #[.int .i64 p, .int .i64 r, .int .i64 bal, .int .i64 st, .int .i64 k, .int .i64 key, .int .i64 v, .int .i64 s, .slice ua un uc] 30)).alloc (by simp) (.cells #[.int .i64 p', .int .i64 r', .int .i64 bal', .int .i64 st', .int .i64 k', .int .i64 key', .int .i64 v', .int .i64 s', .slice va vn vc] 30))
  go_enter Tryz.func23, Tryz.ntmps23
  by_cases e0 : p = p'
  · subst e0
    by_cases e1 : r = r'
    · subst e1
      by_cases e2 : bal = bal'
      · subst e2
        by_cases e3 : st = st'
        · subst e3
          by_cases e4 : k = k'
          · subst e4
            by_cases e5 : key = key'
            · subst e5
              by_cases e6 : v = v'
              · subst e6
                by_cases e7 : s = s'
                · subst e7
                  go_wp2_with fail
                  refine (sc _ D0.out).mono ?_
                  rintro e w1 ⟨rfl, B⟩
                  have D := Lib.hid (bstep D0.out B)
                  clear sc B D0
                  go_wp2_with fail
                  go_ret
                  exact ⟨⟨_, rfl, by simp⟩, D.out⟩
                · have F := Lib.hid (show ¬ (⟨(p, r), bal, st, k, key, v, s, C⟩ : En) = ⟨(p, r), bal, st, k, key, v, s', C'⟩ from fun h => e7 (by simp only [En.mk.injEq] at h; simp_all))
                  clear sc
                  go_wp2_with fail
                  go_ret
                  exact ⟨⟨false, rfl, by simpa using F.out⟩, D0.out⟩
              · have F := Lib.hid (show ¬ (⟨(p, r), bal, st, k, key, v, s, C⟩ : En) = ⟨(p, r), bal, st, k, key, v', s', C'⟩ from fun h => e6 (by simp only [En.mk.injEq] at h; simp_all))
                clear sc
                go_wp2_with fail
                go_ret
                exact ⟨⟨false, rfl, by simpa using F.out⟩, D0.out⟩
            · have F := Lib.hid (show ¬ (⟨(p, r), bal, st, k, key, v, s, C⟩ : En) = ⟨(p, r), bal, st, k, key', v', s', C'⟩ from fun h => e5 (by simp only [En.mk.injEq] at h; simp_all))
              clear sc
              go_wp2_with fail
              go_ret
              exact ⟨⟨false, rfl, by simpa using F.out⟩, D0.out⟩
          · have F := Lib.hid (show ¬ (⟨(p, r), bal, st, k, key, v, s, C⟩ : En) = ⟨(p, r), bal, st, k', key', v', s', C'⟩ from fun h => e4 (by simp only [En.mk.injEq] at h; simp_all))
            clear sc
            go_wp2_with fail
            go_ret
            exact ⟨⟨false, rfl, by simpa using F.out⟩, D0.out⟩
        · have F := Lib.hid (show ¬ (⟨(p, r), bal, st, k, key, v, s, C⟩ : En) = ⟨(p, r), bal, st', k', key', v', s', C'⟩ from fun h => e3 (by simp only [En.mk.injEq] at h; simp_all))
          clear sc
          go_wp2_with fail
          go_ret
          exact ⟨⟨false, rfl, by simpa using F.out⟩, D0.out⟩
      · have F := Lib.hid (show ¬ (⟨(p, r), bal, st, k, key, v, s, C⟩ : En) = ⟨(p, r), bal', st', k', key', v', s', C'⟩ from fun h => e2 (by simp only [En.mk.injEq] at h; simp_all))
        clear sc
        go_wp2_with fail
        go_ret
        exact ⟨⟨false, rfl, by simpa using F.out⟩, D0.out⟩
    · have F := Lib.hid (show ¬ (⟨(p, r), bal, st, k, key, v, s, C⟩ : En) = ⟨(p, r'), bal', st', k', key', v', s', C'⟩ from fun h => e1 (by simp only [En.mk.injEq, Prod.mk.injEq] at h; simp_all))
      clear sc
      go_wp2_with fail
      go_ret
      exact ⟨⟨false, rfl, by simpa using F.out⟩, D0.out⟩
  · have F := Lib.hid (show ¬ (⟨(p, r), bal, st, k, key, v, s, C⟩ : En) = ⟨(p', r'), bal', st', k', key', v', s', C'⟩ from fun h => e0 (by simp only [En.mk.injEq, Prod.mk.injEq] at h; simp_all))
    clear sc
    go_wp2_with fail
    go_ret
    exact ⟨⟨false, rfl, by simpa using F.out⟩, D0.out⟩
end Go.Proofs.YtiolhjjkjmepcaaGreatDoor

/- The laws' sameLog, at logs that are alike. -/
namespace Go.Proofs.YtiolhjjkjmepcaaGreatDoor
open Go.RowKit
set_option linter.unusedVariables false

theorem sameE_self (x : En) (u u' : Value) (w : World) (hu : Ids w u x.deps) (hv : Ids w u' x.deps) :
    Calls Tryz.prog 23 #[env x u, env x u'] w fun e w' => e = .returned (.bool true) ∧ Below w.heap.size w w' := by
  refine (sameE_any x x u u' w hu hv).mono ?_
  rintro e w' ⟨⟨b, rfl, hb⟩, B⟩
  exact ⟨by rw [hb.2 rfl], B⟩

set_option maxRecDepth 100000 in
set_option maxHeartbeats 4000000 in
theorem smL_at (b off ca b' off' ca' : Nat) (E : List En) (U U' : Nat → Value) (w : World) (hm : E.length ≤ 2000000) (h : EnsAt w b off E U) (h' : EnsAt w b' off' E U') :
    Calls Tryz.prog 15 #[.slice (some ⟨b, off, none⟩) E.length ca, .slice (some ⟨b', off', none⟩) E.length ca'] w fun e w' => e = .returned (.bool true) ∧ Below w.heap.size w w' := by
  have h := Lib.hid h
  have h' := Lib.hid h'
  obtain ⟨n, hn⟩ : ∃ n, Hid (E.length = n) := ⟨_, Lib.hid rfl⟩
  rw [hn.out] at hm ⊢
  go_enter Tryz.func15, Tryz.ntmps15
  go_wp2_with fail
  go_loopw [5] (fun i wr => ∃ k : Nat, k ≤ n ∧ i = .int .i64 k ∧ Hid (Below w.heap.size w wr)) (fun i _ => n - (intOf i).toNat)
  case atStart => exact ⟨0, Nat.zero_le _, rfl, Lib.hid (Below.refl _ _)⟩
  case round =>
    obtain ⟨k, hk, rfl, hnx⟩ := hrel
    by_cases hlt : k < n
    · have hkE : k < E.length := by rw [hn.out]; exact hlt
      have hA := h.out.up hnx.out (Nat.le_refl _)
      have hA' := h'.out.up hnx.out (Nat.le_refl _)
      have hbl := hA.lt
      have hbl' := hA'.lt
      have hP := hA.at_ k hkE
      have hP' := hA'.at_ k hkE
      obtain ⟨ua, un, uc, hu⟩ : ∃ ua un uc, U k = .slice ua un uc := by obtain ⟨a, c, e, _⟩ := hP.ids; exact ⟨a, _, c, e⟩
      obtain ⟨va, vn, vc, hv⟩ : ∃ ua un uc, U' k = .slice ua un uc := by obtain ⟨a, c, e, _⟩ := hP'.ids; exact ⟨a, _, c, e⟩
      rw [hu] at hP
      rw [hv] at hP'
      have sc := fun W (hB : Below wr.heap.size wr W) => sameE_self (E.getD k en0) (.slice ua un uc) (.slice va vn vc) W (hP.ids.up hB (Nat.le_refl _)) (hP'.ids.up hB (Nat.le_refl _))
      have q0 := hP.c0
      have r0 := hP'.c0
      have q1 := hP.c1
      have r1 := hP'.c1
      have q2 := hP.c2
      have r2 := hP'.c2
      have q3 := hP.c3
      have r3 := hP'.c3
      have q4 := hP.c4
      have r4 := hP'.c4
      have q5 := hP.c5
      have r5 := hP'.c5
      have q6 := hP.c6
      have r6 := hP'.c6
      have q7 := hP.c7
      have r7 := hP'.c7
      have q8 := hP.c8
      have r8 := hP'.c8
      clear hu hv hP hP' hA hA' h h'
      unfold env at sc
      generalize E.getD k en0 = x at q0 r0 q1 r1 q2 r2 q3 r3 q4 r4 q5 r5 q6 r6 q7 r7 sc
      obtain ⟨⟨p, r⟩, bal, st, ck, ckey, cv, s, C⟩ := x
      dsimp only at q0 r0 q1 r1 q2 r2 q3 r3 q4 r4 q5 r5 q6 r6 q7 r7 sc
      go_wp2_with fail
      go_region_with (first | (go_at_call 23; refine (sc _ (by first | exact Below.refl _ _ | exact Below.drew (Below.refl _ _))).mono ?_; rintro e w1 ⟨rfl, B⟩; have D1 := Lib.hid (bstep (Below.drew hnx.out) B); clear B))
      all_goals
        go_wp2_with fail
        go_roundw
        case rel => exact ⟨k + 1, by omega, by go_num, D1⟩
        case measure => simp [intOf]; omega
    · obtain rfl : k = n := by omega
      go_wp2_with fail
      go_ret
      exact ⟨rfl, hnx.out⟩

set_option maxRecDepth 100000 in
theorem smL_nil (a b : Option Addr) (ca cb : Nat) (w : World) :
    Calls Tryz.prog 15 #[.slice a 0 ca, .slice b 0 cb] w fun e w' => e = .returned (.bool true) ∧ Below w.heap.size w w' := by
  go_enter Tryz.func15, Tryz.ntmps15
  go_wp2_with fail
  refine wp_loop_rounds 1 ?_
  rw [rounds_succ]
  go_wp2_with fail
  go_ret
  exact ⟨rfl, Below.refl _ _⟩

/-- ENTRIES ARE LIKE THEMSELVES. -/
theorem smL_any (u v : Value) (E : List En) (w : World) (hu : Ens w u E) (hv : Ens w v E) :
    Calls Tryz.prog 15 #[u, v] w fun e w' => e = .returned (.bool true) ∧ Below w.heap.size w w' := by
  obtain ⟨a, cap, rfl, h1, h2, h3⟩ := hu
  obtain ⟨a', cap', rfl, g1, g2, g3⟩ := hv
  rcases h3 with h3 | ⟨b, off, U, rfl, h4⟩
  · obtain rfl : E = [] := List.length_eq_zero_iff.1 h3
    exact smL_nil a a' cap cap' w
  · rcases g3 with g3 | ⟨b', off', U', rfl, g4⟩
    · obtain rfl : E = [] := List.length_eq_zero_iff.1 g3
      exact smL_nil _ _ _ _ w
    · exact smL_at b off cap b' off' cap' E U U' w h2 h4 g4
end Go.Proofs.YtiolhjjkjmepcaaGreatDoor
