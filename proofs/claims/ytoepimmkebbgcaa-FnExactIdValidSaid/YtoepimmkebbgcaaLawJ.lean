/- The walks of the exact laws of IdValid and IdBefore; FnBefore. -/
import Derived.Test.YtoepimmkebbgcaaLawI
import Derived.Test.YtoepimmkebbgcaaToId
import Derived.Deep.RegionHeld3
import Derived.Deep.RegionWith
namespace Go.Proofs.Ytoepimmkebbgcaa
open Go.RowKit
set_option linter.unusedVariables false

set_option maxHeartbeats 1000000 in
theorem exIdValid_any (r n : Int) (w : World) :
    Calls Try.prog 8 #[.agg #[.int .i64 r, .int .i64 n]] w fun e w' => e = .returned (.bool true) ∧ Below w.heap.size w w' := by
  go_enter Try.func8, Try.ntmps8
  go_wp2_with fail
  refine (toId_any r n _).mono ?_
  rintro e w1 ⟨rfl, hb1⟩
  have A1 := (hb1.block w.heap.size (by simp)).trans (heap_alloc_new w _)
  have D1 := Lib.hid (((Below.refl _ _).alloc (Nat.le_refl _) _).trans (hb1.mono (by simp)))
  have z1 : w.heap.size + 1 ≤ w1.heap.size := by simpa using hb1.size
  have A1 := Lib.hid A1; clear hb1
  go_wp2_with fail
  refine (svid_any r n _).mono ?_
  rintro e w2 ⟨rfl, hb2⟩
  have A2 := (hb2.block w.heap.size (by omega)).trans A1.out
  obtain ⟨a1, a2, _, _⟩ := blk2 A2
  have D2 := Lib.hid (D1.out.trans (hb2.mono (by omega)))
  have z2 := hb2.size
  clear hb2 A2 A1 D1
  go_wp2_with fail
  refine (toId_any r n _).mono ?_
  rintro e w3 ⟨rfl, hb3⟩
  have D3 := Lib.hid (D2.out.trans (hb3.mono (by omega)))
  have z3 := hb3.size
  clear hb3 D2 a1 a2
  go_wp2_with fail
  refine (iidv_any r n _).mono ?_
  rintro e w4 ⟨rfl, hb4⟩
  have D4 := Lib.hid (D3.out.trans (hb4.mono (by omega)))
  clear hb4 D3
  go_wp2_with fail
  go_ret
  exact ⟨rfl, D4.out⟩

/-- What the region's calls keep. -/
theorem keepS_up {w wc w' : World} {k v k' v' : Int} (hb : Below wc.heap.size wc w') (h : (wc.cell? ⟨w.heap.size, 0, none⟩ = some (.int .i64 k) ∧ wc.cell? ⟨w.heap.size, 1, none⟩ = some (.int .i64 v) ∧ wc.cell? ⟨w.heap.size + 1, 0, none⟩ = some (.int .i64 k') ∧ wc.cell? ⟨w.heap.size + 1, 1, none⟩ = some (.int .i64 v')) ∧ w.heap.size + 2 ≤ wc.heap.size ∧ Below w.heap.size w wc) :
    (w'.cell? ⟨w.heap.size, 0, none⟩ = some (.int .i64 k) ∧ w'.cell? ⟨w.heap.size, 1, none⟩ = some (.int .i64 v) ∧ w'.cell? ⟨w.heap.size + 1, 0, none⟩ = some (.int .i64 k') ∧ w'.cell? ⟨w.heap.size + 1, 1, none⟩ = some (.int .i64 v')) ∧ w.heap.size + 2 ≤ w'.heap.size ∧ Below w.heap.size w w' := by
  obtain ⟨⟨h1, h2, h4, h5⟩, h7, h8⟩ := h
  refine ⟨⟨?_, ?_, ?_, ?_⟩, Nat.le_trans h7 hb.size, h8.trans (hb.mono (by omega))⟩
  all_goals first | rwa [hb.cell (p := ⟨_, _, _⟩) (by simp; omega)]
theorem startS {w w' : World} {k v k' v' : Int} {t u : TypeId} (h : w' = (((w.alloc (.cells #[.int .i64 k, .int .i64 v] t)).alloc (.cells #[.int .i64 k', .int .i64 v'] u)).drew)) : (w'.cell? ⟨w.heap.size, 0, none⟩ = some (.int .i64 k) ∧ w'.cell? ⟨w.heap.size, 1, none⟩ = some (.int .i64 v) ∧ w'.cell? ⟨w.heap.size + 1, 0, none⟩ = some (.int .i64 k') ∧ w'.cell? ⟨w.heap.size + 1, 1, none⟩ = some (.int .i64 v')) ∧ w.heap.size + 2 ≤ w'.heap.size ∧ Below w.heap.size w w' := by
  subst h
  refine ⟨⟨?_, ?_, ?_, ?_⟩, ?_, (((Below.refl _ _).alloc (Nat.le_refl _) _).alloc (by simp) _).drew⟩ <;> go_simp
theorem drewS {w w' : World} {k v k' v' : Int} (h : (w'.cell? ⟨w.heap.size, 0, none⟩ = some (.int .i64 k) ∧ w'.cell? ⟨w.heap.size, 1, none⟩ = some (.int .i64 v) ∧ w'.cell? ⟨w.heap.size + 1, 0, none⟩ = some (.int .i64 k') ∧ w'.cell? ⟨w.heap.size + 1, 1, none⟩ = some (.int .i64 v')) ∧ w.heap.size + 2 ≤ w'.heap.size ∧ Below w.heap.size w w') : (w'.drew.cell? ⟨w.heap.size, 0, none⟩ = some (.int .i64 k) ∧ w'.drew.cell? ⟨w.heap.size, 1, none⟩ = some (.int .i64 v) ∧ w'.drew.cell? ⟨w.heap.size + 1, 0, none⟩ = some (.int .i64 k') ∧ w'.drew.cell? ⟨w.heap.size + 1, 1, none⟩ = some (.int .i64 v')) ∧ w.heap.size + 2 ≤ w'.drew.heap.size ∧ Below w.heap.size w w'.drew :=
  ⟨h.1, h.2.1, h.2.2.drew⟩

set_option maxHeartbeats 1000000 in
theorem exIdBefore_any (k v k' v' : Int) (w : World) :
    Calls Try.prog 9 #[.agg #[.int .i64 k, .int .i64 v], .agg #[.int .i64 k', .int .i64 v']] w fun e w' => e = .returned (.bool true) ∧ Below w.heap.size w w' := by
  have s1 := ibef_any k v k' v'
  have s2 := sbef_any k v k' v'
  generalize befB k v k' v' = q at s1 s2
  go_enter Try.func9, Try.ntmps9
  go_upto_region 1 with fail
  go_region_held3 (fun w' => (w'.cell? ⟨w.heap.size, 0, none⟩ = some (.int .i64 k) ∧ w'.cell? ⟨w.heap.size, 1, none⟩ = some (.int .i64 v) ∧ w'.cell? ⟨w.heap.size + 1, 0, none⟩ = some (.int .i64 k') ∧ w'.cell? ⟨w.heap.size + 1, 1, none⟩ = some (.int .i64 v')) ∧ w.heap.size + 2 ≤ w'.heap.size ∧ Below w.heap.size w w') (first | exact startS rfl | exact keepS_up (by assumption) (by assumption))
    (first | (go_at_call 22; refine (toId_any _ _ _).mono ?_; rintro e w' ⟨rfl, hb⟩) | (go_at_call 13; refine (s2 _).mono ?_; rintro e w' ⟨rfl, hb⟩))
  go_upto_region 2 with fail
  go_region_held3 (fun w' => (w'.cell? ⟨w.heap.size, 0, none⟩ = some (.int .i64 k) ∧ w'.cell? ⟨w.heap.size, 1, none⟩ = some (.int .i64 v) ∧ w'.cell? ⟨w.heap.size + 1, 0, none⟩ = some (.int .i64 k') ∧ w'.cell? ⟨w.heap.size + 1, 1, none⟩ = some (.int .i64 v')) ∧ w.heap.size + 2 ≤ w'.heap.size ∧ Below w.heap.size w w') (first | exact drewS (by assumption) | exact keepS_up (by assumption) (by assumption))
    (first | (go_at_call 22; refine (toId_any _ _ _).mono ?_; rintro e w' ⟨rfl, hb⟩) | (go_at_call 12; refine (s1 _).mono ?_; rintro e w' ⟨rfl, hb⟩))
  go_wp2_with fail
  go_ret
  exact ⟨by simp, (by assumption : _ ∧ _ ∧ Below w.heap.size w _).2.2⟩

theorem befB_val {k v k' v' : Int} (h1 : idB k v = true) (h2 : idB k' v' = true) : befB k v k' v' = ltB k v k' v' := by unfold befB; rw [h1, h2]; rfl

/-- What the last region holds. -/
theorem lastS {w w' w3 : World} {k v k' v' : Int} (T : Two w k v k' v' w3) (h : w' = w3.drew) : (w'.cell? ⟨w.heap.size, 0, none⟩ = some (.int .i64 k) ∧ w'.cell? ⟨w.heap.size, 1, none⟩ = some (.int .i64 v) ∧ w'.cell? ⟨w.heap.size + 1, 0, none⟩ = some (.int .i64 k') ∧ w'.cell? ⟨w.heap.size + 1, 1, none⟩ = some (.int .i64 v')) ∧ w.heap.size + 2 ≤ w'.heap.size ∧ Below w.heap.size w w' := by
  subst h
  obtain ⟨a0, a1, _, _⟩ := blk2 T.a
  obtain ⟨b0, b1, _, _⟩ := blk2 T.b
  exact ⟨⟨a0, a1, b0, b1⟩, T.z, T.d.drew⟩

set_option maxHeartbeats 4000000 in
theorem fnBefore_walk (a : Option Addr) (len cap : Nat) (w : World) (hc : CodeIn w a len cap) (hcap : cap ≤ maxLen) :
    Calls Try.prog 3 #[.slice a len cap] w fun e w' => e = .returned (.bool true) ∧ Below w.heap.size w w' := by
  have hm : cap ≤ 9223372036854775807 := by simpa [maxLen] using hcap
  have hlc := hc.1
  by_cases hl : 1048576 < len
  · clear hcap hc
    go_enter Try.func3, Try.ntmps3
    go_wp2_with fail
    go_ret
    exact ⟨rfl, Below.refl _ _⟩
  · have hc1 := Lib.hid hc
    have hcap1 := Lib.hid hcap
    clear hc hcap
    go_enter Try.func3, Try.ntmps3
    go_wp2_with fail
    refine (dtwo_any a len cap w hc1.out hcap1.out).mono ?_
    rintro e w1 ⟨k, v, k', v', rfl, D1'⟩
    have D1 := Lib.hid D1'
    clear hc1 hcap1 D1'
    have s1 := ibef_any k v k' v'
    have s2 := sbef_any k v k' v'
    have s3 := ibef_any k' v' k v
    have s4 := ibef_any k v k v
    have c1 := svid_any k v
    have c2 := svid_any k' v'
    obtain ⟨q, hq⟩ : ∃ q, Hid (befB k v k' v' = q) := ⟨_, Lib.hid rfl⟩
    rw [hq.out] at s1 s2
    obtain ⟨p1, hp1⟩ : ∃ q, Hid (idB k v = q) := ⟨_, Lib.hid rfl⟩
    rw [hp1.out] at c1
    obtain ⟨p2, hp2⟩ : ∃ q, Hid (idB k' v' = q) := ⟨_, Lib.hid rfl⟩
    rw [hp2.out] at c2
    have T1 := Lib.hid (Two.start w1 k v k' v')
    go_wp2_with fail
    refine (s1 _).mono ?_
    rintro e w2 ⟨rfl, hb⟩
    have T2 := T1.out.up hb
    obtain ⟨a0, a1, _, _⟩ := blk2 T2.a
    obtain ⟨b0, b1, _, _⟩ := blk2 T2.b
    have z2 := T2.z
    have T2 := Lib.hid T2
    clear hb T1
    go_wp2_with fail
    refine (s2 _).mono ?_
    rintro e w3 ⟨rfl, hb⟩
    have T3 := T2.out.up hb
    clear hb T2 a0 a1 b0 b1 z2
    obtain ⟨a0, a1, _, _⟩ := blk2 T3.a
    obtain ⟨b0, b1, _, _⟩ := blk2 T3.b
    have z3 := T3.z
    have T3 := Lib.hid T3
    cases p1
    · go_wp2_with fail
      refine (c1 _).mono ?_
      rintro e w4 ⟨rfl, hb⟩
      have T4 := Lib.hid (T3.out.up hb)
      clear hb T3 a0 a1 b0 b1 z3
      go_wp2_with fail
      go_ret
      exact ⟨by simp, D1.out.trans (T4.out.d.mono D1.out.size)⟩
    · go_wp2_with fail
      refine (c1 _).mono ?_
      rintro e w4 ⟨rfl, hb⟩
      have T4 := T3.out.up hb
      clear hb T3 a0 a1 b0 b1 z3
      obtain ⟨a0, a1, _, _⟩ := blk2 T4.a
      obtain ⟨b0, b1, _, _⟩ := blk2 T4.b
      have z4 := T4.z
      have T4 := Lib.hid T4
      cases p2
      · go_wp2_with fail
        refine (c2 _).mono ?_
        rintro e w5 ⟨rfl, hb⟩
        have T5 := Lib.hid (T4.out.up hb)
        clear hb T4 a0 a1 b0 b1 z4
        go_wp2_with fail
        go_ret
        exact ⟨by simp, D1.out.trans (T5.out.d.mono D1.out.size)⟩
      · go_wp2_with fail
        refine (c2 _).mono ?_
        rintro e w5 ⟨rfl, hb⟩
        have T5 := Lib.hid (T4.out.up hb)
        clear hb T4 a0 a1 b0 b1 z4 c1 c2
        have e1 := befB_val hp1.out hp2.out
        have e2 := befB_val hp2.out hp1.out
        have e3 := befB_val hp1.out hp1.out
        rw [hq.out] at e1
        rw [e2] at s3
        rw [e3] at s4
        clear hp1 hp2 hq e2 e3
        rcases (show k < k' ∨ (k = k' ∧ v < v') ∨ (k = k' ∧ v = v') ∨ (k = k' ∧ v' < v) ∨ k' < k by omega) with h | ⟨rfl, h⟩ | ⟨rfl, rfl⟩ | ⟨rfl, h⟩ | h
        · have n1 : ¬ k = k' := by omega
          rw [show ltB k v k' v' = true by simp [ltB] <;> omega] at e1
          rw [show ltB k' v' k v = false by simp [ltB] <;> omega] at s3
          rw [show ltB k v k v = false by simp [ltB]] at s4
          subst e1
          clear s1 s2
          go_upto_region 1 with fail
          go_region_held3 (fun w' => (w'.cell? ⟨w1.heap.size, 0, none⟩ = some (.int .i64 k) ∧ w'.cell? ⟨w1.heap.size, 1, none⟩ = some (.int .i64 v) ∧ w'.cell? ⟨w1.heap.size + 1, 0, none⟩ = some (.int .i64 k') ∧ w'.cell? ⟨w1.heap.size + 1, 1, none⟩ = some (.int .i64 v')) ∧ w1.heap.size + 2 ≤ w'.heap.size ∧ Below w1.heap.size w1 w') (first | exact lastS T5.out rfl | exact keepS_up (by assumption) (by assumption))
            (first | (go_at_call 12; (with_reducible refine (s3 _).mono ?_); rintro e w' ⟨rfl, hb⟩) | (go_at_call 12; (with_reducible refine (s4 _).mono ?_); rintro e w' ⟨rfl, hb⟩))
          go_wp2_with fail
          go_ret
          exact ⟨by simp, D1.out.trans ((by assumption : _ ∧ _ ∧ Below w1.heap.size w1 _).2.2.mono D1.out.size)⟩
        · have n1 : ¬ v = v' := by omega
          rw [show ltB k v k v' = true by simp [ltB] <;> omega] at e1
          rw [show ltB k v' k v = false by simp [ltB] <;> omega] at s3
          rw [show ltB k v k v = false by simp [ltB]] at s4
          subst e1
          clear s1 s2
          go_upto_region 1 with fail
          go_region_held3 (fun w' => (w'.cell? ⟨w1.heap.size, 0, none⟩ = some (.int .i64 k) ∧ w'.cell? ⟨w1.heap.size, 1, none⟩ = some (.int .i64 v) ∧ w'.cell? ⟨w1.heap.size + 1, 0, none⟩ = some (.int .i64 k) ∧ w'.cell? ⟨w1.heap.size + 1, 1, none⟩ = some (.int .i64 v')) ∧ w1.heap.size + 2 ≤ w'.heap.size ∧ Below w1.heap.size w1 w') (first | exact lastS T5.out rfl | exact keepS_up (by assumption) (by assumption))
            (first | (go_at_call 12; (with_reducible refine (s3 _).mono ?_); rintro e w' ⟨rfl, hb⟩) | (go_at_call 12; (with_reducible refine (s4 _).mono ?_); rintro e w' ⟨rfl, hb⟩))
          go_wp2_with fail
          go_ret
          exact ⟨by simp, D1.out.trans ((by assumption : _ ∧ _ ∧ Below w1.heap.size w1 _).2.2.mono D1.out.size)⟩
        · rw [show ltB k v k v = false by simp [ltB]] at e1 s3 s4
          subst e1
          clear s1 s2
          go_upto_region 1 with fail
          go_region_held3 (fun w' => (w'.cell? ⟨w1.heap.size, 0, none⟩ = some (.int .i64 k) ∧ w'.cell? ⟨w1.heap.size, 1, none⟩ = some (.int .i64 v) ∧ w'.cell? ⟨w1.heap.size + 1, 0, none⟩ = some (.int .i64 k) ∧ w'.cell? ⟨w1.heap.size + 1, 1, none⟩ = some (.int .i64 v)) ∧ w1.heap.size + 2 ≤ w'.heap.size ∧ Below w1.heap.size w1 w') (first | exact lastS T5.out rfl | exact keepS_up (by assumption) (by assumption))
            (first | (go_at_call 12; (with_reducible refine (s3 _).mono ?_); rintro e w' ⟨rfl, hb⟩) | (go_at_call 12; (with_reducible refine (s4 _).mono ?_); rintro e w' ⟨rfl, hb⟩))
          go_wp2_with fail
          go_ret
          exact ⟨by simp, D1.out.trans ((by assumption : _ ∧ _ ∧ Below w1.heap.size w1 _).2.2.mono D1.out.size)⟩
        · have n1 : ¬ v = v' := by omega
          rw [show ltB k v k v' = false by simp [ltB] <;> omega] at e1
          rw [show ltB k v' k v = true by simp [ltB] <;> omega] at s3
          rw [show ltB k v k v = false by simp [ltB]] at s4
          subst e1
          clear s1 s2
          go_upto_region 1 with fail
          go_region_held3 (fun w' => (w'.cell? ⟨w1.heap.size, 0, none⟩ = some (.int .i64 k) ∧ w'.cell? ⟨w1.heap.size, 1, none⟩ = some (.int .i64 v) ∧ w'.cell? ⟨w1.heap.size + 1, 0, none⟩ = some (.int .i64 k) ∧ w'.cell? ⟨w1.heap.size + 1, 1, none⟩ = some (.int .i64 v')) ∧ w1.heap.size + 2 ≤ w'.heap.size ∧ Below w1.heap.size w1 w') (first | exact lastS T5.out rfl | exact keepS_up (by assumption) (by assumption))
            (first | (go_at_call 12; (with_reducible refine (s3 _).mono ?_); rintro e w' ⟨rfl, hb⟩) | (go_at_call 12; (with_reducible refine (s4 _).mono ?_); rintro e w' ⟨rfl, hb⟩))
          go_wp2_with fail
          go_ret
          exact ⟨by simp, D1.out.trans ((by assumption : _ ∧ _ ∧ Below w1.heap.size w1 _).2.2.mono D1.out.size)⟩
        · have n1 : ¬ k = k' := by omega
          rw [show ltB k v k' v' = false by simp [ltB] <;> omega] at e1
          rw [show ltB k' v' k v = true by simp [ltB] <;> omega] at s3
          rw [show ltB k v k v = false by simp [ltB]] at s4
          subst e1
          clear s1 s2
          go_upto_region 1 with fail
          go_region_held3 (fun w' => (w'.cell? ⟨w1.heap.size, 0, none⟩ = some (.int .i64 k) ∧ w'.cell? ⟨w1.heap.size, 1, none⟩ = some (.int .i64 v) ∧ w'.cell? ⟨w1.heap.size + 1, 0, none⟩ = some (.int .i64 k') ∧ w'.cell? ⟨w1.heap.size + 1, 1, none⟩ = some (.int .i64 v')) ∧ w1.heap.size + 2 ≤ w'.heap.size ∧ Below w1.heap.size w1 w') (first | exact lastS T5.out rfl | exact keepS_up (by assumption) (by assumption))
            (first | (go_at_call 12; (with_reducible refine (s3 _).mono ?_); rintro e w' ⟨rfl, hb⟩) | (go_at_call 12; (with_reducible refine (s4 _).mono ?_); rintro e w' ⟨rfl, hb⟩))
          go_wp2_with fail
          go_ret
          exact ⟨by simp, D1.out.trans ((by assumption : _ ∧ _ ∧ Below w1.heap.size w1 _).2.2.mono D1.out.size)⟩
end Go.Proofs.Ytoepimmkebbgcaa
