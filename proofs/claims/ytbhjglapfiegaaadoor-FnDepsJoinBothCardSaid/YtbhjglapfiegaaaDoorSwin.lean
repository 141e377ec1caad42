/- The model's DepsWithin. -/
import Derived.Test.YtbhjglapfiegaaaDoorSdep
import Derived.Test.YtbhjglapfiegaaaDoorShas
namespace Go.Proofs.YtbhjglapfiegaaaDoor
open Go.RowKit
set_option linter.unusedVariables false

theorem in_miss {A B : List Pid} {k : Nat} (hk : k < A.length) (h : hasP B (A.getD k nop) = false) : inP A B = false := by
  cases e : inP A B with
  | false => rfl
  | true =>
    have := inP_iff.1 e (A.getD k nop) (by rw [List.getD_eq_getElem?_getD, List.getElem?_eq_getElem hk]; exact List.getElem_mem _)
    unfold hasP at h
    rw [decide_eq_false_iff_not] at h
    exact absurd this h
theorem in_all {A B : List Pid} (h : ∀ j, j < A.length → hasP B (A.getD j nop) = true) : inP A B = true := by
  rw [inP_iff]
  intro x hx
  obtain ⟨i, hi, e⟩ := List.getElem_of_mem hx
  have := h i hi
  rw [List.getD_eq_getElem?_getD, List.getElem?_eq_getElem hi, Option.getD_some, e] at this
  simpa [hasP] using this

set_option maxHeartbeats 4000000 in
theorem swin_any (u v : Value) (A B : List Pid) (w : World) (h : Ids w u A) (g : Ids w v B) :
    Calls Tryd.prog 19 #[u, v] w fun e w' => e = .returned (.bool (withinB A B)) ∧ Below w.heap.size w w' := by
  have h := Lib.hid h
  have g := Lib.hid g
  unfold withinB
  obtain ⟨qa, hqa⟩ : ∃ q, Hid (srtB A = q) := ⟨_, Lib.hid rfl⟩
  obtain ⟨qb, hqb⟩ : ∃ q, Hid (srtB B = q) := ⟨_, Lib.hid rfl⟩
  obtain ⟨qi, hqi⟩ : ∃ q, Hid (inP A B = q) := ⟨_, Lib.hid rfl⟩
  have s1 := fun w h => sval_any u A w h
  rw [hqa.out] at s1
  rw [hqa.out, hqb.out, hqi.out]
  cases qa
  · go_enter Tryd.func19, Tryd.ntmps19
    go_wp2_with fail
    refine (s1 _ h.out).mono ?_
    rintro e w1 ⟨rfl, hb⟩
    have D1 := Lib.hid hb
    clear hb h g
    go_wp2_with fail
    go_ret
    exact ⟨rfl, D1.out⟩
  · have s2 := fun w h => sval_any v B w h
    rw [hqb.out] at s2
    cases qb
    · go_enter Tryd.func19, Tryd.ntmps19
      go_wp2_with fail
      refine (s1 _ h.out).mono ?_
      rintro e w1 ⟨rfl, hb⟩
      have g1 := Lib.hid (g.out.up hb (Nat.le_refl _))
      have D1 := Lib.hid hb
      clear hb h g
      go_wp2_with fail
      refine (s2 _ g1.out).mono ?_
      rintro e w2 ⟨rfl, hb⟩
      have D2 := Lib.hid (bstep D1.out hb)
      clear hb D1 g1
      go_wp2_with fail
      go_ret
      exact ⟨rfl, D2.out⟩
    · have hl12 : A.length ≤ 12 := (srt_of hqa.out).1
      obtain ⟨a, cap, hu, h1, h2, h3⟩ := h.out
      obtain ⟨n, hn⟩ : ∃ n, Hid (A.length = n) := ⟨_, Lib.hid rfl⟩
      rw [hn.out] at hl12 hu h1
      subst hu
      have h3 := Lib.hid h3
      clear h2
      go_enter Tryd.func19, Tryd.ntmps19
      go_wp2_with fail
      refine (s1 _ h.out).mono ?_
      rintro e w1 ⟨rfl, hb⟩
      have g1 := Lib.hid (g.out.up hb (Nat.le_refl _))
      have h1' := Lib.hid (h.out.up hb (Nat.le_refl _))
      have D1 := Lib.hid hb
      clear hb h g
      go_wp2_with fail
      refine (s2 _ g1.out).mono ?_
      rintro e w2 ⟨rfl, hb⟩
      have g2 := Lib.hid (g1.out.up hb (Nat.le_refl _))
      have D2 := Lib.hid (bstep D1.out hb)
      clear hb D1 g1 h1'
      go_wp2_with fail
      go_loopw [5] (fun i wr => ∃ k : Nat, k ≤ n ∧ i = .int .i64 k ∧ Hid (∀ j, j < k → hasP B (A.getD j nop) = true) ∧ Hid (Below w2.heap.size w2 wr)) (fun i _ => n - (intOf i).toNat)
      case atStart => exact ⟨0, Nat.zero_le _, rfl, Lib.hid fun j hj => absurd hj (Nat.not_lt_zero _), Lib.hid (Below.refl _ _)⟩
      case round =>
        obtain ⟨k, hk, rfl, hin, hnx⟩ := hrel
        by_cases hlt : k < n
        · rcases h3.out with h3' | ⟨b, off, hab, hb1, hb2⟩
          · have := hn.out; omega
          · subst hab
            obtain ⟨h0, h1⟩ := hb2 k (by rw [hn.out]; exact hlt)
            have D3 := bstep D2.out hnx.out
            have q0 := (D3.cell (p := ⟨b, off + k * 2, none⟩) hb1).trans h0
            have q1 := (D3.cell (p := ⟨b, off + k * 2 + 1, none⟩) hb1).trans h1
            have D3 := Lib.hid D3
            clear h0 h1 hb2 h3
            obtain ⟨c, hc⟩ : ∃ c, Hid (A.getD k nop = c) := ⟨_, Lib.hid rfl⟩
            rw [hc.out] at q0 q1
            obtain ⟨p, r⟩ := c
            dsimp only at q0 q1
            have sh := shas_any v B p r _ (g2.out.up hnx.out (Nat.le_refl _))
            obtain ⟨q, hq⟩ : ∃ q, Hid (hasP B (p, r) = q) := ⟨_, Lib.hid rfl⟩
            rw [hq.out] at sh
            have hq' : Hid (hasP B (A.getD k nop) = q) := Lib.hid (by rw [hc.out]; exact hq.out)
            cases q
            · have hR := in_miss (by rw [hn.out]; exact hlt) hq'.out
              rw [hqi.out] at hR
              subst hR
              clear g2
              go_wp2_with fail
              refine sh.mono ?_
              rintro e w3 ⟨rfl, hb⟩
              have D4 := Lib.hid (bstep D3.out hb)
              clear hb q0 q1 sh
              go_wp2_with fail
              go_ret
              exact ⟨rfl, D4.out⟩
            · have hin' := Lib.hid (up_to hin.out hq'.out)
              clear g2
              go_wp2_with fail
              refine sh.mono ?_
              rintro e w3 ⟨rfl, hb⟩
              have D4 := Lib.hid (bstep hnx.out hb)
              clear hb q0 q1 sh
              go_wp2_with fail
              go_roundw
              case rel => exact ⟨k + 1, by omega, by go_num, hin', D4⟩
              case measure => simp [intOf]; omega
        · obtain rfl : k = n := by omega
          have hR := in_all (fun j hj => hin.out j (by rw [← hn.out]; exact hj))
          rw [hqi.out] at hR
          subst hR
          have D3 := Lib.hid (bstep D2.out hnx.out)
          clear g2 h3
          go_wp2_with fail
          go_ret
          exact ⟨rfl, D3.out⟩
end Go.Proofs.YtbhjglapfiegaaaDoor
