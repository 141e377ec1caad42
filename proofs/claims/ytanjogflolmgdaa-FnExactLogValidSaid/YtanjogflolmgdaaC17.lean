/- Texts laid together. -/
import Derived.Test.YtanjogflolmgdaaC08
import Derived.Deep.RegionWith
/- The laws' comparison of slices of entries. -/
namespace Go.Proofs.Ytanjogflolmgdaa
open Go.RowKit
set_option linter.unusedVariables false

set_option maxRecDepth 100000 in
set_option maxHeartbeats 4000000 in
theorem eqEs_at (b off ca b' off' ca' : Nat) (E : List En) (U U' : Nat → Value) (w : World) (hm : E.length ≤ 2000000) (h : EnsAt w b off E U) (h' : EnsAt w b' off' E U') :
    Calls Try.prog 32 #[.slice (some ⟨b, off, none⟩) E.length ca, .slice (some ⟨b', off', none⟩) E.length ca'] w fun e w' => e = .returned (.bool true) ∧ Below w.heap.size w w' := by
  have h := Lib.hid h
  have h' := Lib.hid h'
  obtain ⟨n, hn⟩ : ∃ n, Hid (E.length = n) := ⟨_, Lib.hid rfl⟩
  rw [hn.out] at hm ⊢
  go_enter Try.func32, Try.ntmps32
  go_wp2_with fail
  go_loopw [5] (fun i wr => ∃ k : Nat, k ≤ n ∧ i = .int .i64 k ∧ Hid (Below w.heap.size w wr)) (fun i _ => n - (intOf i).toNat)
  case atStart => exact ⟨0, Nat.zero_le _, rfl, Lib.hid (Below.refl _ _)⟩
  case round =>
    obtain ⟨k, hk, rfl, hnx⟩ := hrel
    by_cases hlt : k < n
    · have hkE : k < E.length := by rw [hn.out]; exact hlt
      have hA := h.out.up hnx.out (Nat.le_refl _)
      have hA' := h'.out.up hnx.out (Nat.le_refl _)
      have hbl := hA.lt
      have hbl' := hA'.lt
      have hP := hA.at_ k hkE
      have hP' := hA'.at_ k hkE
      obtain ⟨ua, un, uc, hu⟩ : ∃ ua un uc, U k = .slice ua un uc := by obtain ⟨a, c, e, _⟩ := hP.ids; exact ⟨a, _, c, e⟩
      obtain ⟨va, vn, vc, hv⟩ : ∃ ua un uc, U' k = .slice ua un uc := by obtain ⟨a, c, e, _⟩ := hP'.ids; exact ⟨a, _, c, e⟩
      rw [hu] at hP
      rw [hv] at hP'
      have sc := fun W (hB : Below wr.heap.size wr W) => eqE_any (E.getD k en0) (.slice ua un uc) (.slice va vn vc) W (hP.ids.up hB (Nat.le_refl _)) (hP'.ids.up hB (Nat.le_refl _))
      have q0 := hP.c0
      have r0 := hP'.c0
      have q1 := hP.c1
      have r1 := hP'.c1
      have q2 := hP.c2
      have r2 := hP'.c2
      have q3 := hP.c3
      have r3 := hP'.c3
      have q4 := hP.c4
      have r4 := hP'.c4
      have q5 := hP.c5
      have r5 := hP'.c5
      have q6 := hP.c6
      have r6 := hP'.c6
      have q7 := hP.c7
      have r7 := hP'.c7
      have q8 := hP.c8
      have r8 := hP'.c8
      clear hu hv hP hP' hA hA' h h'
      unfold env at sc
      generalize E.getD k en0 = x at q0 r0 q1 r1 q2 r2 q3 r3 q4 r4 q5 r5 q6 r6 q7 r7 sc
      obtain ⟨⟨p, r⟩, bal, st, ck, ckey, cv, s, C⟩ := x
      dsimp only at q0 r0 q1 r1 q2 r2 q3 r3 q4 r4 q5 r5 q6 r6 q7 r7 sc
      go_wp2_with fail
      go_region_with (first | (go_at_call 29; refine (sc _ (by first | exact Below.refl _ _ | exact Below.drew (Below.refl _ _))).mono ?_; rintro e w1 ⟨rfl, B⟩; have D1 := Lib.hid (bstep (Below.drew hnx.out) B); clear B))
      all_goals
        go_wp2_with fail
        go_roundw
        case rel => exact ⟨k + 1, by omega, by go_num, D1⟩
        case measure => simp [intOf]; omega
    · obtain rfl : k = n := by omega
      go_wp2_with fail
      go_ret
      exact ⟨rfl, hnx.out⟩

set_option maxRecDepth 100000 in
theorem eqEs_nil (a b : Option Addr) (ca cb : Nat) (w : World) :
    Calls Try.prog 32 #[.slice a 0 ca, .slice b 0 cb] w fun e w' => e = .returned (.bool true) ∧ Below w.heap.size w w' := by
  go_enter Try.func32, Try.ntmps32
  go_wp2_with fail
  refine wp_loop_rounds 1 ?_
  rw [rounds_succ]
  go_wp2_with fail
  go_ret
  exact ⟨rfl, Below.refl _ _⟩

/-- ENTRIES ARE LIKE THEMSELVES. -/
theorem eqEs_any (u v : Value) (E : List En) (w : World) (hu : Ens w u E) (hv : Ens w v E) :
    Calls Try.prog 32 #[u, v] w fun e w' => e = .returned (.bool true) ∧ Below w.heap.size w w' := by
  obtain ⟨a, cap, rfl, h1, h2, h3⟩ := hu
  obtain ⟨a', cap', rfl, g1, g2, g3⟩ := hv
  rcases h3 with h3 | ⟨b, off, U, rfl, h4⟩
  · obtain rfl : E = [] := List.length_eq_zero_iff.1 h3
    exact eqEs_nil a a' cap cap' w
  · rcases g3 with g3 | ⟨b', off', U', rfl, g4⟩
    · obtain rfl : E = [] := List.length_eq_zero_iff.1 g3
      exact eqEs_nil _ _ _ _ w
    · exact eqEs_at b off cap b' off' cap' E U U' w h2 h4 g4
end Go.Proofs.Ytanjogflolmgdaa
