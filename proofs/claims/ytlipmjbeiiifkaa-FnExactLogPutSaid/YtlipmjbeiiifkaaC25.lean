/- Texts laid together. -/
import Derived.Test.YtlipmjbeiiifkaaC05
/- The laws' markEntryS and heldEntryS at a result. -/
namespace Go.Proofs.Ytlipmjbeiiifkaa
open Go.RowKit
set_option linter.unusedVariables false

set_option maxRecDepth 100000 in
set_option maxHeartbeats 4000000 in
/-- MARKS IN A RESULT. -/
theorem markL_any (B T : Nat) (v : Value) (N : List En) (z0 : Int) (w : World) (h : LogO w B T v N) (hn : N.length ≤ 12) (hd : ∀ i, i < N.length → (N.getD i en0).deps.length ≤ 12) (hz0 : 0 ≤ z0) (hz1 : z0 ≤ 1000) :
    Calls Try.prog 19 #[v, .int .i64 z0] w fun e w' => e = .returned (.int .i64 (kN N z0)) ∧ LgM w' B T v N z0 ∧ Exc (fun c => B ≤ c ∧ c < T) w w' := by
  obtain ⟨g, cap, U, P, Q, rfl, hc, _, hA⟩ := h
  have hU : ∀ i, i < N.length → ∃ ua un uc, U i = .slice ua un uc := fun i hi => by obtain ⟨a, c, e, _⟩ := (hA.deps i hi).1.read; exact ⟨a, _, c, e⟩
  have hU := Lib.hid hU
  have hc := Lib.hid hc
  have hg0 := hA.g0
  have hg1 := hA.g1
  have hA := Lib.hid hA
  have hdd := Lib.hid hd
  have hdl := Lib.hid (fun k (hk : k ≤ N.length) => ks_range (fun i => N.getD i en0) z0 k (fun i hi => hdd.out i (by omega)))
  clear hd
  unfold LgM kN
  obtain ⟨n, hnn⟩ : ∃ n, Hid (N.length = n) := ⟨_, Lib.hid rfl⟩
  obtain ⟨X, hX⟩ : ∃ X : Nat → En, Hid (X = fun i => N.getD i en0) := ⟨_, Lib.hid rfl⟩
  have hX2 : Hid (∀ i, (N.getD i en0).deps.length = (X i).deps.length) := Lib.hid fun i => by rw [hX.out]
  rw [← hX.out, hnn.out] at hA hdl
  rw [hnn.out] at hn hdd hU hc ⊢
  rw [← hX.out]
  clear hX
  go_enter Try.func19, Try.ntmps19
  go_wp2_with fail
  go_loopw [1, 5] (fun q i wr => ∃ (k : Nat) (Y : Nat → En), k ≤ n ∧ i = .int .i64 k ∧ q = .int .i64 (ks X z0 k) ∧ Hid (LgAt wr B T g n Y U P Q) ∧ Hid ((∀ j, (Y j).deps.length = (X j).deps.length) ∧ ∀ j, j < k → MkE1 (ks X z0 j) (Y j)) ∧ Hid (Exc (fun c => B ≤ c ∧ c < T) w wr)) (fun _ i _ => n - (intOf i).toNat)
  case atStart => exact ⟨0, X, Nat.zero_le _, rfl, rfl, hA, Lib.hid ⟨fun _ => rfl, fun j hj => absurd hj (Nat.not_lt_zero _)⟩, Lib.hid (Exc.refl _ _)⟩
  case round =>
    clear hA
    obtain ⟨k, Y, hk, rfl, rfl, hM, hS, hE⟩ := hrel
    have hzr := hdl.out k (by omega)
    have hz9 : Hid (ks X z0 (k + 1) = ks X z0 k + 8 + 2 * ((X k).deps.length : Int)) := Lib.hid rfl
    obtain ⟨z, hz⟩ : ∃ z, Hid (ks X z0 k = z) := ⟨_, Lib.hid rfl⟩
    rw [hz.out] at hzr hz9 ⊢
    by_cases hlt : k < n
    · obtain ⟨⟨c0, c1, c2, c3, c4, c5, c6, c7, c8⟩, hf⟩ := hM.out.cells hlt
      obtain ⟨ua, un, uc, hu⟩ := hU.out k hlt
      rw [hu] at c8
      have f0 := hf (k * 9)
      have f1 := hf (k * 9 + 1)
      have f2 := hf (k * 9 + 2)
      have f3 := hf (k * 9 + 3)
      have f4 := hf (k * 9 + 4)
      have f5 := hf (k * 9 + 5)
      have f6 := hf (k * 9 + 6)
      have f7 := hf (k * 9 + 7)
      clear hf
      have hs := hM.out.lt
      have hM2 := Lib.hid (hM.out.mark8 hlt z (z + 1) (z + 1 + 1) (z + 1 + 1 + 1) (z + 1 + 1 + 1 + 1) (z + 1 + 1 + 1 + 1 + 1) (z + 1 + 1 + 1 + 1 + 1 + 1) (z + 1 + 1 + 1 + 1 + 1 + 1 + 1))
      have hE2 := ((((((((hE.out.set (b := g) (.inl ⟨hg0, hg1⟩) (k * 9) (.int .i64 (z))).set (b := g) (.inl ⟨hg0, hg1⟩) (k * 9 + 1) (.int .i64 (z + 1))).set (b := g) (.inl ⟨hg0, hg1⟩) (k * 9 + 2) (.int .i64 (z + 1 + 1))).set (b := g) (.inl ⟨hg0, hg1⟩) (k * 9 + 3) (.int .i64 (z + 1 + 1 + 1))).set (b := g) (.inl ⟨hg0, hg1⟩) (k * 9 + 4) (.int .i64 (z + 1 + 1 + 1 + 1))).set (b := g) (.inl ⟨hg0, hg1⟩) (k * 9 + 5) (.int .i64 (z + 1 + 1 + 1 + 1 + 1))).set (b := g) (.inl ⟨hg0, hg1⟩) (k * 9 + 6) (.int .i64 (z + 1 + 1 + 1 + 1 + 1 + 1))).set (b := g) (.inl ⟨hg0, hg1⟩) (k * 9 + 7) (.int .i64 (z + 1 + 1 + 1 + 1 + 1 + 1 + 1)))
      have hE2 := Lib.hid hE2
      obtain ⟨d1, d2, d3, d4⟩ := hM2.out.deps k hlt
      rw [upX_at, hu] at d1
      dsimp only at d1
      have mz := fun k0 => markI_z (P k) (Q k) (.slice ua un uc) (Y k).deps k0 _ d1
      have hl9 : Hid ((Y k).deps.length = (X k).deps.length) := Lib.hid (hS.out.1 k)
      have hl12 : (X k).deps.length ≤ 12 := by have := hdd.out k hlt; rw [hX2.out] at this; exact this
      rw [hl9.out] at mz
      have hu := Lib.hid hu
      clear hM hE d1
      obtain ⟨ln, hln⟩ : ∃ m, Hid ((X k).deps.length = m) := ⟨_, Lib.hid rfl⟩
      rw [hln.out] at mz hz9 hl12
      go_wp2_with fail
      refine (mz _ (by omega) (by omega)).mono ?_
      rintro e w3 ⟨rfl, M, hMl, hMk, hO, hE3⟩
      have hM3 := Lib.hid (hM2.out.markD (k := k) hlt (by rw [hu.out]; exact hO) hE3)
      have hE4 := Lib.hid (hE2.out.trans hE3 (fun b _ e => ⟨Nat.le_trans d2 e.1, Nat.lt_of_lt_of_le e.2 d3⟩))
      have hS3 := Lib.hid (show (∀ j, (upX (upX Y k ⟨(z, z + 1), z + 1 + 1, z + 1 + 1 + 1, z + 1 + 1 + 1 + 1, z + 1 + 1 + 1 + 1 + 1, z + 1 + 1 + 1 + 1 + 1 + 1, z + 1 + 1 + 1 + 1 + 1 + 1 + 1, (Y k).deps⟩) k { (upX Y k ⟨(z, z + 1), z + 1 + 1, z + 1 + 1 + 1, z + 1 + 1 + 1 + 1, z + 1 + 1 + 1 + 1 + 1, z + 1 + 1 + 1 + 1 + 1 + 1, z + 1 + 1 + 1 + 1 + 1 + 1 + 1, (Y k).deps⟩ k) with deps := M } j).deps.length = (X j).deps.length) ∧ ∀ j, j < k + 1 → MkE1 (ks X z0 j) (upX (upX Y k ⟨(z, z + 1), z + 1 + 1, z + 1 + 1 + 1, z + 1 + 1 + 1 + 1, z + 1 + 1 + 1 + 1 + 1, z + 1 + 1 + 1 + 1 + 1 + 1, z + 1 + 1 + 1 + 1 + 1 + 1 + 1, (Y k).deps⟩) k { (upX Y k ⟨(z, z + 1), z + 1 + 1, z + 1 + 1 + 1, z + 1 + 1 + 1 + 1, z + 1 + 1 + 1 + 1 + 1, z + 1 + 1 + 1 + 1 + 1 + 1, z + 1 + 1 + 1 + 1 + 1 + 1 + 1, (Y k).deps⟩ k) with deps := M } j) from by
        refine ⟨fun j => ?_, fun j hj => ?_⟩
        · by_cases e : j = k
          · subst e; rw [upX_at]; exact hMl.trans hln.out.symm
          · rw [upX_ne _ _ e, upX_ne _ _ e]; exact hS.out.1 j
        · by_cases e : j = k
          · subst e; rw [upX_at, upX_at, hz.out]; exact ⟨rfl, rfl, rfl, rfl, rfl, rfl, rfl, hMk⟩
          · rw [upX_ne _ _ e, upX_ne _ _ e]; exact hS.out.2 j (by omega))
      clear hM2 hE2 hE3 mz hO hMk hMl hS c0 c1 c2 c3 c4 c5 c6 c7 c8 f0 f1 f2 f3 f4 f5 f6 f7
      go_wp2_with fail
      go_roundw
      case rel => exact ⟨k + 1, _, by omega, by go_num, by rw [hz9.out]; go_num, hM3, hS3, hE4⟩
      case measure => simp [intOf]; omega
    · obtain rfl : k = n := by omega
      go_wp2_with fail
      go_ret
      exact ⟨by rw [hz.out]; rfl, ⟨g, cap, U, P, Q, Y, rfl, hc.out, hM.out, fun j hj => ⟨by rw [hX2.out]; exact hS.out.1 j, hS.out.2 j hj⟩⟩, hE.out⟩

set_option maxRecDepth 100000 in
set_option maxHeartbeats 4000000 in
/-- THE MARKS OF A RESULT ARE THERE. -/
theorem heldL_any (B T : Nat) (v : Value) (N : List En) (z0 : Int) (w : World) (h : LgM w B T v N z0) (hn : N.length ≤ 12) (hd : ∀ i, i < N.length → (N.getD i en0).deps.length ≤ 12) (hz0 : 0 ≤ z0) (hz1 : z0 ≤ 1000) :
    Calls Try.prog 21 #[v, .int .i64 z0] w fun e w' => e = .returned (.int .i64 (kN N z0)) ∧ Below w.heap.size w w' := by
  obtain ⟨g, cap, U, P, Q, Y, rfl, hc, hA, hS⟩ := h
  have hdl := Lib.hid (fun k (hk : k ≤ N.length) => ks_range (fun i => N.getD i en0) z0 k (fun i hi => hd i (by omega)))
  have hU := Lib.hid (fun i (hi : i < N.length) => show ∃ ua un uc, U i = .slice ua un uc from by obtain ⟨a, c, e, _⟩ := (hA.deps i hi).1.read; exact ⟨a, _, c, e⟩)
  have hA := Lib.hid hA
  have hS := Lib.hid hS
  have hdd := Lib.hid hd
  clear hd hc
  unfold kN
  obtain ⟨n, hnn⟩ : ∃ n, Hid (N.length = n) := ⟨_, Lib.hid rfl⟩
  obtain ⟨X, hX⟩ : ∃ X : Nat → En, Hid (X = fun i => N.getD i en0) := ⟨_, Lib.hid rfl⟩
  have hX2 : Hid (∀ i, (N.getD i en0).deps.length = (X i).deps.length) := Lib.hid fun i => by rw [hX.out]
  rw [← hX.out, hnn.out] at hdl hS
  rw [hnn.out] at hn hdd hU hA ⊢
  rw [← hX.out]
  clear hX
  go_enter Try.func21, Try.ntmps21
  go_wp2_with fail
  go_loopw [1, 5] (fun q i wr => ∃ (k : Nat), k ≤ n ∧ i = .int .i64 k ∧ q = .int .i64 (ks X z0 k) ∧ Hid (Below w.heap.size w wr)) (fun _ i _ => n - (intOf i).toNat)
  case atStart => exact ⟨0, Nat.zero_le _, rfl, rfl, Lib.hid (Below.refl _ _)⟩
  case round =>
    obtain ⟨k, hk, rfl, rfl, hB⟩ := hrel
    have hzr := hdl.out k (by omega)
    have hz9 : Hid (ks X z0 (k + 1) = ks X z0 k + 8 + 2 * ((X k).deps.length : Int)) := Lib.hid rfl
    obtain ⟨z, hz⟩ : ∃ z, Hid (ks X z0 k = z) := ⟨_, Lib.hid rfl⟩
    by_cases hlt : k < n
    · have hAk := hA.out.apart (D := fun c => w.heap.size ≤ c) (w' := wr) ⟨hB.out.os, hB.out.tape, hB.out.output, hB.out.size, fun b hb _ => hB.out.block b hb⟩ (fun b _ hb hh => by have := hA.out.top; omega)
      obtain ⟨⟨c0, c1, c2, c3, c4, c5, c6, c7, c8⟩, hf⟩ := hAk.cells hlt
      obtain ⟨ua, un, uc, hu⟩ := hU.out k hlt
      obtain ⟨hlk, m0, m1, m2, m3, m4, m5, m6, m7⟩ := hS.out k hlt
      rw [hz.out] at hzr hz9 m0 m1 m2 m3 m4 m5 m6 m7 ⊢
      rw [hu] at c8
      rw [m0] at c0 c1
      rw [m1] at c2
      rw [m2] at c3
      rw [m3] at c4
      rw [m4] at c5
      rw [m5] at c6
      rw [m6] at c7
      dsimp only at c0 c1
      have hs := hAk.lt
      have hl12 : (X k).deps.length ≤ 12 := by have := hdd.out k hlt; rw [hX2.out] at this; exact this
      have hI := (hAk.deps k hlt).1.read
      rw [hu] at hI
      have hp := fun W (hb : Below wr.heap.size wr W) => heldP_any (.slice ua un uc) (z + 1 + 1 + 1 + 1 + 1 + 1 + 1 + 1) (Y k).deps W m7 (hI.up hb (Nat.le_refl _)) (by omega) (by omega)
      rw [hX2.out] at hlk
      rw [hlk] at hp
      obtain ⟨ln, hln⟩ : ∃ m, Hid ((X k).deps.length = m) := ⟨_, Lib.hid rfl⟩
      rw [hln.out] at hp hz9 hl12
      clear hlk m0 m1 m2 m3 m4 m5 m6 m7 hf hAk hI hu
      go_wp2_with fail
      refine (hp _ (Below.refl _ _)).mono ?_
      rintro e w3 ⟨rfl, B3⟩
      have hB3 := Lib.hid (bstep hB.out B3)
      clear B3 hp hB c0 c1 c2 c3 c4 c5 c6 c7 c8
      go_wp2_with fail
      go_roundw
      case rel => exact ⟨k + 1, by omega, by go_num, by rw [hz9.out]; go_num, hB3⟩
      case measure => simp [intOf]; omega
    · obtain rfl : k = n := by omega
      go_wp2_with fail
      go_ret
      exact ⟨rfl, hB.out⟩
end Go.Proofs.Ytlipmjbeiiifkaa
