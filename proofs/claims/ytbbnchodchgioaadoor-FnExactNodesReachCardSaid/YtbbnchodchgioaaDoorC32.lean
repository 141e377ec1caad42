/- Texts laid together. -/
import Derived.Test.YtbbnchodchgioaaDoorC01
import Derived.Test.YtbbnchodchgioaaDoorC03
import Derived.Deep.RegionWith
/- The laws' comparison of nodes. -/
namespace Go.Proofs.YtbbnchodchgioaaDoor
open Go.RowKit
set_option linter.unusedVariables false

set_option maxRecDepth 100000 in
set_option maxHeartbeats 2000000 in
/-- A node is like itself. -/
theorem eqN_any (x : Nd) (u v : Value) (w : World) (hu : Ids w u x.deps) (hv : Ids w v x.deps) :
    Calls Tryd.prog 63 #[ndv x u, ndv x v] w fun e w' => e = .returned (.bool true) ∧ Below w.heap.size w w' := by
  have sc := fun W (hb : Below w.heap.size w W) => eqP_any u v x.deps W (hu.up hb (Nat.le_refl _)) (hv.up hb (Nat.le_refl _))
  obtain ⟨ua, uc, rfl, _⟩ := hu
  obtain ⟨va, vc, rfl, _⟩ := hv
  obtain ⟨⟨p, r⟩, s, C⟩ := x
  dsimp only [ndv] at sc ⊢
  obtain ⟨n, hn⟩ : ∃ n, Hid (C.length = n) := ⟨_, Lib.hid rfl⟩
  rw [hn.out] at sc ⊢
  have D0 := Lib.hid (((Below.refl w.heap.size w).alloc (Nat.le_refl _) (.cells #[.int .i64 p, .int .i64 r, .int .i64 s, .slice ua n uc] 32)).alloc (by simp) (.cells #[.int .i64 p, .int .i64 r, .int .i64 s, .slice va n vc] 32))
  go_enter Tryd.func63, Tryd.ntmps63
  go_wp2_with fail
  refine (eqP1 p r _).mono ?_
  rintro e w1 ⟨rfl, B⟩
  have D1 := Lib.hid (D0.out.trans (B.mono D0.out.size))
  have A1 := Lib.hid ((B.block w.heap.size (by simp; omega)).trans (hold (heap_alloc_new w (.cells #[.int .i64 p, .int .i64 r, .int .i64 s, .slice ua n uc] 32))))
  have O1 := Lib.hid ((B.block (w.heap.size + 1) (by simp)).trans (heap_alloc_at _ (.cells #[.int .i64 p, .int .i64 r, .int .i64 s, .slice va n vc] 32) _ (by simp)))
  obtain ⟨a0, a1, a2, a3⟩ := four_cells A1.out
  obtain ⟨o0, o1, o2, o3⟩ := four_cells O1.out
  clear D0 B
  go_wp2_with fail
  refine (sc _ D1.out).mono ?_
  rintro e w2 ⟨rfl, B⟩
  have D2 := Lib.hid (bstep D1.out B)
  clear sc B D1
  go_wp2_with fail
  go_ret
  exact ⟨rfl, D2.out⟩

set_option maxRecDepth 100000 in
set_option maxHeartbeats 4000000 in
theorem eqNs_at (b off ca b' off' ca' : Nat) (N : List Nd) (w : World) (hb : b < w.heap.size) (hb' : b' < w.heap.size) (hm : N.length ≤ 2000000) (h : ∀ i, i < N.length → NdIn w b (off + i * 4) (N.getD i nd0)) (h' : ∀ i, i < N.length → NdIn w b' (off' + i * 4) (N.getD i nd0)) :
    Calls Tryd.prog 35 #[.slice (some ⟨b, off, none⟩) N.length ca, .slice (some ⟨b', off', none⟩) N.length ca'] w fun e w' => e = .returned (.bool true) ∧ Below w.heap.size w w' := by
  have h := Lib.hid h
  have h' := Lib.hid h'
  obtain ⟨n, hn⟩ : ∃ n, Hid (N.length = n) := ⟨_, Lib.hid rfl⟩
  rw [hn.out] at hm ⊢
  go_enter Tryd.func35, Tryd.ntmps35
  go_wp2_with fail
  go_loopw [5] (fun i wr => ∃ k : Nat, k ≤ n ∧ i = .int .i64 k ∧ Below w.heap.size w wr) (fun i _ => n - (intOf i).toNat)
  case atStart => exact ⟨0, Nat.zero_le _, rfl, Below.refl _ _⟩
  case round =>
    obtain ⟨k, hk, rfl, hnx⟩ := hrel
    by_cases hlt : k < n
    · obtain ⟨ua, un, uc, h0, h1, h2, h3, h4⟩ := h.out k (by rw [hn.out]; exact hlt)
      obtain ⟨va, vn, vc, g0, g1, g2, g3, g4⟩ := h'.out k (by rw [hn.out]; exact hlt)
      have q0 := (hnx.cell (p := ⟨b, off + k * 4, none⟩) hb).trans h0
      have q1 := (hnx.cell (p := ⟨b, off + k * 4 + 1, none⟩) hb).trans h1
      have q2 := (hnx.cell (p := ⟨b, off + k * 4 + 2, none⟩) hb).trans h2
      have q3 := (hnx.cell (p := ⟨b, off + k * 4 + 3, none⟩) hb).trans h3
      have r0 := (hnx.cell (p := ⟨b', off' + k * 4, none⟩) hb').trans g0
      have r1 := (hnx.cell (p := ⟨b', off' + k * 4 + 1, none⟩) hb').trans g1
      have r2 := (hnx.cell (p := ⟨b', off' + k * 4 + 2, none⟩) hb').trans g2
      have r3 := (hnx.cell (p := ⟨b', off' + k * 4 + 3, none⟩) hb').trans g3
      have sc := fun W (hB : Below wr.heap.size wr W) => eqN_any (N.getD k nd0) (.slice ua un uc) (.slice va vn vc) W ((h4.up hnx (Nat.le_refl _)).up hB (Nat.le_refl _)) ((g4.up hnx (Nat.le_refl _)).up hB (Nat.le_refl _))
      clear h0 h1 h2 h3 h4 g0 g1 g2 g3 g4
      unfold ndv at sc
      generalize N.getD k nd0 = x at q0 q1 q2 r0 r1 r2 sc
      obtain ⟨⟨p, r⟩, s, C⟩ := x
      dsimp only at q0 q1 q2 r0 r1 r2 sc
      have hnx := Lib.hid hnx
      go_wp2_with fail
      go_region_with (first | (go_at_call 63; refine (sc _ (by first | exact Below.refl _ _ | exact Below.drew (Below.refl _ _))).mono ?_; rintro e w1 ⟨rfl, B⟩; have D1 := Lib.hid (bstep (Below.drew hnx.out) B); clear B))
      all_goals
        go_wp2_with fail
        go_roundw
        case rel => exact ⟨k + 1, by omega, by go_num, D1.out⟩
        case measure => simp [intOf]; omega
    · obtain rfl : k = n := by omega
      have hnx := Lib.hid hnx
      go_wp2_with fail
      go_ret
      exact ⟨rfl, hnx.out⟩

set_option maxRecDepth 100000 in
theorem eqNs_nil (a b : Option Addr) (ca cb : Nat) (w : World) :
    Calls Tryd.prog 35 #[.slice a 0 ca, .slice b 0 cb] w fun e w' => e = .returned (.bool true) ∧ Below w.heap.size w w' := by
  go_enter Tryd.func35, Tryd.ntmps35
  go_wp2_with fail
  refine wp_loop_rounds 1 ?_
  rw [rounds_succ]
  go_wp2_with fail
  go_ret
  exact ⟨rfl, Below.refl _ _⟩

/-- NODES ARE LIKE THEMSELVES. -/
theorem eqNs_any (u v : Value) (N : List Nd) (w : World) (hu : Nds w u N) (hv : Nds w v N) :
    Calls Tryd.prog 35 #[u, v] w fun e w' => e = .returned (.bool true) ∧ Below w.heap.size w w' := by
  obtain ⟨a, cap, rfl, h1, h2, h3⟩ := hu
  obtain ⟨a', cap', rfl, g1, g2, g3⟩ := hv
  rcases h3 with h3 | ⟨b, off, rfl, h4, h5⟩
  · obtain rfl : N = [] := List.length_eq_zero_iff.1 h3
    exact eqNs_nil a a' cap cap' w
  · rcases g3 with g3 | ⟨b', off', rfl, g4, g5⟩
    · obtain rfl : N = [] := List.length_eq_zero_iff.1 g3
      exact eqNs_nil _ _ _ _ w
    · exact eqNs_at b off cap b' off' cap' N w h4 g4 h2 h5 g5
end Go.Proofs.YtbbnchodchgioaaDoor
