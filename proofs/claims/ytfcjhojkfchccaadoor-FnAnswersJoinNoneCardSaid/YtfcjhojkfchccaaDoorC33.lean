/- Texts laid together. -/
import Derived.Test.YtfcjhojkfchccaaDoorC01
import Derived.Deep.RegionWith
import Derived.Test.YtfcjhojkfchccaaDoorC15
/- The laws' hasId. -/
namespace Go.Proofs.YtfcjhojkfchccaaDoor
open Go.RowKit
set_option linter.unusedVariables false

set_option maxRecDepth 100000 in
set_option maxHeartbeats 2000000 in
theorem lhas_at (b off ca : Nat) (L : List Pid) (x y : Int) (w : World) (hb : b < w.heap.size) (hm : L.length ≤ 2000000) (h : ∀ i, i < L.length → w.cell? ⟨b, off + i * 2, none⟩ = some (.int .i64 (L.getD i nop).1) ∧ w.cell? ⟨b, off + i * 2 + 1, none⟩ = some (.int .i64 (L.getD i nop).2)) :
    Calls Tryd.prog 13 #[.slice (some ⟨b, off, none⟩) L.length ca, .agg #[.int .i64 x, .int .i64 y]] w fun e w' => e = .returned (.bool (hasP L (x, y))) ∧ Below w.heap.size w w' := by
  have h := Lib.hid h
  obtain ⟨n, hn⟩ : ∃ n, Hid (L.length = n) := ⟨_, Lib.hid rfl⟩
  obtain ⟨q, hq⟩ : ∃ q, Hid (hasP L (x, y) = q) := ⟨_, Lib.hid rfl⟩
  rw [hn.out] at hm ⊢
  rw [hq.out]
  go_enter Tryd.func13, Tryd.ntmps13
  go_wp2_with fail
  go_loopw [5] (fun i wr => ∃ k : Nat, k ≤ n ∧ i = .int .i64 k ∧ Hid (∀ j, j < k → ¬ L.getD j nop = (x, y)) ∧ wr.cell? ⟨w.heap.size, 0, none⟩ = some (.int .i64 x) ∧ wr.cell? ⟨w.heap.size, 1, none⟩ = some (.int .i64 y) ∧ Below w.heap.size w wr) (fun i _ => n - (intOf i).toNat)
  case atStart => exact ⟨0, Nat.zero_le _, rfl, Lib.hid (fun j hj => absurd hj (Nat.not_lt_zero _)), by go_simp, by go_simp, (Below.refl _ _).alloc (Nat.le_refl _) _⟩
  case round =>
    obtain ⟨k, hk, rfl, hno, x0, x1, hnx⟩ := hrel
    by_cases hlt : k < n
    · obtain ⟨h0, h1⟩ := h.out k (by rw [hn.out]; exact hlt)
      have q0 := (hnx.cell (p := ⟨b, off + k * 2, none⟩) hb).trans h0
      have q1 := (hnx.cell (p := ⟨b, off + k * 2 + 1, none⟩) hb).trans h1
      clear h0 h1
      obtain ⟨c, hc⟩ : ∃ c, Hid (L.getD k nop = c) := ⟨_, Lib.hid rfl⟩
      rw [hc.out] at q0 q1
      obtain ⟨p, r⟩ := c
      dsimp only at q0 q1
      have hnx := Lib.hid hnx
      clear h
      by_cases e1 : p = x
      · subst e1
        by_cases e2 : r = y
        · subst e2
          have hqt := hq.out
          rw [has_t (by rw [hn.out]; exact hlt) hc.out] at hqt
          subst hqt
          go_wp2_with fail
          go_quiet (fail)
          go_wp2_with fail
          go_ret
          exact ⟨rfl, bdrewN hnx.out _⟩
        · have R := Lib.hid (up_to hno.out (show ¬ L.getD k nop = (p, y) by rw [hc.out]; intro e; exact e2 (congrArg Prod.snd e)))
          go_wp2_with fail
          go_quiet (fail)
          go_wp2_with fail
          go_roundw
          case rel => exact ⟨k + 1, by omega, by go_num, R, by go_simp, by go_simp, bdrewN hnx.out _⟩
          case measure => simp [intOf]; omega
      · have R := Lib.hid (up_to hno.out (show ¬ L.getD k nop = (x, y) by rw [hc.out]; intro e; exact e1 (congrArg Prod.fst e)))
        go_wp2_with fail
        go_quiet (fail)
        go_wp2_with fail
        go_roundw
        case rel => exact ⟨k + 1, by omega, by go_num, R, by go_simp, by go_simp, bdrewN hnx.out _⟩
        case measure => simp [intOf]; omega
    · obtain rfl : k = n := by omega
      have hqf := hq.out
      rw [has_f (fun j hj => hno.out j (by rw [← hn.out]; exact hj))] at hqf
      subst hqf
      have hnx := Lib.hid hnx
      clear h
      go_wp2_with fail
      go_ret
      exact ⟨rfl, hnx.out⟩

theorem lhas_nil (a : Option Addr) (ca : Nat) (x y : Int) (w : World) :
    Calls Tryd.prog 13 #[.slice a 0 ca, .agg #[.int .i64 x, .int .i64 y]] w fun e w' => e = .returned (.bool (hasP [] (x, y))) ∧ Below w.heap.size w w' := by
  rw [show hasP [] (x, y) = false from rfl]
  go_enter Tryd.func13, Tryd.ntmps13
  go_wp2_with fail
  refine wp_loop_rounds 1 ?_
  rw [rounds_succ]
  go_wp2_with fail
  go_ret
  exact ⟨rfl, (Below.refl _ _).alloc (Nat.le_refl _) _⟩

theorem lhas_any (u : Value) (L : List Pid) (x y : Int) (w : World) (h : Ids w u L) :
    Calls Tryd.prog 13 #[u, .agg #[.int .i64 x, .int .i64 y]] w fun e w' => e = .returned (.bool (hasP L (x, y))) ∧ Below w.heap.size w w' := by
  obtain ⟨a, cap, rfl, h1, h2, h3⟩ := h
  rcases h3 with h3 | ⟨b, off, rfl, h4, h5⟩
  · obtain rfl : L = [] := List.length_eq_zero_iff.1 h3
    exact lhas_nil a cap x y w
  · exact lhas_at b off cap L x y w h4 h2 h5
end Go.Proofs.YtfcjhojkfchccaaDoor

/- The program's exported EntryValid. -/
namespace Go.Proofs.YtfcjhojkfchccaaDoor
open Go.RowKit
set_option linter.unusedVariables false

set_option maxRecDepth 100000 in
theorem ientry_any (e : En) (u : Value) (w : World) (h : Ids w u e.deps) :
    Calls Tryd.prog 14 #[env e u] w fun x w' => x = .returned (.bool (enB e)) ∧ Below w.heap.size w w' := by
  obtain ⟨⟨p, r⟩, bal, st, k, key, v, s, L⟩ := e
  dsimp only at h
  have D0 := (Below.refl w.heap.size w).alloc (Nat.le_refl _) (.cells #[.int .i64 p, .int .i64 r, .int .i64 bal, .int .i64 st, .int .i64 k, .int .i64 key, .int .i64 v, .int .i64 s, u] 29)
  have sv := ievalid_any ⟨(p, r), bal, st, k, key, v, s, L⟩ u _ (h.up D0 (Nat.le_refl _))
  generalize enB ⟨(p, r), bal, st, k, key, v, s, L⟩ = c at sv ⊢
  dsimp only [env] at sv ⊢
  have D0 := Lib.hid D0
  clear h
  go_enter Tryd.func14, Tryd.ntmps14
  go_wp2_with fail
  refine sv.mono ?_
  rintro e w1 ⟨rfl, B⟩
  have D1 := Lib.hid (bstep D0.out B)
  clear B sv
  go_wp2_with fail
  go_ret
  exact ⟨rfl, D1.out⟩

end Go.Proofs.YtfcjhojkfchccaaDoor
