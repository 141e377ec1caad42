/- Texts laid together. -/
import Derived.Test.YtiolhjjkjmepcaaGreatDoorC01
import Derived.Deep.RegionWith
/- The model's l11At. -/
namespace Go.Proofs.YtiolhjjkjmepcaaGreatDoor
open Go.RowKit
set_option linter.unusedVariables false

/-- Where an entry is. -/
def AtE (N : List En) (a : Pid) (z : Int) : Prop := (z = -1 ∧ ¬ a ∈ idsE N) ∨ ∃ k : Nat, z = k ∧ k < N.length ∧ (N.getD k en0).id = a
theorem AtE.none {N : List En} {a : Pid} (h : ∀ j, j < N.length → ¬ (N.getD j en0).id = a) : AtE N a (-1) := by
  refine .inl ⟨rfl, fun hm => ?_⟩
  obtain ⟨k, hk, e⟩ := mem_idsE.1 hm
  exact h k hk e

set_option maxRecDepth 100000 in
set_option maxHeartbeats 2000000 in
theorem seat_at (b off ca : Nat) (N : List En) (U : Nat → Value) (x y : Int) (w : World) (hm : N.length ≤ 2000000) (h : EnsAt w b off N U) :
    Calls Tryz.prog 41 #[.slice (some ⟨b, off, none⟩) N.length ca, .agg #[.int .i64 x, .int .i64 y]] w fun e w' => (∃ z, e = .returned (.int .i64 z) ∧ AtE N (x, y) z) ∧ Below w.heap.size w w' := by
  have hb := h.lt
  have h := Lib.hid h
  obtain ⟨n, hn⟩ : ∃ n, Hid (N.length = n) := ⟨_, Lib.hid rfl⟩
  rw [hn.out] at hm ⊢
  go_enter Tryz.func41, Tryz.ntmps41
  go_wp2_with fail
  go_loopw [5] (fun i wr => ∃ k : Nat, k ≤ n ∧ i = .int .i64 k ∧ Hid (∀ j, j < k → ¬ (N.getD j en0).id = (x, y)) ∧ wr.cell? ⟨w.heap.size, 0, none⟩ = some (.int .i64 x) ∧ wr.cell? ⟨w.heap.size, 1, none⟩ = some (.int .i64 y) ∧ Below w.heap.size w wr) (fun i _ => n - (intOf i).toNat)
  case atStart => exact ⟨0, Nat.zero_le _, rfl, Lib.hid (fun j hj => absurd hj (Nat.not_lt_zero _)), by go_simp, by go_simp, (Below.refl _ _).alloc (Nat.le_refl _) _⟩
  case round =>
    obtain ⟨k, hk, rfl, hno, x0, x1, hnx⟩ := hrel
    by_cases hlt : k < n
    · have hP := h.out.at_ k (by rw [hn.out]; exact hlt)
      have h0 := hP.c0
      have h1 := hP.c1
      have q0 := (hnx.cell (p := ⟨b, off + k * 9, none⟩) hb).trans h0
      have q1 := (hnx.cell (p := ⟨b, off + k * 9 + 1, none⟩) hb).trans h1
      have hbl := Nat.lt_of_lt_of_le hb hnx.size
      clear h0 h1 hP
      obtain ⟨c, hc⟩ : ∃ c, Hid ((N.getD k en0).id = c) := ⟨_, Lib.hid rfl⟩
      rw [hc.out] at q0 q1
      obtain ⟨p, r⟩ := c
      dsimp only at q0 q1
      have hnx := Lib.hid hnx
      clear h
      by_cases e1 : p = x
      · subst e1
        by_cases e2 : r = y
        · subst e2
          have R := Lib.hid (show AtE N (p, r) k from .inr ⟨k, rfl, by rw [hn.out]; exact hlt, hc.out⟩)
          go_wp2_with fail
          go_quiet (fail)
          go_wp2_with fail
          go_ret
          exact ⟨⟨_, rfl, R.out⟩, bdrewN hnx.out _⟩
        · have R := Lib.hid (up_to hno.out (show ¬ (N.getD k en0).id = (p, y) by rw [hc.out]; intro e; exact e2 (congrArg Prod.snd e)))
          go_wp2_with fail
          go_quiet (fail)
          go_wp2_with fail
          go_roundw
          case rel => exact ⟨k + 1, by omega, by go_num, R, by go_simp, by go_simp, bdrewN hnx.out _⟩
          case measure => simp [intOf]; omega
      · have R := Lib.hid (up_to hno.out (show ¬ (N.getD k en0).id = (x, y) by rw [hc.out]; intro e; exact e1 (congrArg Prod.fst e)))
        go_wp2_with fail
        go_quiet (fail)
        go_wp2_with fail
        go_roundw
        case rel => exact ⟨k + 1, by omega, by go_num, R, by go_simp, by go_simp, bdrewN hnx.out _⟩
        case measure => simp [intOf]; omega
    · obtain rfl : k = n := by omega
      have R := Lib.hid (AtE.none (N := N) (fun j hj => hno.out j (by rw [← hn.out]; exact hj)))
      have hnx := Lib.hid hnx
      clear h hno
      go_wp2_with fail
      go_ret
      exact ⟨⟨_, rfl, R.out⟩, hnx.out⟩

theorem seat_nil (a : Option Addr) (ca : Nat) (x y : Int) (w : World) :
    Calls Tryz.prog 41 #[.slice a 0 ca, .agg #[.int .i64 x, .int .i64 y]] w fun e w' => (∃ z, e = .returned (.int .i64 z) ∧ AtE [] (x, y) z) ∧ Below w.heap.size w w' := by
  have R : AtE [] (x, y) (-1) := .inl ⟨rfl, by simp [idsE]⟩
  go_enter Tryz.func41, Tryz.ntmps41
  go_wp2_with fail
  refine wp_loop_rounds 1 ?_
  rw [rounds_succ]
  go_wp2_with fail
  go_ret
  exact ⟨⟨_, rfl, R⟩, (Below.refl _ _).alloc (Nat.le_refl _) _⟩

theorem seat_any (u : Value) (N : List En) (x y : Int) (w : World) (h : Ens w u N) :
    Calls Tryz.prog 41 #[u, .agg #[.int .i64 x, .int .i64 y]] w fun e w' => (∃ z, e = .returned (.int .i64 z) ∧ AtE N (x, y) z) ∧ Below w.heap.size w w' := by
  obtain ⟨a, cap, rfl, h1, h2, h3⟩ := h
  rcases h3 with h3 | ⟨b, off, U, rfl, h4⟩
  · obtain rfl : N = [] := List.length_eq_zero_iff.1 h3
    exact seat_nil a cap x y w
  · exact seat_at b off cap N U x y w h2 h4
end Go.Proofs.YtiolhjjkjmepcaaGreatDoor

/- Two ids compared. -/
namespace Go.Proofs.YtiolhjjkjmepcaaGreatDoor
open Go.RowKit
set_option linter.unusedVariables false

theorem eq_id (p q x y : Int) (w : World) : (binOp .eql 25 (.agg #[.int .i64 p, .int .i64 q]) (.agg #[.int .i64 x, .int .i64 y])).run Tryz.prog w = .ok (.bool (decide ((p, q) = (x, y)))) w := by
  by_cases h1 : p = x
  · subst h1
    by_cases h2 : q = y
    · subst h2; simp [go_sem]
    · simp [go_sem, h2]
  · simp [go_sem, h1]
theorem ne_id (p q x y : Int) (w : World) : (binOp .neq 25 (.agg #[.int .i64 p, .int .i64 q]) (.agg #[.int .i64 x, .int .i64 y])).run Tryz.prog w = .ok (.bool (!decide ((p, q) = (x, y)))) w := by
  by_cases h1 : p = x
  · subst h1
    by_cases h2 : q = y
    · subst h2; simp [go_sem]
    · simp [go_sem, h2]
  · simp [go_sem, h1]
end Go.Proofs.YtiolhjjkjmepcaaGreatDoor
