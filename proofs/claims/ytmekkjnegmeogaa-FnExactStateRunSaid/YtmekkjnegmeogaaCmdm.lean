/- The laws' marks and sizes of slices of commands. -/
import Derived.Test.YtmekkjnegmeogaaCmds
namespace Go.Proofs.Ytmekkjnegmeogaa
open Go.RowKit
set_option linter.unusedVariables false

theorem szC_any (a : Option Addr) (n cap : Nat) (k : Int) (w : World) (hk : k = 1048576) (h : n ≤ 9223372036854775807) :
    Calls Try.prog 34 #[.slice a n cap, .int .i64 k] w fun e w' => e = .returned (.int .i64 (if 1048576 < n then -1 else 1048576 - n)) ∧ Below w.heap.size w w' := by
  subst hk
  by_cases hl : 1048576 < n
  · rw [if_pos hl]
    go_enter Try.func34, Try.ntmps34
    go_wp2_with fail
    go_ret
    exact ⟨rfl, Below.refl _ _⟩
  · rw [if_neg hl]
    go_enter Try.func34, Try.ntmps34
    go_wp2_with fail
    go_ret
    exact ⟨rfl, Below.refl _ _⟩

/-- A block of numbers, as many as are wanted, free to be written. -/
def Wide (w : World) (b n : Nat) : Prop := ∃ cur t, w.heap[b]? = some (.cells cur t (0, 0)) ∧ n ≤ cur.size
theorem Wide.set {w : World} {b n : Nat} (h : Wide w b n) (i : Nat) (x : Value) : Wide (w.setCell ⟨b, i, none⟩ x) b n := by
  obtain ⟨cur, t, h1, h2⟩ := h
  exact ⟨cur.setIfInBounds i x, t, heap_setCell_same w b i cur t x h1, by simpa using h2⟩
theorem Wide.cell {w : World} {b n : Nat} (h : Wide w b n) (i : Nat) (hi : i < n) : ∃ v, w.cell? ⟨b, i, none⟩ = some v := by
  obtain ⟨cur, t, h1, h2⟩ := h
  rw [cell_of_cells h1]
  exact ⟨cur[i]'(by omega), by simp [show i < cur.size by omega]⟩
theorem Wide.free {w : World} {b n : Nat} (h : Wide w b n) (i : Nat) : w.frozen? ⟨b, i, none⟩ = false := by
  obtain ⟨cur, t, h1, _⟩ := h
  simp [World.frozen?, h1]
theorem Wide.lt {w : World} {b n : Nat} (h : Wide w b n) : b < w.heap.size := by
  obtain ⟨cur, t, h1, _⟩ := h
  exact lt_of_heap h1
theorem OwnC.wide {w : World} {b : Nat} {v : Value} {C : List Cm} (h : OwnC w b v C) : Wide w b (C.length * 3) := by
  obtain ⟨cap, cur, t, rfl, h1, h2, h3, h4⟩ := h
  refine ⟨cur, t, h1, ?_⟩
  by_cases hz : C.length = 0
  · omega
  · have := (h4 (C.length - 1) (by omega)).2.2
    rcases Nat.lt_or_ge ((C.length - 1) * 3 + 2) cur.size with h | h
    · omega
    · rw [Array.getElem?_eq_none h] at this; exact absurd this (by simp)

set_option maxHeartbeats 2000000 in
theorem markC_any (b : Nat) (u : Value) (C : List Cm) (k0 : Int) (w : World) (h : OwnC w b u C) (h0 : 0 ≤ k0) (h1 : k0 ≤ 1000000000) :
    Calls Try.prog 37 #[u, .int .i64 k0] w fun e w' => e = .returned (.int .i64 (k0 + C.length * 3)) ∧ Keep w.heap.size b w w' := by
  obtain ⟨cap, rfl, hcap⟩ := h.shape
  have hm : C.length ≤ 2000000 := by obtain ⟨_, _, _, _, _, _, h, _⟩ := h; exact h
  have hW := h.wide
  clear h
  generalize C.length = n at hW hm hcap ⊢
  have hW := Lib.hid hW
  go_enter Try.func37, Try.ntmps37
  go_wp2_with fail
  go_loopw [1, 5] (fun q i wr => ∃ k : Nat, k ≤ n ∧ i = .int .i64 k ∧ q = .int .i64 (k0 + k * 3) ∧ Hid (Wide wr b (n * 3)) ∧ Hid (Keep w.heap.size b w wr)) (fun _ i _ => n - (intOf i).toNat)
  case atStart => exact ⟨0, Nat.zero_le _, rfl, by simp, hW, Lib.hid (Keep.refl _ _ _)⟩
  case round =>
    obtain ⟨k, hk, rfl, rfl, hWr, hnx⟩ := hrel
    clear hW
    by_cases hlt : k < n
    · obtain ⟨v0, c0⟩ := hWr.out.cell (k * 3) (by omega)
      obtain ⟨v1, c1⟩ := hWr.out.cell (k * 3 + 1) (by omega)
      obtain ⟨v2, c2⟩ := hWr.out.cell (k * 3 + 2) (by omega)
      have f0 := hWr.out.free (k * 3)
      have f1 := hWr.out.free (k * 3 + 1)
      have f2 := hWr.out.free (k * 3 + 2)
      have hs := hWr.out.lt
      go_wp2_with fail
      go_roundw
      case rel => exact ⟨k + 1, by omega, by go_num, by go_num, Lib.hid (((hWr.out.set _ _).set _ _).set _ _), Lib.hid (((hnx.out.setR _ _).setR _ _).setR _ _)⟩
      case measure => simp [intOf]; omega
    · obtain rfl : k = n := by omega
      go_wp2_with fail
      go_ret
      exact ⟨rfl, hnx.out⟩
end Go.Proofs.Ytmekkjnegmeogaa
