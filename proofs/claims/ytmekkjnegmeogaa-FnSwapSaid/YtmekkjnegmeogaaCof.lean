/- A state's private copy: impl.cellsOf. -/
import Derived.Test.YtmekkjnegmeogaaStv
namespace Go.Proofs.Ytmekkjnegmeogaa
open Go.RowKit
set_option linter.unusedVariables false

/-- A block that holds an array of six numbers. -/
def Cel (w : World) (b : Nat) (L : List Int) : Prop := w.heap[b]? = some (.cells (ints L).toArray 72 (0, 0)) ∧ L.length = 6

/-- What cellsOf leaves. -/
def CofPost (L : List Int) (w : World) (e : Ending) (w' : World) : Prop :=
  Below w.heap.size w w' ∧ ((stV L = true ∧ ∃ b, w.heap.size ≤ b ∧ e = .returned (.tuple #[.pointer (some ⟨b, 0, none⟩), .bool true]) ∧ Cel w' b L) ∨ (stV L = false ∧ e = .returned (.tuple #[.pointer none, .bool false])))

theorem arr_at (b off ca : Nat) (w : World) : (Instr.arrayAt 72 (.slice (some ⟨b, off, none⟩) 6 ca)).run Try.prog w = .ok (.pointer (some ⟨b, off, none⟩)) w := by kernel_rfl
theorem arr_i0 (x0 x1 x2 x3 x4 x5 : Value) (w : World) : (Instr.index 72 (.agg #[x0, x1, x2, x3, x4, x5]) (.int .i64 0)).run Try.prog w = .ok x0 w := by kernel_rfl
theorem arr_i1 (x0 x1 x2 x3 x4 x5 : Value) (w : World) : (Instr.index 72 (.agg #[x0, x1, x2, x3, x4, x5]) (.int .i64 1)).run Try.prog w = .ok x1 w := by kernel_rfl
theorem arr_i2 (x0 x1 x2 x3 x4 x5 : Value) (w : World) : (Instr.index 72 (.agg #[x0, x1, x2, x3, x4, x5]) (.int .i64 2)).run Try.prog w = .ok x2 w := by kernel_rfl
theorem arr_i3 (x0 x1 x2 x3 x4 x5 : Value) (w : World) : (Instr.index 72 (.agg #[x0, x1, x2, x3, x4, x5]) (.int .i64 3)).run Try.prog w = .ok x3 w := by kernel_rfl
theorem arr_i4 (x0 x1 x2 x3 x4 x5 : Value) (w : World) : (Instr.index 72 (.agg #[x0, x1, x2, x3, x4, x5]) (.int .i64 4)).run Try.prog w = .ok x4 w := by kernel_rfl
theorem arr_i5 (x0 x1 x2 x3 x4 x5 : Value) (w : World) : (Instr.index 72 (.agg #[x0, x1, x2, x3, x4, x5]) (.int .i64 5)).run Try.prog w = .ok x5 w := by kernel_rfl

set_option maxHeartbeats 1000000 in
theorem cof_at (b off ca : Nat) (x0 x1 x2 x3 x4 x5 : Int) (w : World) (hb : b < w.heap.size)
    (h0 : w.cell? ⟨b, off, none⟩ = some (.int .i64 x0)) (h1 : w.cell? ⟨b, off + 1, none⟩ = some (.int .i64 x1)) (h2 : w.cell? ⟨b, off + 2, none⟩ = some (.int .i64 x2)) (h3 : w.cell? ⟨b, off + 3, none⟩ = some (.int .i64 x3)) (h4 : w.cell? ⟨b, off + 4, none⟩ = some (.int .i64 x4)) (h5 : w.cell? ⟨b, off + 5, none⟩ = some (.int .i64 x5)) :
    Calls Try.prog 41 #[.slice (some ⟨b, off, none⟩) 6 ca] w (CofPost [x0, x1, x2, x3, x4, x5] w) := by
  have ka := arr_at b off ca
  obtain ⟨f, hf⟩ : ∃ f : Nat → Int, ∀ k, f k = [x0, x1, x2, x3, x4, x5].getD k 0 := ⟨_, fun _ => rfl⟩
  have f0 : f 0 = x0 := hf 0
  have f1 : f 1 = x1 := hf 1
  have f2 : f 2 = x2 := hf 2
  have f3 : f 3 = x3 := hf 3
  have f4 : f 4 = x4 := hf 4
  have f5 : f 5 = x5 := hf 5
  have ki : ∀ (k : Nat), k < 6 → ∀ w : World, (Instr.index 72 (.agg #[.int .i64 x0, .int .i64 x1, .int .i64 x2, .int .i64 x3, .int .i64 x4, .int .i64 x5]) (.int .i64 k)).run Try.prog w = .ok (.int .i64 (f k)) w := by
    intro k hk w
    rcases (show k = 0 ∨ k = 1 ∨ k = 2 ∨ k = 3 ∨ k = 4 ∨ k = 5 by omega) with rfl | rfl | rfl | rfl | rfl | rfl
    · rw [f0]; exact arr_i0 _ _ _ _ _ _ w
    · rw [f1]; exact arr_i1 _ _ _ _ _ _ w
    · rw [f2]; exact arr_i2 _ _ _ _ _ _ w
    · rw [f3]; exact arr_i3 _ _ _ _ _ _ w
    · rw [f4]; exact arr_i4 _ _ _ _ _ _ w
    · rw [f5]; exact arr_i5 _ _ _ _ _ _ w
  have hf := Lib.hid hf
  clear f0 f1 f2 f3 f4 f5
  go_enter Try.func41, Try.ntmps41
  go_wp2_with fail
  clear h0 h1 h2 h3 h4 h5 ka
  go_loopw [14] (fun i wr => ∃ k : Nat, k ≤ 6 ∧ i = .int .i64 k ∧ (∀ j, j < k → 0 ≤ f j ∧ f j ≤ 999) ∧ wr = w.alloc (.cells #[.int .i64 x0, .int .i64 x1, .int .i64 x2, .int .i64 x3, .int .i64 x4, .int .i64 x5] 72)) (fun i _ => 6 - (intOf i).toNat)
  case atStart => exact ⟨0, Nat.zero_le _, rfl, fun j hj => absurd hj (Nat.not_lt_zero _), rfl⟩
  case round =>
    obtain ⟨k, hk, rfl, heq, rfl⟩ := hrel
    have heq := Lib.hid heq
    by_cases hlt : k < 6
    · have kk := ki k hlt
      clear ki
      have hx : Hid (∃ x, f k = x) := Lib.hid ⟨_, rfl⟩
      obtain ⟨x, hx⟩ := hx.out
      rw [hx] at kk
      have hx := Lib.hid hx
      by_cases g1 : 0 ≤ x
      · by_cases g2 : x ≤ 999
        · go_wp2_with fail
          go_roundw
          case rel => exact ⟨k + 1, by omega, by go_num, up_to heq.out (by rw [hx.out]; exact ⟨g1, g2⟩), by first | rfl | trivial⟩
          case measure => simp [intOf]; omega
        · have hb : Hid (stV [x0, x1, x2, x3, x4, x5] = false) := Lib.hid (stV_bad (k := k) hlt (by rw [← hf.out, hx.out]; exact inB_f2 g2))
          go_wp2_with fail
          go_ret2
          exact ⟨(Below.refl _ _).alloc (Nat.le_refl _) _, .inr ⟨hb.out, rfl⟩⟩
      · have hb : Hid (stV [x0, x1, x2, x3, x4, x5] = false) := Lib.hid (stV_bad (k := k) hlt (by rw [← hf.out, hx.out]; exact inB_f1 g1))
        go_wp2_with fail
        go_ret2
        exact ⟨(Below.refl _ _).alloc (Nat.le_refl _) _, .inr ⟨hb.out, rfl⟩⟩
    · obtain rfl : k = 6 := by omega
      have hend : Hid (stV [x0, x1, x2, x3, x4, x5] = true) := Lib.hid (by
        rw [← stV_end (L := [x0, x1, x2, x3, x4, x5]) (fun j hj => by rw [← hf.out]; exact inB_t (heq.out j hj).1 (heq.out j hj).2)]
        rfl)
      have hC : Hid (Cel (w.alloc (.cells #[.int .i64 x0, .int .i64 x1, .int .i64 x2, .int .i64 x3, .int .i64 x4, .int .i64 x5] 72)) w.heap.size [x0, x1, x2, x3, x4, x5]) := Lib.hid ⟨heap_alloc_new w _, rfl⟩
      clear ki
      go_wp2_with fail
      go_ret2
      exact ⟨(Below.refl _ _).alloc (Nat.le_refl _) _, .inl ⟨hend.out, _, Nat.le_refl _, rfl, hC.out⟩⟩

theorem cof_len (a : Option Addr) (n ca : Nat) (L : List Int) (w : World) (hn : n = L.length) (h : ¬ n = 6) :
    Calls Try.prog 41 #[.slice a n ca] w (CofPost L w) := by
  have hs : Hid (stV L = false) := Lib.hid (by unfold stV; rw [Bool.and_eq_false_iff]; right; rw [decide_eq_false_iff_not]; omega)
  have hne : ((n : Int) != 6) = true := by simp; omega
  clear hn h
  go_enter Try.func41, Try.ntmps41
  go_wp2_with fail
  go_ret2
  exact ⟨Below.refl _ _, .inr ⟨hs.out, rfl⟩⟩

theorem six {L : List Int} (h : L.length = 6) : ∃ x0 x1 x2 x3 x4 x5, L = [x0, x1, x2, x3, x4, x5] := by
  match L, h with
  | [x0, x1, x2, x3, x4, x5], _ => exact ⟨x0, x1, x2, x3, x4, x5, rfl⟩

/-- A PRIVATE COPY of a valid state; nil for what is invalid. -/
theorem cof_any (v : Value) (L : List Int) (w : World) (h : Ints w v L) :
    Calls Try.prog 41 #[v] w (CofPost L w) := by
  obtain ⟨a, cap, rfl, h1, h2, h3⟩ := h.cells
  by_cases h6 : L.length = 6
  · obtain ⟨x0, x1, x2, x3, x4, x5, rfl⟩ := six h6
    rcases h3 with h3 | ⟨b, off, rfl, h4, h5⟩
    · exact absurd h3 (by simp)
    · exact cof_at b off cap x0 x1 x2 x3 x4 x5 w h4 (h5 0 (by simp)) (h5 1 (by simp)) (h5 2 (by simp)) (h5 3 (by simp)) (h5 4 (by simp)) (h5 5 (by simp))
  · exact cof_len a _ cap L w rfl h6

theorem istv_any (v : Value) (L : List Int) (w : World) (h : Ints w v L) :
    Calls Try.prog 19 #[v] w fun e w' => e = .returned (.bool (stV L)) ∧ Below w.heap.size w w' := by
  have h := Lib.hid h
  go_enter Try.func19, Try.ntmps19
  go_wp2_with fail
  refine (cof_any v L _ h.out).mono ?_
  rintro e w1 ⟨hb, ⟨hs, b, hb2, rfl, hC⟩ | ⟨hs, rfl⟩⟩
  · have hs := Lib.hid hs
    have hb := Lib.hid hb
    have hC := Lib.hid hC
    go_wp2_with fail
    go_ret
    exact ⟨ret_bool hs.out.symm, hb.out⟩
  · have hs := Lib.hid hs
    have hb := Lib.hid hb
    go_wp2_with fail
    go_ret
    exact ⟨ret_bool hs.out.symm, hb.out⟩
end Go.Proofs.Ytmekkjnegmeogaa
