/- The loops that compare two slices of numbers. -/
import Derived.Test.YtmekkjnegmeogaaInts
namespace Go.Proofs.Ytmekkjnegmeogaa
open Go.RowKit
set_option linter.unusedVariables false

set_option maxHeartbeats 1000000 in
theorem same_at (a b oa ob ca cb : Nat) (A B : List Int) (w : World) (hl : A.length = B.length) (hm : A.length ≤ 2000000) (ha : a < w.heap.size) (hb : b < w.heap.size)
    (hA : ∀ i, i < A.length → w.cell? ⟨a, oa + i, none⟩ = some (.int .i64 (A.getD i 0))) (hB : ∀ i, i < B.length → w.cell? ⟨b, ob + i, none⟩ = some (.int .i64 (B.getD i 0))) :
    Calls Try.prog 18 #[.slice (some ⟨a, oa, none⟩) A.length ca, .slice (some ⟨b, ob, none⟩) B.length cb] w fun e w' => e = .returned (.bool (decide (A = B))) ∧ Below w.heap.size w w' := by
  rw [← hl] at hB ⊢
  have hl := Lib.hid hl
  go_enter Try.func18, Try.ntmps18
  go_wp2_with fail
  go_loopw [5] (fun i wr => ∃ k : Nat, k ≤ A.length ∧ i = .int .i64 k ∧ (∀ j, j < k → A.getD j 0 = B.getD j 0) ∧ Below w.heap.size w wr) (fun i _ => A.length - (intOf i).toNat)
  case atStart => exact ⟨0, Nat.zero_le _, rfl, fun j hj => absurd hj (Nat.not_lt_zero _), Below.refl _ _⟩
  case round =>
    obtain ⟨k, hk, rfl, heq, hnx⟩ := hrel
    by_cases hlt : k < A.length
    · have hcA := (hnx.cell (p := ⟨a, oa + k, none⟩) ha).trans (hA k hlt)
      have hcB := (hnx.cell (p := ⟨b, ob + k, none⟩) hb).trans (hB k hlt)
      have heq := Lib.hid heq
      have hnx := Lib.hid hnx
      by_cases he : A.getD k 0 = B.getD k 0
      · rw [he] at hcA
        clear hA hB
        have he := Lib.hid he
        generalize B.getD k 0 = x at hcA hcB
        go_wp2_with fail
        go_quiet (fail)
        go_wp2_with fail
        go_roundw
        case rel => exact ⟨k + 1, by omega, by go_num, up_to heq.out he.out, bdrewN hnx.out _⟩
        case measure => simp [intOf]; omega
      · have hne := Lib.hid (list_ne hlt hl.out he)
        clear hA hB
        generalize A.getD k 0 = x at hcA he
        generalize B.getD k 0 = y at hcB he
        have hne2 : (x != y) = true := by simpa using he
        go_wp2_with fail
        go_quiet (fail)
        go_wp2_with fail
        go_ret
        exact ⟨ret_bool hne.out.symm, bdrewN hnx.out _⟩
    · have hend := Lib.hid (list_eq hl.out (fun j hj => heq j (by omega)))
      have hnx := Lib.hid hnx
      clear hA hB heq
      go_wp2_with fail
      go_ret
      exact ⟨ret_bool hend.out.symm, hnx.out⟩

set_option maxHeartbeats 1000000 in
theorem l2same_at (a b oa ob ca cb : Nat) (A B : List Int) (w : World) (hl : A.length = B.length) (hm : A.length ≤ 2000000) (ha : a < w.heap.size) (hb : b < w.heap.size)
    (hA : ∀ i, i < A.length → w.cell? ⟨a, oa + i, none⟩ = some (.int .i64 (A.getD i 0))) (hB : ∀ i, i < B.length → w.cell? ⟨b, ob + i, none⟩ = some (.int .i64 (B.getD i 0))) :
    Calls Try.prog 46 #[.slice (some ⟨a, oa, none⟩) A.length ca, .slice (some ⟨b, ob, none⟩) B.length cb] w fun e w' => e = .returned (.bool (decide (A = B))) ∧ Below w.heap.size w w' := by
  rw [← hl] at hB ⊢
  have hl := Lib.hid hl
  go_enter Try.func46, Try.ntmps46
  go_wp2_with fail
  go_loopw [5] (fun i wr => ∃ k : Nat, k ≤ A.length ∧ i = .int .i64 k ∧ (∀ j, j < k → A.getD j 0 = B.getD j 0) ∧ Below w.heap.size w wr) (fun i _ => A.length - (intOf i).toNat)
  case atStart => exact ⟨0, Nat.zero_le _, rfl, fun j hj => absurd hj (Nat.not_lt_zero _), Below.refl _ _⟩
  case round =>
    obtain ⟨k, hk, rfl, heq, hnx⟩ := hrel
    by_cases hlt : k < A.length
    · have hcA := (hnx.cell (p := ⟨a, oa + k, none⟩) ha).trans (hA k hlt)
      have hcB := (hnx.cell (p := ⟨b, ob + k, none⟩) hb).trans (hB k hlt)
      have heq := Lib.hid heq
      have hnx := Lib.hid hnx
      by_cases he : A.getD k 0 = B.getD k 0
      · rw [he] at hcA
        clear hA hB
        have he := Lib.hid he
        generalize B.getD k 0 = x at hcA hcB
        go_wp2_with fail
        go_quiet (fail)
        go_wp2_with fail
        go_roundw
        case rel => exact ⟨k + 1, by omega, by go_num, up_to heq.out he.out, bdrewN hnx.out _⟩
        case measure => simp [intOf]; omega
      · have hne := Lib.hid (list_ne hlt hl.out he)
        clear hA hB
        generalize A.getD k 0 = x at hcA he
        generalize B.getD k 0 = y at hcB he
        have hne2 : (x != y) = true := by simpa using he
        go_wp2_with fail
        go_quiet (fail)
        go_wp2_with fail
        go_ret
        exact ⟨ret_bool hne.out.symm, bdrewN hnx.out _⟩
    · have hend := Lib.hid (list_eq hl.out (fun j hj => heq j (by omega)))
      have hnx := Lib.hid hnx
      clear hA hB heq
      go_wp2_with fail
      go_ret
      exact ⟨ret_bool hend.out.symm, hnx.out⟩

set_option maxHeartbeats 1000000 in
theorem eqI_at (a b oa ob ca cb : Nat) (A B : List Int) (w : World) (hl : A.length = B.length) (hm : A.length ≤ 2000000) (ha : a < w.heap.size) (hb : b < w.heap.size)
    (hA : ∀ i, i < A.length → w.cell? ⟨a, oa + i, none⟩ = some (.int .i64 (A.getD i 0))) (hB : ∀ i, i < B.length → w.cell? ⟨b, ob + i, none⟩ = some (.int .i64 (B.getD i 0))) :
    Calls Try.prog 30 #[.slice (some ⟨a, oa, none⟩) A.length ca, .slice (some ⟨b, ob, none⟩) B.length cb] w fun e w' => e = .returned (.bool (decide (A = B))) ∧ Below w.heap.size w w' := by
  rw [← hl] at hB ⊢
  have hl := Lib.hid hl
  go_enter Try.func30, Try.ntmps30
  go_wp2_with fail
  go_loopw [5] (fun i wr => ∃ k : Nat, k ≤ A.length ∧ i = .int .i64 k ∧ (∀ j, j < k → A.getD j 0 = B.getD j 0) ∧ Below w.heap.size w wr) (fun i _ => A.length - (intOf i).toNat)
  case atStart => exact ⟨0, Nat.zero_le _, rfl, fun j hj => absurd hj (Nat.not_lt_zero _), Below.refl _ _⟩
  case round =>
    obtain ⟨k, hk, rfl, heq, hnx⟩ := hrel
    by_cases hlt : k < A.length
    · have hcA := (hnx.cell (p := ⟨a, oa + k, none⟩) ha).trans (hA k hlt)
      have hcB := (hnx.cell (p := ⟨b, ob + k, none⟩) hb).trans (hB k hlt)
      have heq := Lib.hid heq
      have hnx := Lib.hid hnx
      by_cases he : A.getD k 0 = B.getD k 0
      · rw [he] at hcA
        clear hA hB
        have he := Lib.hid he
        generalize B.getD k 0 = x at hcA hcB
        go_wp2_with fail
        go_quiet (fail)
        go_wp2_with fail
        go_roundw
        case rel => exact ⟨k + 1, by omega, by go_num, up_to heq.out he.out, bdrewN hnx.out _⟩
        case measure => simp [intOf]; omega
      · have hne := Lib.hid (list_ne hlt hl.out he)
        clear hA hB
        generalize A.getD k 0 = x at hcA he
        generalize B.getD k 0 = y at hcB he
        have hne2 : (x != y) = true := by simpa using he
        go_wp2_with fail
        go_quiet (fail)
        go_wp2_with fail
        go_ret
        exact ⟨ret_bool hne.out.symm, bdrewN hnx.out _⟩
    · have hend := Lib.hid (list_eq hl.out (fun j hj => heq j (by omega)))
      have hnx := Lib.hid hnx
      clear hA hB heq
      go_wp2_with fail
      go_ret
      exact ⟨ret_bool hend.out.symm, hnx.out⟩

theorem same_ne (a b : Option Addr) (la lb ca cb : Nat) (w : World) (hl : ¬ la = lb) :
    Calls Try.prog 18 #[.slice a la ca, .slice b lb cb] w fun e w' => e = .returned (.bool false) ∧ Below w.heap.size w w' := by
  have hne : ((la : Int) != (lb : Int)) = true := by simp; omega
  have hl := Lib.hid hl
  go_enter Try.func18, Try.ntmps18
  go_wp2_with fail
  go_ret
  exact ⟨rfl, Below.refl _ _⟩

theorem same_nil (a b : Option Addr) (ca cb : Nat) (w : World) :
    Calls Try.prog 18 #[.slice a 0 ca, .slice b 0 cb] w fun e w' => e = .returned (.bool true) ∧ Below w.heap.size w w' := by
  go_enter Try.func18, Try.ntmps18
  go_wp2_with fail
  refine wp_loop_rounds 1 ?_
  rw [rounds_succ]
  go_wp2_with fail
  go_ret
  exact ⟨rfl, Below.refl _ _⟩

/-- Two slices of numbers are compared. -/
theorem same_any (va vb : Value) (A B : List Int) (w : World) (hA : Ints w va A) (hB : Ints w vb B) :
    Calls Try.prog 18 #[va, vb] w fun e w' => e = .returned (.bool (decide (A = B))) ∧ Below w.heap.size w w' := by
  obtain ⟨a, ca, rfl, a1, a2, a3⟩ := hA.cells
  obtain ⟨b, cb, rfl, b1, b2, b3⟩ := hB.cells
  by_cases hl : A.length = B.length
  · rcases a3 with a3 | ⟨a, oa, rfl, a4, a5⟩
    · obtain rfl : A = [] := List.length_eq_zero_iff.1 a3
      obtain rfl : B = [] := List.length_eq_zero_iff.1 (by rw [← hl]; rfl)
      exact same_nil a b ca cb w
    · rcases b3 with b3 | ⟨b, ob, rfl, b4, b5⟩
      · obtain rfl : B = [] := List.length_eq_zero_iff.1 b3
        obtain rfl : A = [] := List.length_eq_zero_iff.1 hl
        exact same_nil _ b ca cb w
      · exact same_at a b oa ob ca cb A B w hl a2 a4 b4 a5 b5
  · have e : decide (A = B) = false := by
      rw [decide_eq_false_iff_not]; intro e; subst e; exact hl rfl
    rw [e]
    exact same_ne a b _ _ ca cb w hl

theorem l2same_ne (a b : Option Addr) (la lb ca cb : Nat) (w : World) (hl : ¬ la = lb) :
    Calls Try.prog 46 #[.slice a la ca, .slice b lb cb] w fun e w' => e = .returned (.bool false) ∧ Below w.heap.size w w' := by
  have hne : ((la : Int) != (lb : Int)) = true := by simp; omega
  have hl := Lib.hid hl
  go_enter Try.func46, Try.ntmps46
  go_wp2_with fail
  go_ret
  exact ⟨rfl, Below.refl _ _⟩

theorem l2same_nil (a b : Option Addr) (ca cb : Nat) (w : World) :
    Calls Try.prog 46 #[.slice a 0 ca, .slice b 0 cb] w fun e w' => e = .returned (.bool true) ∧ Below w.heap.size w w' := by
  go_enter Try.func46, Try.ntmps46
  go_wp2_with fail
  refine wp_loop_rounds 1 ?_
  rw [rounds_succ]
  go_wp2_with fail
  go_ret
  exact ⟨rfl, Below.refl _ _⟩

/-- Two slices of numbers are compared. -/
theorem l2same_any (va vb : Value) (A B : List Int) (w : World) (hA : Ints w va A) (hB : Ints w vb B) :
    Calls Try.prog 46 #[va, vb] w fun e w' => e = .returned (.bool (decide (A = B))) ∧ Below w.heap.size w w' := by
  obtain ⟨a, ca, rfl, a1, a2, a3⟩ := hA.cells
  obtain ⟨b, cb, rfl, b1, b2, b3⟩ := hB.cells
  by_cases hl : A.length = B.length
  · rcases a3 with a3 | ⟨a, oa, rfl, a4, a5⟩
    · obtain rfl : A = [] := List.length_eq_zero_iff.1 a3
      obtain rfl : B = [] := List.length_eq_zero_iff.1 (by rw [← hl]; rfl)
      exact l2same_nil a b ca cb w
    · rcases b3 with b3 | ⟨b, ob, rfl, b4, b5⟩
      · obtain rfl : B = [] := List.length_eq_zero_iff.1 b3
        obtain rfl : A = [] := List.length_eq_zero_iff.1 hl
        exact l2same_nil _ b ca cb w
      · exact l2same_at a b oa ob ca cb A B w hl a2 a4 b4 a5 b5
  · have e : decide (A = B) = false := by
      rw [decide_eq_false_iff_not]; intro e; subst e; exact hl rfl
    rw [e]
    exact l2same_ne a b _ _ ca cb w hl

theorem eqI_ne (a b : Option Addr) (la lb ca cb : Nat) (w : World) (hl : ¬ la = lb) :
    Calls Try.prog 30 #[.slice a la ca, .slice b lb cb] w fun e w' => e = .returned (.bool false) ∧ Below w.heap.size w w' := by
  have hne : ((la : Int) != (lb : Int)) = true := by simp; omega
  have hl := Lib.hid hl
  go_enter Try.func30, Try.ntmps30
  go_wp2_with fail
  go_ret
  exact ⟨rfl, Below.refl _ _⟩

theorem eqI_nil (a b : Option Addr) (ca cb : Nat) (w : World) :
    Calls Try.prog 30 #[.slice a 0 ca, .slice b 0 cb] w fun e w' => e = .returned (.bool true) ∧ Below w.heap.size w w' := by
  go_enter Try.func30, Try.ntmps30
  go_wp2_with fail
  refine wp_loop_rounds 1 ?_
  rw [rounds_succ]
  go_wp2_with fail
  go_ret
  exact ⟨rfl, Below.refl _ _⟩

/-- Two slices of numbers are compared. -/
theorem eqI_any (va vb : Value) (A B : List Int) (w : World) (hA : Ints w va A) (hB : Ints w vb B) :
    Calls Try.prog 30 #[va, vb] w fun e w' => e = .returned (.bool (decide (A = B))) ∧ Below w.heap.size w w' := by
  obtain ⟨a, ca, rfl, a1, a2, a3⟩ := hA.cells
  obtain ⟨b, cb, rfl, b1, b2, b3⟩ := hB.cells
  by_cases hl : A.length = B.length
  · rcases a3 with a3 | ⟨a, oa, rfl, a4, a5⟩
    · obtain rfl : A = [] := List.length_eq_zero_iff.1 a3
      obtain rfl : B = [] := List.length_eq_zero_iff.1 (by rw [← hl]; rfl)
      exact eqI_nil a b ca cb w
    · rcases b3 with b3 | ⟨b, ob, rfl, b4, b5⟩
      · obtain rfl : B = [] := List.length_eq_zero_iff.1 b3
        obtain rfl : A = [] := List.length_eq_zero_iff.1 hl
        exact eqI_nil _ b ca cb w
      · exact eqI_at a b oa ob ca cb A B w hl a2 a4 b4 a5 b5
  · have e : decide (A = B) = false := by
      rw [decide_eq_false_iff_not]; intro e; subst e; exact hl rfl
    rw [e]
    exact eqI_ne a b _ _ ca cb w hl
end Go.Proofs.Ytmekkjnegmeogaa
