/- Texts laid together. -/
import Derived.Test.YtanjogflolmgdaaC01
/- The laws' sizes of slices of ids. -/
namespace Go.Proofs.Ytanjogflolmgdaa
open Go.RowKit
set_option linter.unusedVariables false

theorem szP_any (a : Option Addr) (n cap : Nat) (k : Int) (w : World) (hk : k = 1048576) (h : n ≤ 9223372036854775807) :
    Calls Try.prog 58 #[.slice a n cap, .int .i64 k] w fun e w' => e = .returned (.int .i64 (if 1048576 < n then -1 else 1048576 - n)) ∧ Below w.heap.size w w' := by
  subst hk
  by_cases hl : 1048576 < n
  · rw [if_pos hl]
    go_enter Try.func58, Try.ntmps58
    go_wp2_with fail
    go_ret
    exact ⟨rfl, Below.refl _ _⟩
  · rw [if_neg hl]
    go_enter Try.func58, Try.ntmps58
    go_wp2_with fail
    go_ret
    exact ⟨rfl, Below.refl _ _⟩

/-- .. with whatever is left. -/
theorem szP_gen (a : Option Addr) (n cap : Nat) (k : Int) (w : World) (hk : 0 ≤ k) (hk2 : k ≤ 1048576) (h : n ≤ 9223372036854775807) :
    Calls Try.prog 58 #[.slice a n cap, .int .i64 k] w fun e w' => e = .returned (.int .i64 (if k < n then -1 else k - n)) ∧ Below w.heap.size w w' := by
  by_cases hl : k < n
  · rw [if_pos hl]
    go_enter Try.func58, Try.ntmps58
    go_wp2_with fail
    go_ret
    exact ⟨rfl, Below.refl _ _⟩
  · rw [if_neg hl]
    go_enter Try.func58, Try.ntmps58
    go_wp2_with fail
    go_ret
    exact ⟨rfl, Below.refl _ _⟩
end Go.Proofs.Ytanjogflolmgdaa

/- The laws' size of an entry. -/
namespace Go.Proofs.Ytanjogflolmgdaa
open Go.RowKit
set_option linter.unusedVariables false

set_option maxRecDepth 100000 in
theorem szE_any (p r bal st k key v s : Int) (ua : Option Addr) (un uc : Nat) (z : Int) (w : World) (hk : 0 ≤ z) (hk2 : z ≤ 1048576) (h : un ≤ 9223372036854775807) :
    Calls Try.prog 27 #[.agg #[.int .i64 p, .int .i64 r, .int .i64 bal, .int .i64 st, .int .i64 k, .int .i64 key, .int .i64 v, .int .i64 s, .slice ua un uc], .int .i64 z] w fun e w' => e = .returned (.int .i64 (if z < un then -1 else z - un)) ∧ Below w.heap.size w w' := by
  have sz := fun w => szP_gen ua un uc z w hk hk2 h
  by_cases hl : z < un
  · rw [if_pos hl] at sz ⊢
    go_enter Try.func27, Try.ntmps27
    go_wp2_with fail
    refine (sz _).mono ?_
    rintro e w1 ⟨rfl, hb⟩
    have D1 := Lib.hid (((Below.refl w.heap.size w).alloc (Nat.le_refl _) (.cells #[.int .i64 p, .int .i64 r, .int .i64 bal, .int .i64 st, .int .i64 k, .int .i64 key, .int .i64 v, .int .i64 s, .slice ua un uc] 51)).trans (hb.mono (by simp)))
    clear hb sz
    go_wp2_with fail
    go_ret
    exact ⟨rfl, D1.out⟩
  · rw [if_neg hl] at sz ⊢
    obtain ⟨y, hz⟩ : ∃ y, z - (un : Int) = y := ⟨_, rfl⟩
    rw [hz] at sz ⊢
    have hz0 : ¬ y < 0 := by omega
    go_enter Try.func27, Try.ntmps27
    go_wp2_with fail
    refine (sz _).mono ?_
    rintro e w1 ⟨rfl, hb⟩
    have D1 := Lib.hid (((Below.refl w.heap.size w).alloc (Nat.le_refl _) (.cells #[.int .i64 p, .int .i64 r, .int .i64 bal, .int .i64 st, .int .i64 k, .int .i64 key, .int .i64 v, .int .i64 s, .slice ua un uc] 51)).trans (hb.mono (by simp)))
    clear hb sz
    go_wp2_with fail
    go_ret
    exact ⟨rfl, D1.out⟩
end Go.Proofs.Ytanjogflolmgdaa
