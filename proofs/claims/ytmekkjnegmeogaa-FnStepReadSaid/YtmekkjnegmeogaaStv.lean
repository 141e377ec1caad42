/- Valid states: the model's StateValid. -/
import Derived.Test.YtmekkjnegmeogaaInts
namespace Go.Proofs.Ytmekkjnegmeogaa
open Go.RowKit
set_option linter.unusedVariables false

def okV (x : Int) : Bool := decide (0 ≤ x ∧ x ≤ 999)
/-- What a valid state is. -/
def stV (L : List Int) : Bool := L.all okV && decide (L.length = 6)

theorem stV_bad {L : List Int} {k : Nat} (hk : k < L.length) (h : inB (L.getD k 0) 0 999 = false) : stV L = false := by
  unfold stV
  rw [Bool.and_eq_false_iff]; left
  rw [List.all_eq_false]
  refine ⟨L[k], List.getElem_mem _, ?_⟩
  rw [List.getD_eq_getElem?_getD, List.getElem?_eq_getElem hk] at h
  simpa [okV, inB] using h
theorem stV_end {L : List Int} (h : ∀ j, j < L.length → inB (L.getD j 0) 0 999 = true) : ((L.length : Int) == 6) = stV L := by
  have : L.all okV = true := by
    rw [List.all_eq_true]
    intro x hx
    obtain ⟨i, hi, rfl⟩ := List.getElem_of_mem hx
    have := h i hi
    rw [List.getD_eq_getElem?_getD, List.getElem?_eq_getElem hi] at this
    simpa [okV, inB] using this
  unfold stV
  rw [this, Bool.true_and, Bool.eq_iff_iff]
  simp; omega

set_option maxHeartbeats 1000000 in
theorem sstv_at (a oa ca : Nat) (A : List Int) (w : World) (hm : A.length ≤ 2000000) (ha : a < w.heap.size)
    (hA : ∀ i, i < A.length → w.cell? ⟨a, oa + i, none⟩ = some (.int .i64 (A.getD i 0))) :
    Calls Try.prog 26 #[.slice (some ⟨a, oa, none⟩) A.length ca] w fun e w' => e = .returned (.bool (stV A)) ∧ Below w.heap.size w w' := by
  go_enter Try.func26, Try.ntmps26
  go_wp2_with fail
  go_loopw [3] (fun i wr => ∃ k : Nat, k ≤ A.length ∧ i = .int .i64 k ∧ (∀ j, j < k → inB (A.getD j 0) 0 999 = true) ∧ Below w.heap.size w wr) (fun i _ => A.length - (intOf i).toNat)
  case atStart => exact ⟨0, Nat.zero_le _, rfl, fun j hj => absurd hj (Nat.not_lt_zero _), Below.refl _ _⟩
  case round =>
    obtain ⟨k, hk, rfl, heq, hnx⟩ := hrel
    by_cases hlt : k < A.length
    · have hcA := (hnx.cell (p := ⟨a, oa + k, none⟩) ha).trans (hA k hlt)
      have heq := Lib.hid heq
      have hnx := Lib.hid hnx
      have hbad := Lib.hid (fun h => stV_bad (L := A) (k := k) hlt h)
      clear hA
      have hx : Hid (∃ x, A.getD k 0 = x) := Lib.hid ⟨_, rfl⟩
      obtain ⟨x, hx⟩ := hx.out
      rw [hx] at hcA hbad
      have hx := Lib.hid hx
      cases he : inB x 0 999
      · have hbad := Lib.hid (hbad.out he)
        go_wp2_with fail
        refine (in_any x 0 999 _).mono ?_
        rintro e w' ⟨rfl, rfl⟩
        rw [he]
        go_wp2_with fail
        go_ret
        exact ⟨ret_bool hbad.out.symm, hnx.out⟩
      · clear hbad
        go_wp2_with fail
        refine (in_any x 0 999 _).mono ?_
        rintro e w' ⟨rfl, rfl⟩
        rw [he]
        go_wp2_with fail
        go_roundw
        case rel => exact ⟨k + 1, by omega, by go_num, up_to heq.out (by rw [hx.out]; exact he), hnx.out⟩
        case measure => simp [intOf]; omega
    · obtain rfl : k = A.length := by omega
      have hend := Lib.hid (stV_end heq)
      have hnx := Lib.hid hnx
      clear hA heq
      go_wp2_with fail
      go_ret
      exact ⟨ret_bool hend.out, hnx.out⟩

theorem sstv_nil (a : Option Addr) (ca : Nat) (w : World) :
    Calls Try.prog 26 #[.slice a 0 ca] w fun e w' => e = .returned (.bool (stV [])) ∧ Below w.heap.size w w' := by
  go_enter Try.func26, Try.ntmps26
  go_wp2_with fail
  refine wp_loop_rounds 1 ?_
  rw [rounds_succ]
  go_wp2_with fail
  go_ret
  exact ⟨rfl, Below.refl _ _⟩

theorem sstv_any (v : Value) (A : List Int) (w : World) (h : Ints w v A) :
    Calls Try.prog 26 #[v] w fun e w' => e = .returned (.bool (stV A)) ∧ Below w.heap.size w w' := by
  obtain ⟨a, cap, rfl, h1, h2, h3⟩ := h.cells
  rcases h3 with h3 | ⟨b, off, rfl, h4, h5⟩
  · obtain rfl : A = [] := List.length_eq_zero_iff.1 h3
    exact sstv_nil a cap w
  · exact sstv_at b off cap A w h2 h4 h5
end Go.Proofs.Ytmekkjnegmeogaa
