/- Plain facts on the numbers of words. -/
import Derived.Test.YtoepimmkebbgcaaDoorText
import Derived.Lib.AtoiAll
import Derived.Lib.ItoaNum
namespace Go.Proofs.YtoepimmkebbgcaaDoor
open Go.RowKit
set_option linter.unusedVariables false

theorem bytes_ext {a b : ByteArray} (h : a.data.toList = b.data.toList) : a = b := by
  cases a; cases b; simp at h; simp [h]
/-- What the program's numberFrom answers. -/
def numI (s : ByteArray) : Int :=
  match Lib.atoiAll s.data.toList with
  | .ok v => if 0 ≤ v ∧ (⟨(Lib.itoa v).toArray⟩ : ByteArray) = s then v else -1
  | _ => -1
theorem itoa_dec : ∀ n : Nat, n < 100 → (⟨(Lib.itoa n).toArray⟩ : ByteArray) = decB n := by decide +kernel
theorem atoi_dec : ∀ n : Nat, n < 100 → Lib.atoiAll (decB n).data.toList = .ok (n : Int) := by decide +kernel
theorem numI_dec (n : Nat) (h : n < 100) : numI (decB n) = n := by
  unfold numI
  rw [atoi_dec n h]
  show (if 0 ≤ (n : Int) ∧ _ then _ else _) = _
  rw [if_pos ⟨by omega, itoa_dec n h⟩]
theorem numI_of {s : ByteArray} {n : Nat} (hn : n < 100) (h : numI s = n) : s = decB n := by
  unfold numI at h
  split at h
  · split at h
    · rename_i v _ hc
      subst h
      rw [← hc.2]; exact itoa_dec n hn
    · omega
  · omega
end Go.Proofs.YtoepimmkebbgcaaDoor
