/- Plain facts on words: the pieces of a text at its blanks (of the library, of the model), numbers of words. -/
import Derived.Test.YthdofjfjefcfpaaDoorTextb
import Derived.Lib.SplitLaws
import Derived.Lib.IndexBytes
import Derived.Lib.IndexLaws
import Derived.Lib.AtoiAll
import Derived.Lib.ItoaNum
namespace Go.Proofs.YthdofjfjefcfpaaDoor
open Go.RowKit
set_option linter.unusedVariables false

def sp : ByteArray := ⟨#[32]⟩
/-- The pieces, as strings.Split has them. -/
def wordsI (s : ByteArray) : List ByteArray := Lib.splitB sp 0 (Lib.countB s sp) s

theorem bytes_ext {a b : ByteArray} (h : a.data.toList = b.data.toList) : a = b := by
  cases a; cases b; simp at h; simp [h]

theorem list_at {l : List UInt8} {i : Nat} (h : l[i]? = some 32) : l.take i ++ 32 :: l.drop (i + 1) = l := by
  obtain ⟨hi, e⟩ := List.getElem?_eq_some_iff.1 h
  rw [← e, List.getElem_cons_drop hi, List.take_append_drop]

theorem index_at {s : ByteArray} {i : Nat} (h : Lib.indexB s sp = i) : s.extract 0 i ++ sp ++ s.extract (i + 1) s.size = s := by
  have h1 : Lib.indexByte s.data.toList 32 = i := by
    rw [← Lib.index_one]; exact h
  have h2 := (Lib.indexByte_some h1).1
  have h3 := list_at h2
  apply bytes_ext
  simp only [ByteArray.data_append, Array.toList_append, Lib.extract_from_zero]
  have e : (s.extract (i + 1) s.size).data.toList = s.data.toList.drop (i + 1) := by
    rw [Lib.extract_to_end]
  rw [e]
  simpa [sp] using h3

/-- Words with blanks between. -/
def joinB : List ByteArray → ByteArray
  | [] => ⟨#[]⟩
  | [a] => a
  | a :: b :: t => a ++ sp ++ joinB (b :: t)

theorem joinB_cons {a : ByteArray} {l : List ByteArray} (h : l ≠ []) : joinB (a :: l) = a ++ sp ++ joinB l := by
  cases l with
  | nil => exact absurd rfl h
  | cons b t => rfl

theorem splitB_ne (k : Nat) (s : ByteArray) : Lib.splitB sp 0 k s ≠ [] := by
  cases k with
  | zero => simp [Lib.splitB]
  | succ k => unfold Lib.splitB; split <;> simp

theorem join_split : ∀ (k : Nat) (s : ByteArray), joinB (Lib.splitB sp 0 k s) = s
  | 0, _ => rfl
  | k + 1, s => by
    rcases Lib.indexB_cases s sp with h | ⟨i, h, _⟩
    · rw [Lib.splitB_miss _ _ _ _ h]; rfl
    · rw [Lib.splitB_hit _ _ _ _ i h, joinB_cons (splitB_ne _ _), join_split k]
      exact index_at h

theorem join_words (s : ByteArray) : joinB (wordsI s) = s := join_split _ _

/-- What the program's numberFrom answers. -/
def numI (s : ByteArray) : Int :=
  match Lib.atoiAll s.data.toList with
  | .ok v => if 0 ≤ v ∧ (⟨(Lib.itoa v).toArray⟩ : ByteArray) = s then v else -1
  | _ => -1

theorem itoa_dec : ∀ n : Nat, n < 100 → (⟨(Lib.itoa n).toArray⟩ : ByteArray) = decB n := by decide +kernel
theorem atoi_dec : ∀ n : Nat, n < 100 → Lib.atoiAll (decB n).data.toList = .ok (n : Int) := by decide +kernel
theorem numI_dec (n : Nat) (h : n < 100) : numI (decB n) = n := by
  unfold numI
  rw [atoi_dec n h]
  show (if 0 ≤ (n : Int) ∧ _ then _ else _) = _
  rw [if_pos ⟨by omega, itoa_dec n h⟩]
theorem numI_of {s : ByteArray} {n : Nat} (hn : n < 100) (h : numI s = n) : s = decB n := by
  unfold numI at h
  split at h
  · split at h
    · rename_i v _ hc
      subst h
      rw [← hc.2]; exact itoa_dec n hn
    · omega
  · omega

theorem words_r : ∀ m, m < 6 → wordsI (txR m) = [⟨#[114, 101, 97, 100]⟩, decB m] := by decide +kernel
theorem words_p : ∀ m, m < 6 → ∀ n, n < 100 → wordsI (txP m n) = [⟨#[112, 117, 116]⟩, decB m, decB n] := by decide +kernel
theorem words_a : ∀ m, m < 6 → ∀ n, n < 100 → wordsI (txA m n) = [⟨#[97, 100, 100]⟩, decB m, decB n] := by decide +kernel
theorem words_n : wordsI txN = [⟨#[110, 111, 110, 101]⟩] := by decide +kernel
end Go.Proofs.YthdofjfjefcfpaaDoor
