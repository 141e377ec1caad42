/- Texts laid together. -/
import Derived.Lib.Hide
import Derived.Lib.TrailingZeros
import Derived.Lib.BitFns
import Derived.Lib.ItoaNum
import Derived.Test.YtigaepbhbfpijaaDoorC02
import Derived.Laws.Bits64b
import Derived.Laws.Bits128
import Derived.Deep.RegionHeld3
import Derived.Deep.RegionWith
import Derived.StillTailTactics
import Derived.Laws.NewBlocks
import Derived.Shelf.Spec.TrailingZeros
/- Plain facts on lists of ids: sorted, put into, searched. -/
namespace Go.Proofs.YtigaepbhbfpijaaDoor
set_option linter.unusedVariables false

/-- An id. -/
abbrev Pid : Type := Int × Int
def nop : Pid := (0, 0)
/-- What a valid id is. -/
def idB (r n : Int) : Bool := decide (0 ≤ r ∧ r ≤ 4 ∧ 1 ≤ n ∧ n ≤ 50)
/-- Which id is ahead. -/
def ltB (r n r' n' : Int) : Bool := decide (r < r' ∨ r = r' ∧ n < n')
def okP (a : Pid) : Bool := idB a.1 a.2
def ltP (a b : Pid) : Bool := ltB a.1 a.2 b.1 b.2
theorem ltP_iff {a b : Pid} : ltP a b = true ↔ (a.1 < b.1 ∨ a.1 = b.1 ∧ a.2 < b.2) := by simp [ltP, ltB]
theorem ltP_not {a b : Pid} : ltP a b = false ↔ ¬ (a.1 < b.1 ∨ a.1 = b.1 ∧ a.2 < b.2) := by rw [← ltP_iff]; simp
theorem ltP_tri {a b : Pid} (h1 : ltP a b = false) (h2 : ltP b a = false) : a = b := by
  rw [ltP_not] at h1 h2
  obtain ⟨x, y⟩ := a; obtain ⟨z, t⟩ := b
  simp at h1 h2 ⊢; omega
theorem ltP_irr (a : Pid) : ltP a a = false := by rw [ltP_not]; omega
theorem ltP_trans {a b c : Pid} (h1 : ltP a b = true) (h2 : ltP b c = true) : ltP a c = true := by
  rw [ltP_iff] at *; omega
theorem ltP_asym {a b : Pid} (h1 : ltP a b = true) : ltP b a = false := by
  rw [ltP_iff] at h1; rw [ltP_not]; omega

/-- An id is put ahead of the first one that it is ahead of. -/
def insB (a : Pid) : List Pid → List Pid
  | [] => [a]
  | b :: r => if ltP a b then a :: b :: r else b :: insB a r
def putF (d : Bool) (a : Pid) (L : List Pid) : List Pid := if d then L else insB a L
def hasP (L : List Pid) (a : Pid) : Bool := decide (a ∈ L)
def putP (L : List Pid) (a : Pid) : List Pid := putF (hasP L a) a L
def sortP (L : List Pid) : List Pid := L.foldl putP []
def Asc (L : List Pid) : Prop := L.Pairwise fun a b => ltP a b = true

theorem putF_t (a : Pid) (L : List Pid) : putF true a L = L := rfl
theorem putF_hit {a x : Pid} {r : List Pid} (h : ltP a x = true) : putF false a (x :: r) = a :: x :: putF true a r := by
  unfold putF insB; simp [h]
theorem putF_miss {a x : Pid} {r : List Pid} (h : ltP a x = false) : putF false a (x :: r) = x :: putF false a r := by
  unfold putF; simp [insB, h]
theorem putF_end (a : Pid) : putF false a [] = [a] := rfl

theorem mem_insB (a x : Pid) : ∀ L : List Pid, x ∈ insB a L ↔ x = a ∨ x ∈ L
  | [] => by simp [insB]
  | b :: r => by
    unfold insB; split
    · simp
    · rw [List.mem_cons, mem_insB a x r, List.mem_cons]
      constructor
      · rintro (h | h | h)
        · exact .inr (.inl h)
        · exact .inl h
        · exact .inr (.inr h)
      · rintro (h | h | h)
        · exact .inr (.inl h)
        · exact .inl h
        · exact .inr (.inr h)
theorem mem_putP (L : List Pid) (a x : Pid) : x ∈ putP L a ↔ x = a ∨ x ∈ L := by
  unfold putP putF hasP
  by_cases h : a ∈ L
  · simp [h]; intro e; subst e; exact h
  · simp [h, mem_insB]
theorem len_insB (a : Pid) : ∀ L : List Pid, (insB a L).length = L.length + 1
  | [] => rfl
  | b :: r => by
    unfold insB; split
    · rfl
    · rw [List.length_cons, len_insB a r, List.length_cons]
theorem len_putP (L : List Pid) (a : Pid) : L.length ≤ (putP L a).length ∧ (putP L a).length ≤ L.length + 1 := by
  unfold putP putF; split
  · omega
  · rw [len_insB]; omega
theorem len_putP_in {L : List Pid} {a : Pid} (h : a ∈ L) : putP L a = L := by unfold putP putF hasP; simp [h]
theorem putP_out {L : List Pid} {a : Pid} (h : ¬ a ∈ L) : putP L a = insB a L := by unfold putP putF hasP; simp [h]

theorem asc_insB {a : Pid} : ∀ {L : List Pid}, Asc L → ¬ a ∈ L → Asc (insB a L)
  | [], _, _ => by simp [insB, Asc]
  | b :: r, h, hn => by
    have h' := List.pairwise_cons.1 h
    unfold insB; split
    · rename_i hl
      refine List.pairwise_cons.2 ⟨fun x hx => ?_, h⟩
      rcases List.mem_cons.1 hx with rfl | hx
      · exact hl
      · exact ltP_trans hl (h'.1 x hx)
    · rename_i hl
      have hl' : ltP a b = false := by simpa using hl
      refine List.pairwise_cons.2 ⟨fun x hx => ?_, asc_insB h'.2 (fun e => hn (List.mem_cons_of_mem _ e))⟩
      rcases (mem_insB a x r).1 hx with rfl | hx
      · cases hh : ltP b x with
        | true => rfl
        | false => exact absurd (ltP_tri hl' hh) (fun e => hn (by rw [e]; exact List.mem_cons_self))
      · exact h'.1 x hx
theorem asc_putP {L : List Pid} {a : Pid} (h : Asc L) : Asc (putP L a) := by
  by_cases hm : a ∈ L
  · rw [len_putP_in hm]; exact h
  · rw [putP_out hm]; exact asc_insB h hm

theorem foldl_mem : ∀ (L : List Pid) (A : List Pid) (x : Pid), x ∈ L.foldl putP A ↔ x ∈ A ∨ x ∈ L
  | [], A, x => by simp
  | a :: r, A, x => by
    rw [List.foldl_cons, foldl_mem r, mem_putP, List.mem_cons]
    constructor
    · rintro ((h | h) | h)
      · exact .inr (.inl h)
      · exact .inl h
      · exact .inr (.inr h)
    · rintro (h | h | h)
      · exact .inl (.inr h)
      · exact .inl (.inl h)
      · exact .inr h
theorem foldl_asc : ∀ (L : List Pid) {A : List Pid}, Asc A → Asc (L.foldl putP A)
  | [], _, h => h
  | a :: r, _, h => foldl_asc r (asc_putP h)
theorem foldl_len : ∀ (L : List Pid) (A : List Pid), A.length ≤ (L.foldl putP A).length ∧ (L.foldl putP A).length ≤ A.length + L.length
  | [], A => by simp
  | a :: r, A => by
    have h := foldl_len r (putP A a)
    have g := len_putP A a
    rw [List.foldl_cons, List.length_cons]; omega
theorem asc_nil : Asc [] := List.Pairwise.nil
theorem sortP_asc (L : List Pid) : Asc (sortP L) := foldl_asc L asc_nil
theorem sortP_mem (L : List Pid) (x : Pid) : x ∈ sortP L ↔ x ∈ L := by
  unfold sortP; rw [foldl_mem]; simp
theorem sortP_len (L : List Pid) : (sortP L).length ≤ L.length := by
  have := (foldl_len L []).2; unfold sortP; simpa using this

/-- Ascending lists of the same ids are equal. -/
theorem asc_ext : ∀ {A B : List Pid}, Asc A → Asc B → (∀ x, x ∈ A ↔ x ∈ B) → A = B
  | [], [], _, _, _ => rfl
  | [], b :: s, _, _, h => absurd ((h b).2 List.mem_cons_self) (by simp)
  | a :: r, [], _, _, h => absurd ((h a).1 List.mem_cons_self) (by simp)
  | a :: r, b :: s, hA, hB, h => by
    have hA' := List.pairwise_cons.1 hA
    have hB' := List.pairwise_cons.1 hB
    have e : a = b := by
      rcases List.mem_cons.1 ((h a).1 List.mem_cons_self) with e | ha
      · exact e
      · rcases List.mem_cons.1 ((h b).2 List.mem_cons_self) with e | hb
        · exact e.symm
        · have h1 := hB'.1 a ha
          have h2 := hA'.1 b hb
          rw [ltP_asym h1] at h2; cases h2
    subst e
    have nr : ¬ a ∈ r := fun hx => by have := hA'.1 a hx; rw [ltP_irr] at this; cases this
    have ns : ¬ a ∈ s := fun hx => by have := hB'.1 a hx; rw [ltP_irr] at this; cases this
    rw [asc_ext hA'.2 hB'.2 (fun x => ?_)]
    constructor
    · intro hx
      rcases List.mem_cons.1 ((h x).1 (List.mem_cons_of_mem _ hx)) with e | hx'
      · subst e; exact absurd hx nr
      · exact hx'
    · intro hx
      rcases List.mem_cons.1 ((h x).2 (List.mem_cons_of_mem _ hx)) with e | hx'
      · subst e; exact absurd hx ns
      · exact hx'

theorem sortP_self {L : List Pid} (h : Asc L) : sortP L = L := asc_ext (sortP_asc L) h (sortP_mem L)
theorem sortP_rev (L : List Pid) : sortP L.reverse = sortP L :=
  asc_ext (sortP_asc _) (sortP_asc _) (fun x => by rw [sortP_mem, sortP_mem, List.mem_reverse])

/-- What IdsSort answers. -/
def sortR (L : List Pid) : List Pid × Bool := if L.all okP = true ∧ (sortP L).length ≤ 12 then (sortP L, true) else ([], false)
theorem sortR_t {L : List Pid} (h1 : L.all okP = true) (h2 : (sortP L).length ≤ 12) : sortR L = (sortP L, true) := if_pos ⟨h1, h2⟩
theorem sortR_bad {L : List Pid} {k : Nat} (hk : k < L.length) (h : okP (L.getD k nop) = false) : sortR L = ([], false) := by
  refine if_neg fun hh => ?_
  have := List.all_eq_true.1 hh.1 L[k] (List.getElem_mem _)
  rw [List.getD_eq_getElem?_getD, List.getElem?_eq_getElem hk] at h
  simp only [Option.getD_some] at h
  rw [h] at this; cases this
theorem sortR_long {L : List Pid} (h : ¬ (sortP L).length ≤ 12) : sortR L = ([], false) := if_neg fun hh => h hh.2
theorem take_next {L : List Pid} {k : Nat} (hk : k < L.length) : L.take (k + 1) = L.take k ++ [L.getD k nop] := by
  rw [List.take_succ_eq_append_getElem hk, List.getD_eq_getElem?_getD, List.getElem?_eq_getElem hk]; rfl
theorem drop_next {L : List Pid} {k : Nat} (hk : k < L.length) : L.drop k = L.getD k nop :: L.drop (k + 1) := by
  rw [List.drop_eq_getElem_cons hk, List.getD_eq_getElem?_getD, List.getElem?_eq_getElem hk]; rfl
theorem sortP_next {L : List Pid} {k : Nat} (hk : k < L.length) : sortP (L.take (k + 1)) = putP (sortP (L.take k)) (L.getD k nop) := by
  rw [take_next hk]; unfold sortP; rw [List.foldl_append]; rfl
/-- Too many already. -/
theorem sortR_full {L : List Pid} {k : Nat} (hk : k < L.length) (h : (sortP (L.take k)).length = 12) (hn : ¬ L.getD k nop ∈ sortP (L.take k)) : sortR L = ([], false) := by
  refine sortR_long fun hle => ?_
  have e : sortP L = (L.drop (k + 1)).foldl putP (sortP (L.take (k + 1))) := by
    unfold sortP; rw [← List.foldl_append, List.take_append_drop]
  have h1 := (foldl_len (L.drop (k + 1)) (sortP (L.take (k + 1)))).1
  rw [← e, sortP_next hk, putP_out hn, len_insB, h] at h1
  omega
theorem sortR_len (L : List Pid) : (sortR L).1.length ≤ 12 := by
  unfold sortR; split
  · rename_i h; exact h.2
  · simp
theorem sortR_asc (L : List Pid) : Asc (sortR L).1 := by
  unfold sortR; split
  · exact sortP_asc L
  · exact asc_nil

/-- The place of an id in an ascending list. -/
def posP (L : List Pid) (a : Pid) : Nat := L.countP fun x => ltP x a
theorem posP_le (L : List Pid) (a : Pid) : posP L a ≤ L.length := List.countP_le_length
theorem posP_cons_t {b a : Pid} {r : List Pid} (h : ltP b a = true) : posP (b :: r) a = posP r a + 1 := by
  unfold posP; exact List.countP_cons_of_pos (p := fun x => ltP x a) h
theorem posP_cons_f {b a : Pid} {r : List Pid} (hA : Asc (b :: r)) (h : ltP b a = false) : posP (b :: r) a = 0 := by
  unfold posP
  rw [List.countP_eq_zero]
  intro x hx
  have hA' := List.pairwise_cons.1 hA
  rcases List.mem_cons.1 hx with rfl | hx
  · rw [h]; simp
  · intro hl
    rw [ltP_trans (hA'.1 x hx) hl] at h; cases h
theorem posP_ins : ∀ {L : List Pid} {a : Pid}, Asc L → ¬ a ∈ L → insB a L = L.take (posP L a) ++ a :: L.drop (posP L a)
  | [], a, _, _ => rfl
  | b :: r, a, hA, hn => by
    have hA' := List.pairwise_cons.1 hA
    by_cases h : ltP b a = true
    · rw [posP_cons_t h]
      unfold insB
      rw [if_neg (by rw [ltP_asym h]; simp), posP_ins hA'.2 (fun e => hn (List.mem_cons_of_mem _ e))]
      rfl
    · have h' : ltP b a = false := by simpa using h
      rw [posP_cons_f hA h']
      unfold insB
      have hl : ltP a b = true := by
        cases hh : ltP a b with
        | true => rfl
        | false => exact absurd (ltP_tri hh h') (fun e => hn (by rw [e]; exact List.mem_cons_self))
      rw [if_pos hl]; rfl
/-- It is there just where it is found. -/
theorem posP_mem : ∀ {L : List Pid} {a : Pid}, Asc L → (a ∈ L ↔ posP L a < L.length ∧ L.getD (posP L a) nop = a)
  | [], a, _ => by simp [posP]
  | b :: r, a, hA => by
    have hA' := List.pairwise_cons.1 hA
    by_cases h : ltP b a = true
    · rw [posP_cons_t h, List.mem_cons, posP_mem hA'.2]
      have hne : a ≠ b := fun e => by rw [e, ltP_irr] at h; cases h
      simp [hne]
    · have h' : ltP b a = false := by simpa using h
      rw [posP_cons_f hA h', List.mem_cons]
      constructor
      · rintro (e | hm)
        · exact ⟨by simp, by simp [e]⟩
        · rw [hA'.1 a hm] at h'; cases h'
      · rintro ⟨_, e⟩
        exact .inl (by simpa using e.symm)
/-- Ahead of the place all are ahead, behind it none is. -/
theorem asc_lt {L : List Pid} (hA : Asc L) {i j : Nat} (hij : i < j) (hj : j < L.length) : ltP (L.getD i nop) (L.getD j nop) = true := by
  have := List.pairwise_iff_getElem.1 hA i j (by omega) hj hij
  rw [List.getD_eq_getElem?_getD, List.getD_eq_getElem?_getD, List.getElem?_eq_getElem (by omega), List.getElem?_eq_getElem hj]
  exact this
theorem posP_of {L : List Pid} {a : Pid} {i : Nat} (hi : i ≤ L.length) (h1 : ∀ t, t < i → ltP (L.getD t nop) a = true) (h2 : ∀ t, i ≤ t → t < L.length → ltP (L.getD t nop) a = false) : posP L a = i := by
  induction L generalizing i with
  | nil => simp at hi; subst hi; rfl
  | cons b r ih =>
    cases i with
    | zero =>
      unfold posP
      rw [List.countP_eq_zero]
      intro x hx
      obtain ⟨t, ht, e⟩ := List.getElem_of_mem hx
      have := h2 t (Nat.zero_le _) ht
      rw [List.getD_eq_getElem?_getD, List.getElem?_eq_getElem ht, Option.getD_some, e] at this
      rw [this]; simp
    | succ i =>
      have h0 : ltP b a = true := h1 0 (Nat.succ_pos _)
      rw [posP_cons_t h0, ih (i := i) (by simpa using hi) (fun t ht => h1 (t + 1) (by omega)) (fun t h3 h4 => h2 (t + 1) (by omega) (by simpa using h4))]
end Go.Proofs.YtigaepbhbfpijaaDoor

/- Plain facts on numbers as sets of bits: how many, the lowest, the highest, in order. -/
namespace Go.Proofs.YtigaepbhbfpijaaDoor
set_option linter.unusedVariables false

/-- How many of the lowest n bits are set. -/
def pc : Nat → Nat → Nat
  | 0, _ => 0
  | n + 1, x => x % 2 + pc n (x / 2)
theorem pc_add : ∀ (m n x : Nat), pc (m + n) x = pc m (x % 2 ^ m) + pc n (x / 2 ^ m)
  | 0, n, x => by simp [pc]
  | m + 1, n, x => by
    rw [show m + 1 + n = (m + n) + 1 by omega, pc, pc, pc_add m n]
    have e1 : x % 2 ^ (m + 1) % 2 = x % 2 := by rw [Nat.pow_succ, Nat.mul_comm]; exact Nat.mod_mul_right_mod x 2 (2 ^ m)
    have e2 : x % 2 ^ (m + 1) / 2 = x / 2 % 2 ^ m := by rw [Nat.pow_succ, Nat.mul_comm, Nat.mod_mul_right_div_self]
    have e3 : x / 2 / 2 ^ m = x / 2 ^ (m + 1) := by rw [Nat.div_div_eq_div_mul, Nat.pow_succ, Nat.mul_comm]
    rw [e1, e2, e3]; omega
theorem pc_le : ∀ (n x : Nat), pc n x ≤ n
  | 0, _ => Nat.le_refl _
  | n + 1, x => by unfold pc; have := pc_le n (x / 2); omega

/-- Numbers out of bytes, the lowest first. -/
def dig : List Nat → Nat
  | [] => 0
  | b :: r => b + 256 * dig r
theorem and_parts (k b m h g : Nat) (hb : b < 2 ^ k) (hm : m < 2 ^ k) : (b + 2 ^ k * h) &&& (m + 2 ^ k * g) = (b &&& m) + 2 ^ k * (h &&& g) := by
  have hbm : b &&& m < 2 ^ k := Nat.and_lt_two_pow _ hm
  apply Nat.eq_of_testBit_eq
  intro i
  rw [Nat.testBit_and, Nat.add_comm b, Nat.add_comm m, Nat.add_comm (b &&& m), Nat.testBit_two_pow_mul_add _ hb, Nat.testBit_two_pow_mul_add _ hm, Nat.testBit_two_pow_mul_add _ hbm]
  split
  · rw [Nat.testBit_and]
  · rw [Nat.testBit_and]
theorem and_dig (b m h g : Nat) (hb : b < 256) (hm : m < 256) : (b + 256 * h) &&& (m + 256 * g) = (b &&& m) + 256 * (h &&& g) := and_parts 8 b m h g hb hm

def s1 (b : Nat) : Nat := (b / 2 &&& 85) + (b &&& 85)
def s2 (b : Nat) : Nat := (b / 4 &&& 51) + (b &&& 51)
def s3 (b : Nat) : Nat := (b / 16 + b) &&& 15
theorem s1_lt : ∀ b, b < 256 → s1 b < 256 ∧ ∀ t, t < 2 → (b / 2 + 128 * t) &&& 85 = b / 2 &&& 85 := by decide +kernel
theorem s2_lt : ∀ b, b < 256 → s2 b < 256 ∧ ∀ t, t < 4 → (b / 4 + 64 * t) &&& 51 = b / 4 &&& 51 := by decide +kernel
theorem s3_lt : ∀ b, b < 69 → b % 16 < 5 → ∀ t, t < 5 → (b / 16 + 16 * t + b) &&& 15 = s3 b := by decide +kernel
theorem s_all : ∀ b, b < 256 → s2 (s1 b) < 69 ∧ s2 (s1 b) % 16 < 5 ∧ s3 (s2 (s1 b)) = pc 8 b := by decide +kernel

def rep (n m : Nat) : Nat := dig (List.replicate n m)
theorem dig_one : ∀ bs : List Nat, (∀ b ∈ bs, b < 256) → (dig bs / 2 &&& rep bs.length 85) + (dig bs &&& rep bs.length 85) = dig (bs.map s1)
  | [], _ => rfl
  | b :: r, h => by
    have ih := dig_one r (fun x hx => h x (List.mem_cons_of_mem _ hx))
    have hb := h b List.mem_cons_self
    have hs := (s1_lt b hb).2 (dig r % 2) (by omega)
    have e : dig (b :: r) / 2 = (b / 2 + 128 * (dig r % 2)) + 256 * (dig r / 2) := by simp only [dig]; omega
    rw [e]
    simp only [rep, List.length_cons, List.replicate_succ, dig, List.map_cons] at ih ⊢
    rw [and_dig _ _ _ _ (by omega) (by decide), and_dig _ _ _ _ hb (by decide), hs, ← ih]
    unfold s1; omega
theorem dig_two : ∀ bs : List Nat, (∀ b ∈ bs, b < 256) → (dig bs / 4 &&& rep bs.length 51) + (dig bs &&& rep bs.length 51) = dig (bs.map s2)
  | [], _ => rfl
  | b :: r, h => by
    have ih := dig_two r (fun x hx => h x (List.mem_cons_of_mem _ hx))
    have hb := h b List.mem_cons_self
    have hs := (s2_lt b hb).2 (dig r % 4) (by omega)
    have e : dig (b :: r) / 4 = (b / 4 + 64 * (dig r % 4)) + 256 * (dig r / 4) := by simp only [dig]; omega
    rw [e]
    simp only [rep, List.length_cons, List.replicate_succ, dig, List.map_cons] at ih ⊢
    rw [and_dig _ _ _ _ (by omega) (by decide), and_dig _ _ _ _ hb (by decide), hs, ← ih]
    unfold s2; omega
theorem dig_three : ∀ bs : List Nat, (∀ b ∈ bs, b < 69 ∧ b % 16 < 5) → (dig bs / 16 + dig bs) &&& rep bs.length 15 = dig (bs.map s3)
  | [], _ => rfl
  | b :: r, h => by
    have ih := dig_three r (fun x hx => h x (List.mem_cons_of_mem _ hx))
    have hb := h b List.mem_cons_self
    have ht : dig r % 16 < 5 := by
      cases r with
      | nil => decide
      | cons c q => have := (h c (by simp)).2; simp only [dig]; omega
    have hs := s3_lt b hb.1 hb.2 (dig r % 16) ht
    have e : dig (b :: r) / 16 + dig (b :: r) = (b / 16 + 16 * (dig r % 16) + b) + 256 * (dig r / 16 + dig r) := by simp only [dig]; omega
    rw [e]
    simp only [rep, List.length_cons, List.replicate_succ, dig, List.map_cons] at ih ⊢
    rw [and_dig _ _ _ _ (by omega) (by decide), hs, ih]

/-- The bytes of a number. -/
def byt : Nat → Nat → List Nat
  | 0, _ => []
  | n + 1, x => x % 256 :: byt n (x / 256)
theorem byt_lt : ∀ (n x : Nat), ∀ b ∈ byt n x, b < 256
  | 0, _, b, hb => by simp [byt] at hb
  | n + 1, x, b, hb => by
    simp only [byt, List.mem_cons] at hb
    rcases hb with rfl | hb
    · exact Nat.mod_lt _ (by decide)
    · exact byt_lt n _ b hb
theorem byt_len : ∀ (n x : Nat), (byt n x).length = n
  | 0, _ => rfl
  | n + 1, x => by simp [byt, byt_len n]
theorem byt_dig : ∀ (n x : Nat), x < 256 ^ n → dig (byt n x) = x
  | 0, x, h => by simp at h; simp [byt, dig, h]
  | n + 1, x, h => by
    simp only [byt, dig]
    rw [byt_dig n (x / 256) (by rw [Nat.pow_succ] at h; omega)]; omega
theorem byt_pc : ∀ (n x : Nat), ((byt n x).map (pc 8)).sum = pc (8 * n) x
  | 0, x => rfl
  | n + 1, x => by
    rw [show 8 * (n + 1) = 8 + 8 * n by omega, pc_add]
    simp only [byt, List.map_cons, List.sum_cons]
    rw [byt_pc n]

theorem ones_sum (c c0 c1 c2 c3 c4 c5 c6 c7 : Nat) (e : c = c0 + 256 * (c1 + 256 * (c2 + 256 * (c3 + 256 * (c4 + 256 * (c5 + 256 * (c6 + 256 * (c7 + 256 * 0))))))))
    (p0 : c0 ≤ 8) (p1 : c1 ≤ 8) (p2 : c2 ≤ 8) (p3 : c3 ≤ 8) (p4 : c4 ≤ 8) (p5 : c5 ≤ 8) (p6 : c6 ≤ 8) (p7 : c7 ≤ 8) :
    c ≤ 578721382704613384 ∧ ((c + c / 256) + (c + c / 256) / 65536 + ((c + c / 256) + (c + c / 256) / 65536) / 4294967296) % 128 = c0 + (c1 + (c2 + (c3 + (c4 + (c5 + (c6 + (c7 + 0))))))) ∧ (c + c / 256) + (c + c / 256) / 65536 + ((c + c / 256) + (c + c / 256) / 65536) / 4294967296 < 2305843009213693952 := by
  have d1 : c / 256 = c1 + 256 * (c2 + 256 * (c3 + 256 * (c4 + 256 * (c5 + 256 * (c6 + 256 * c7))))) := by omega
  obtain ⟨a, ha⟩ : ∃ a, c + c / 256 = a := ⟨_, rfl⟩
  have e1 : a = (c0 + c1) + 256 * ((c1 + c2) + 256 * ((c2 + c3) + 256 * ((c3 + c4) + 256 * ((c4 + c5) + 256 * ((c5 + c6) + 256 * ((c6 + c7) + 256 * c7)))))) := by omega
  rw [ha]
  have d2 : a / 65536 = (c2 + c3) + 256 * ((c3 + c4) + 256 * ((c4 + c5) + 256 * ((c5 + c6) + 256 * ((c6 + c7) + 256 * c7)))) := by clear ha d1 e; omega
  have hc : c ≤ 578721382704613384 := by clear ha d1 d2 e1; omega
  obtain ⟨b, hb⟩ : ∃ b, a + a / 65536 = b := ⟨_, rfl⟩
  have e2 : b = (c0 + c1 + c2 + c3) + 256 * ((c1 + c2 + c3 + c4) + 256 * ((c2 + c3 + c4 + c5) + 256 * ((c3 + c4 + c5 + c6) + 256 * ((c4 + c5 + c6 + c7) + 256 * ((c5 + c6 + c7) + 256 * ((c6 + c7) + 256 * c7)))))) := by clear ha d1 e; omega
  rw [hb]
  clear ha d1 e d2 e1 hb
  have d3 : b / 4294967296 = (c4 + c5 + c6 + c7) + 256 * ((c5 + c6 + c7) + 256 * ((c6 + c7) + 256 * c7)) := by omega
  rw [d3]
  refine ⟨hc, ?_, ?_⟩
  · omega
  · omega

set_option maxRecDepth 100000 in
set_option maxHeartbeats 1000000 in
/-- What OnesCount64 reckons. -/
theorem ones_trick (x a b c : Nat) (hx : x < 18446744073709551616) (ha : a = (x / 2 &&& 6148914691236517205) + (x &&& 6148914691236517205)) (hb : b = (a / 4 &&& 3689348814741910323) + (a &&& 3689348814741910323))
    (hc : c = (b / 16 + b) &&& 1085102592571150095) :
    a ≤ 12297829382473034410 ∧ b ≤ 7378697629483820646 ∧ c ≤ 578721382704613384 ∧ ((c + c / 256) + (c + c / 256) / 65536 + ((c + c / 256) + (c + c / 256) / 65536) / 4294967296) % 128 = pc 64 x ∧ (c + c / 256) + (c + c / 256) / 65536 + ((c + c / 256) + (c + c / 256) / 65536) / 4294967296 < 2305843009213693952 := by
  have r1 : rep 8 85 = 6148914691236517205 := by decide +kernel
  have r2 : rep 8 51 = 3689348814741910323 := by decide +kernel
  have r3 : rep 8 15 = 1085102592571150095 := by decide +kernel
  have hA : ∀ b ∈ byt 8 x, b < 256 := byt_lt 8 x
  have e1 := dig_one (byt 8 x) hA
  have h8 : x < 256 ^ 8 := by omega
  rw [byt_dig 8 x h8, byt_len, r1, ← ha] at e1
  have hB : ∀ b ∈ (byt 8 x).map s1, b < 256 := by
    intro b hb; obtain ⟨y, hy, rfl⟩ := List.mem_map.1 hb; exact (s1_lt y (hA y hy)).1
  have e2 := dig_two ((byt 8 x).map s1) hB
  rw [← e1, List.length_map, byt_len, r2, ← hb] at e2
  have hC : ∀ b ∈ ((byt 8 x).map s1).map s2, b < 69 ∧ b % 16 < 5 := by
    intro b hb
    obtain ⟨z, hz, rfl⟩ := List.mem_map.1 hb
    obtain ⟨y, hy, rfl⟩ := List.mem_map.1 hz
    have := s_all y (hA y hy); exact ⟨this.1, this.2.1⟩
  have e3 := dig_three (((byt 8 x).map s1).map s2) hC
  rw [← e2, List.length_map, List.length_map, byt_len, r3, ← hc] at e3
  have e4 : (((byt 8 x).map s1).map s2).map s3 = (byt 8 x).map (pc 8) := by
    rw [List.map_map, List.map_map]
    apply List.map_congr_left
    intro y hy
    exact (s_all y (hA y hy)).2.2
  rw [e4] at e3
  have e5 := byt_pc 8 x
  have a1 : (x / 2 &&& 6148914691236517205) ≤ 6148914691236517205 := Nat.and_le_right
  have a2 : (x &&& 6148914691236517205) ≤ 6148914691236517205 := Nat.and_le_right
  have a3 : (a / 4 &&& 3689348814741910323) ≤ 3689348814741910323 := Nat.and_le_right
  have a4 : (a &&& 3689348814741910323) ≤ 3689348814741910323 := Nat.and_le_right
  refine ⟨by omega, by omega, ?_⟩
  clear a1 a2 a3 a4 e4 hC e2 hB e1 hc hb ha r1 r2 r3
  simp only [byt, List.map_cons, List.map_nil, dig, List.sum_cons, List.sum_nil] at e3 e5
  have h := ones_sum c _ _ _ _ _ _ _ _ e3 (pc_le 8 _) (pc_le 8 _) (pc_le 8 _) (pc_le 8 _) (pc_le 8 _) (pc_le 8 _) (pc_le 8 _) (pc_le 8 _)
  rw [e5] at h
  exact h

/-- Which bits are set, in order. -/
def nums (m : Nat) : List Nat := (List.range 64).filter fun i => m.testBit i
theorem mem_nums {m n : Nat} : n ∈ nums m ↔ n < 64 ∧ m.testBit n = true := by simp [nums]
theorem count_pc : ∀ (n m : Nat), (List.range n).countP (fun i => m.testBit i) = pc n m
  | 0, m => rfl
  | n + 1, m => by
    rw [List.range_succ_eq_map, List.countP_cons, List.countP_map, pc, ← count_pc n (m / 2)]
    have e : ((fun i => m.testBit i) ∘ Nat.succ) = fun i => (m / 2).testBit i := by
      funext i; simp [Nat.testBit_succ]
    rw [e, Nat.testBit_zero]
    rcases Nat.mod_two_eq_zero_or_one m with h | h <;> simp [h] <;> omega
theorem nums_len (m : Nat) : (nums m).length = pc 64 m := by
  unfold nums; rw [← List.countP_eq_length_filter]; exact count_pc 64 m
theorem nums_asc (m : Nat) : (nums m).Pairwise (· < ·) := List.Pairwise.filter _ List.pairwise_lt_range
theorem nums_zero : nums 0 = [] := by unfold nums; rw [List.filter_eq_nil_iff]; intro a _; simp

/-- The lowest bit. -/
theorem low_bit {x : Nat} (h0 : x ≠ 0) (h : x < 18446744073709551616) :
    Lib.ctz 64 x < 64 ∧ x.testBit (Lib.ctz 64 x) = true ∧ (∀ i, i < Lib.ctz 64 x → x.testBit i = false) ∧ (∀ i, (x &&& (x - 1)).testBit i = (x.testBit i && decide (i ≠ Lib.ctz 64 x))) := by
  obtain ⟨m, hm, hk⟩ := Lib.ctzFrom_spec 64 x (by omega) h
  have e : Lib.ctz 64 x = Lib.ctzFrom 64 x := by simp [Lib.ctz, h0]
  rw [e]
  generalize Lib.ctzFrom 64 x = k at *
  have hp : 0 < 2 ^ k := Nat.two_pow_pos k
  have t1 : ∀ i, x.testBit i = if i < k then false else (2 * m + 1).testBit (i - k) := by
    intro i
    have := Nat.testBit_two_pow_mul_add (2 * m + 1) (b := 0) hp i
    rw [Nat.add_zero, ← hm] at this
    rw [this]; simp
  have t2 : ∀ i, (x - 1).testBit i = if i < k then (2 ^ k - 1).testBit i else (2 * m).testBit (i - k) := by
    intro i
    have e2 : x - 1 = 2 ^ k * (2 * m) + (2 ^ k - 1) := by rw [hm, Nat.mul_add]; omega
    rw [e2, Nat.testBit_two_pow_mul_add _ (by omega)]
  refine ⟨hk, ?_, fun i hi => by rw [t1, if_pos hi], fun i => ?_⟩
  · rw [t1, if_neg (Nat.lt_irrefl _), Nat.sub_self, Nat.testBit_zero]; simp
  · rw [Nat.testBit_and, t2, t1]
    by_cases hi : i < k
    · simp [hi]
    · rw [if_neg hi, if_neg hi]
      by_cases he : i = k
      · subst he; simp [Nat.testBit_zero]
      · obtain ⟨j, hj⟩ : ∃ j, i - k = j + 1 := ⟨i - k - 1, by omega⟩
        rw [hj, Nat.testBit_succ, Nat.testBit_succ, show (2 * m + 1) / 2 = m by omega, show 2 * m / 2 = m by omega]
        simp [he]
theorem low_less {x : Nat} (h0 : x ≠ 0) : x &&& (x - 1) < x := Nat.lt_of_le_of_lt Nat.and_le_right (by omega)

/-- The highest bit. -/
theorem high_bit {x : Nat} (h0 : x ≠ 0) (h : x < 18446744073709551616) :
    1 ≤ Lib.bitLen x ∧ Lib.bitLen x ≤ 64 ∧ x.testBit (Lib.bitLen x - 1) = true ∧ ∀ i, Lib.bitLen x ≤ i → x.testBit i = false := by
  have hb := Lib.bitLenAux_bounds 64 x h h0
  have hl : Lib.bitLen x ≤ 64 := Lib.bitLen_le x 64 (Nat.le_refl _) h
  unfold Lib.bitLen at *
  generalize Lib.bitLenAux 64 x = L at *
  obtain ⟨h1, h2, h3⟩ := hb
  refine ⟨h1, hl, ?_, fun i hi => Nat.testBit_lt_two_pow (Nat.lt_of_lt_of_le h3 (Nat.pow_le_pow_right (by decide) hi))⟩
  obtain ⟨k, rfl⟩ : ∃ k, L = k + 1 := ⟨L - 1, by omega⟩
  rw [Nat.add_sub_cancel] at h2 ⊢
  have e : x = 2 ^ k * 1 + (x - 2 ^ k) := by omega
  rw [e, Nat.testBit_two_pow_mul_add _ (by rw [Nat.pow_succ] at h3; omega), if_neg (Nat.lt_irrefl _), Nat.sub_self]; decide
end Go.Proofs.YtigaepbhbfpijaaDoor

/- Plain facts on sorted ids and their sets of bits. -/
namespace Go.Proofs.YtigaepbhbfpijaaDoor
set_option linter.unusedVariables false

/-- Each id is ahead of the next one. -/
def ascB : List Pid → Bool
  | [] => true
  | [_] => true
  | a :: b :: r => ltP a b && ascB (b :: r)
theorem ascB_asc : ∀ {L : List Pid}, ascB L = true → Asc L
  | [], _ => asc_nil
  | [a], _ => List.pairwise_singleton _ _
  | a :: b :: r, h => by
    simp only [ascB, Bool.and_eq_true] at h
    have ih := ascB_asc (L := b :: r) h.2
    refine List.pairwise_cons.2 ⟨fun x hx => ?_, ih⟩
    rcases List.mem_cons.1 hx with rfl | hx
    · exact h.1
    · exact ltP_trans h.1 ((List.pairwise_cons.1 ih).1 x hx)
theorem asc_ascB : ∀ {L : List Pid}, Asc L → ascB L = true
  | [], _ => rfl
  | [a], _ => rfl
  | a :: b :: r, h => by
    have h' := List.pairwise_cons.1 h
    simp only [ascB, Bool.and_eq_true]
    exact ⟨h'.1 b List.mem_cons_self, asc_ascB h'.2⟩
theorem asc_adj : ∀ {L : List Pid}, (∀ i, i + 1 < L.length → ltP (L.getD i nop) (L.getD (i + 1) nop) = true) → Asc L
  | [], _ => asc_nil
  | [a], _ => List.pairwise_singleton _ _
  | a :: b :: r, h => by
    apply ascB_asc
    simp only [ascB, Bool.and_eq_true]
    exact ⟨h 0 (by simp), asc_ascB (asc_adj fun i hi => h (i + 1) (by simpa using hi))⟩

/-- What sorted ids are. -/
def srtB (L : List Pid) : Bool := decide (L.length ≤ 12) && (L.all okP && ascB L)
theorem srt_of {L : List Pid} (h : srtB L = true) : L.length ≤ 12 ∧ L.all okP = true ∧ Asc L := by
  simp only [srtB, Bool.and_eq_true, decide_eq_true_eq] at h
  exact ⟨h.1, h.2.1, ascB_asc h.2.2⟩
theorem srt_to {L : List Pid} (h1 : L.length ≤ 12) (h2 : L.all okP = true) (h3 : Asc L) : srtB L = true := by
  simp only [srtB, Bool.and_eq_true, decide_eq_true_eq]
  exact ⟨h1, h2, asc_ascB h3⟩
theorem srt_no {L : List Pid} (h : ¬ (L.length ≤ 12 ∧ L.all okP = true ∧ Asc L)) : srtB L = false := by
  cases e : srtB L with
  | false => rfl
  | true => exact absurd (srt_of e) h
theorem srt_long {L : List Pid} (h : ¬ L.length ≤ 12) : srtB L = false := srt_no fun x => h x.1
theorem all_get {L : List Pid} (h : L.all okP = true) {k : Nat} (hk : k < L.length) : okP (L.getD k nop) = true := by
  rw [List.getD_eq_getElem?_getD, List.getElem?_eq_getElem hk]
  exact List.all_eq_true.1 h _ (List.getElem_mem hk)
theorem srt_bad {L : List Pid} {k : Nat} (hk : k < L.length) (h : okP (L.getD k nop) = false) : srtB L = false := srt_no fun x => by
  have := all_get x.2.1 hk
  rw [h] at this; cases this
theorem srt_turn {L : List Pid} {k : Nat} (hk : k + 1 < L.length) (h : ltP (L.getD k nop) (L.getD (k + 1) nop) = false) : srtB L = false := srt_no fun x => by
  have := asc_lt x.2.2 (Nat.lt_succ_self k) hk
  rw [h] at this; cases this
theorem all_okL {L : List Pid} (h : ∀ j, j < L.length → okP (L.getD j nop) = true) : L.all okP = true := by
  rw [List.all_eq_true]
  intro x hx
  obtain ⟨i, hi, e⟩ := List.getElem_of_mem hx
  have := h i hi
  rw [List.getD_eq_getElem?_getD, List.getElem?_eq_getElem hi, Option.getD_some, e] at this
  exact this
theorem okP_of {a : Pid} (h : okP a = true) : 0 ≤ a.1 ∧ a.1 ≤ 4 ∧ 1 ≤ a.2 ∧ a.2 ≤ 50 := by simpa [okP, idB] using h
theorem okP_to {a : Pid} (h : 0 ≤ a.1 ∧ a.1 ≤ 4 ∧ 1 ≤ a.2 ∧ a.2 ≤ 50) : okP a = true := by simpa [okP, idB] using h

/-- The numbers of a replica, as bits. -/
def mask (L : List Pid) (r : Nat) : Nat := L.foldl (fun m a => if a.1 = (r : Int) then m ||| 2 ^ a.2.toNat else m) 0
theorem mask_app (L : List Pid) (a : Pid) (r : Nat) : mask (L ++ [a]) r = if a.1 = (r : Int) then mask L r ||| 2 ^ a.2.toNat else mask L r := by
  unfold mask; rw [List.foldl_append]; rfl
theorem mask_take {L : List Pid} {k : Nat} (hk : k < L.length) (r : Nat) : mask (L.take (k + 1)) r = if (L.getD k nop).1 = (r : Int) then mask (L.take k) r ||| 2 ^ (L.getD k nop).2.toNat else mask (L.take k) r := by
  rw [take_next hk, mask_app]
theorem fold_bit (r n : Nat) : ∀ (L : List Pid) (m : Nat), (∀ x ∈ L, 0 ≤ x.2) → ((L.foldl (fun m a => if a.1 = (r : Int) then m ||| 2 ^ a.2.toNat else m) m).testBit n = true ↔ m.testBit n = true ∨ ((r : Int), (n : Int)) ∈ L)
  | [], m, _ => by simp
  | a :: L, m, h => by
    rw [List.foldl_cons, fold_bit r n L _ (fun x hx => h x (List.mem_cons_of_mem _ hx)), List.mem_cons]
    have ha := h a List.mem_cons_self
    obtain ⟨p, q⟩ := a
    dsimp only at ha ⊢
    obtain ⟨q, rfl⟩ := Int.eq_ofNat_of_zero_le ha
    have e : (((r : Int), (n : Int)) = (p, (q : Int))) ↔ p = (r : Int) ∧ q = n := by
      rw [Prod.mk.injEq]
      constructor
      · rintro ⟨h1, h2⟩; exact ⟨h1.symm, by omega⟩
      · rintro ⟨h1, h2⟩; exact ⟨h1.symm, by omega⟩
    rw [e]
    by_cases hp : p = (r : Int)
    · simp only [if_pos hp, Nat.testBit_or, Bool.or_eq_true, Nat.testBit_two_pow, decide_eq_true_eq, Int.toNat_natCast]
      constructor
      · rintro ((h1 | h1) | h1)
        · exact .inl h1
        · exact .inr (.inl ⟨hp, h1⟩)
        · exact .inr (.inr h1)
      · rintro (h1 | ⟨_, h1⟩ | h1)
        · exact .inl (.inl h1)
        · exact .inl (.inr h1)
        · exact .inr h1
    · simp only [if_neg hp]
      constructor
      · rintro (h1 | h1)
        · exact .inl h1
        · exact .inr (.inr h1)
      · rintro (h1 | ⟨h1, _⟩ | h1)
        · exact .inl h1
        · exact absurd h1 hp
        · exact .inr h1
theorem mask_bit {L : List Pid} (h : L.all okP = true) (r n : Nat) : (mask L r).testBit n = true ↔ ((r : Int), (n : Int)) ∈ L := by
  unfold mask
  rw [fold_bit r n L 0 (fun x hx => by have := okP_of (List.all_eq_true.1 h x hx); omega)]
  simp
theorem fold_lt (r : Nat) : ∀ (L : List Pid) (m : Nat), m < 2 ^ 51 → (∀ x ∈ L, okP x = true) → L.foldl (fun m a => if a.1 = (r : Int) then m ||| 2 ^ a.2.toNat else m) m < 2 ^ 51
  | [], m, hm, _ => hm
  | a :: L, m, hm, h => by
    rw [List.foldl_cons]
    refine fold_lt r L _ ?_ (fun x hx => h x (List.mem_cons_of_mem _ hx))
    have ha := okP_of (h a List.mem_cons_self)
    split
    · exact Nat.or_lt_two_pow hm (Nat.pow_lt_pow_right (by decide) (by omega))
    · exact hm
theorem mask_lt {L : List Pid} (h : L.all okP = true) (r : Nat) : mask L r < 2251799813685248 :=
  fold_lt r L 0 (by decide) (List.all_eq_true.1 h)
theorem take_all {L : List Pid} (k : Nat) (h : ∀ j, j < k → okP (L.getD j nop) = true) (hk : k ≤ L.length) : (L.take k).all okP = true := by
  apply all_okL
  intro j hj
  rw [List.length_take] at hj
  have e : (L.take k).getD j nop = L.getD j nop := by
    rw [List.getD_eq_getElem?_getD, List.getElem?_take, if_pos (by omega), ← List.getD_eq_getElem?_getD]
  rw [e]; exact h j (by omega)

/-- Whether all are among others. -/
def inP (a b : List Pid) : Bool := a.all fun x => hasP b x
theorem inP_iff {a b : List Pid} : inP a b = true ↔ ∀ x ∈ a, x ∈ b := by simp [inP, hasP]
def withinB (a b : List Pid) : Bool := srtB a && (srtB b && inP a b)
/-- The set that idSetOf returns. -/
def setF (L : List Pid) : Nat → Nat := fun r => if srtB L = true then mask L r else 0
theorem setF_t {L : List Pid} (h : srtB L = true) : setF L = mask L := by funext r; exact if_pos h
theorem setF_f {L : List Pid} (h : srtB L = false) : setF L = fun _ => 0 := by funext r; exact if_neg (by rw [h]; decide)
theorem setF_lt (L : List Pid) (r : Nat) : setF L r < 2251799813685248 := by
  unfold setF; split
  · rename_i h; exact mask_lt (srt_of h).2.1 r
  · decide
theorem id_nat {x : Pid} (h : okP x = true) : ∃ r n : Nat, x = ((r : Int), (n : Int)) ∧ r < 5 ∧ 1 ≤ n ∧ n ≤ 50 := by
  have := okP_of h
  obtain ⟨p, q⟩ := x
  dsimp only at this
  exact ⟨p.toNat, q.toNat, by rw [Int.toNat_of_nonneg (by omega), Int.toNat_of_nonneg (by omega)], by omega, by omega, by omega⟩
theorem or_in {a b : List Pid} (ha : a.all okP = true) (hb : b.all okP = true) : (∀ r, r < 5 → mask a r ||| mask b r = mask b r) ↔ inP a b = true := by
  rw [inP_iff]
  constructor
  · intro h x hx
    obtain ⟨r, n, rfl, hr, _⟩ := id_nat (List.all_eq_true.1 ha x hx)
    have := (mask_bit ha r n).2 hx
    rw [← mask_bit hb, ← h r hr, Nat.testBit_or, this]; rfl
  · intro h r _
    apply Nat.eq_of_testBit_eq
    intro n
    rw [Nat.testBit_or]
    cases e : (mask a r).testBit n with
    | false => rfl
    | true => rw [(mask_bit hb r n).2 (h _ ((mask_bit ha r n).1 e))]; rfl
theorem within_set (a b : List Pid) (ha : srtB a = true) (hb : srtB b = true) : (∀ r, r < 5 → setF a r ||| setF b r = setF b r) ↔ inP a b = true := by
  rw [setF_t ha, setF_t hb]; exact or_in (srt_of ha).2.1 (srt_of hb).2.1
end Go.Proofs.YtigaepbhbfpijaaDoor

/- Plain facts: a set's ids in order. -/
namespace Go.Proofs.YtigaepbhbfpijaaDoor
set_option linter.unusedVariables false

/-- The ids of a replica whose bits are m. -/
def bitsL (r m : Nat) : List Pid := (nums m).map fun n : Nat => ((r : Int), (n : Int))
/-- .. of the replicas from r on. -/
def idsFrom (f : Nat → Nat) : Nat → Nat → List Pid
  | _, 0 => []
  | r, k + 1 => bitsL r (f r) ++ idsFrom f (r + 1) k
def idsO (f : Nat → Nat) : List Pid := idsFrom f 0 5
theorem bitsL_len (r m : Nat) : (bitsL r m).length = pc 64 m := by unfold bitsL; rw [List.length_map, nums_len]
theorem bitsL_zero (r : Nat) : bitsL r 0 = [] := by unfold bitsL; rw [nums_zero]; rfl
theorem mem_bitsL {r m : Nat} {x : Pid} : x ∈ bitsL r m ↔ ∃ n : Nat, x = ((r : Int), (n : Int)) ∧ n < 64 ∧ m.testBit n = true := by
  unfold bitsL
  rw [List.mem_map]
  constructor
  · rintro ⟨n, h, rfl⟩; exact ⟨n, rfl, mem_nums.1 h⟩
  · rintro ⟨n, rfl, h⟩; exact ⟨n, mem_nums.2 h, rfl⟩
theorem bitsL_asc (r m : Nat) : Asc (bitsL r m) := by
  unfold bitsL Asc
  rw [List.pairwise_map]
  refine List.Pairwise.imp (R := (· < ·)) (fun {a b} h => ?_) (nums_asc m)
  have h' : a < b := h
  exact ltP_iff.2 (.inr ⟨rfl, by show (a : Int) < (b : Int); omega⟩)
theorem mem_from {f : Nat → Nat} {x : Pid} : ∀ {k r : Nat}, x ∈ idsFrom f r k ↔ ∃ r' n : Nat, x = ((r' : Int), (n : Int)) ∧ r ≤ r' ∧ r' < r + k ∧ n < 64 ∧ (f r').testBit n = true
  | 0, r => by simp [idsFrom]; intros; omega
  | k + 1, r => by
    rw [idsFrom, List.mem_append, mem_bitsL, mem_from]
    constructor
    · rintro (⟨n, rfl, h⟩ | ⟨r', n, rfl, h1, h2, h⟩)
      · exact ⟨r, n, rfl, Nat.le_refl _, by omega, h⟩
      · exact ⟨r', n, rfl, by omega, by omega, h⟩
    · rintro ⟨r', n, rfl, h1, h2, h⟩
      by_cases e : r' = r
      · subst e; exact .inl ⟨n, rfl, h⟩
      · exact .inr ⟨r', n, rfl, by omega, by omega, h⟩
theorem from_asc {f : Nat → Nat} : ∀ (k r : Nat), Asc (idsFrom f r k)
  | 0, r => asc_nil
  | k + 1, r => by
    rw [idsFrom]
    refine List.pairwise_append.2 ⟨bitsL_asc _ _, from_asc k (r + 1), fun x hx y hy => ?_⟩
    obtain ⟨n, rfl, _⟩ := mem_bitsL.1 hx
    obtain ⟨r', n', rfl, h1, _⟩ := mem_from.1 hy
    rw [ltP_iff]; simp; omega
theorem mem_idsO {f : Nat → Nat} {x : Pid} : x ∈ idsO f ↔ ∃ r n : Nat, x = ((r : Int), (n : Int)) ∧ r < 5 ∧ n < 64 ∧ (f r).testBit n = true := by
  unfold idsO
  rw [mem_from]
  constructor
  · rintro ⟨r, n, rfl, _, h2, h⟩; exact ⟨r, n, rfl, by omega, h⟩
  · rintro ⟨r, n, rfl, h2, h⟩; exact ⟨r, n, rfl, by omega, by omega, h⟩
theorem idsO_asc (f : Nat → Nat) : Asc (idsO f) := from_asc 5 0
def manyN (f : Nat → Nat) : Nat := pc 64 (f 0) + pc 64 (f 1) + pc 64 (f 2) + pc 64 (f 3) + pc 64 (f 4)
theorem idsO_len (f : Nat → Nat) : (idsO f).length = manyN f := by
  simp only [idsO, idsFrom, List.length_append, bitsL_len, List.length_nil, manyN, Nat.zero_add, Nat.reduceAdd]; omega
theorem manyN_le (f : Nat → Nat) : manyN f ≤ 320 := by
  unfold manyN
  have h0 := pc_le 64 (f 0); have h1 := pc_le 64 (f 1); have h2 := pc_le 64 (f 2); have h3 := pc_le 64 (f 3); have h4 := pc_le 64 (f 4)
  omega
/-- The lowest bit comes first. -/
theorem bitsL_cons {r m : Nat} (h0 : m ≠ 0) (h : m < 18446744073709551616) : bitsL r m = ((r : Int), ((Lib.ctz 64 m : Nat) : Int)) :: bitsL r (m &&& (m - 1)) := by
  obtain ⟨hk, ht, hlo, hcl⟩ := low_bit h0 h
  refine asc_ext (bitsL_asc r m) (List.pairwise_cons.2 ⟨fun x hx => ?_, bitsL_asc _ _⟩) (fun x => ?_)
  · obtain ⟨n, rfl, hn, hb⟩ := mem_bitsL.1 hx
    rw [hcl, Bool.and_eq_true, decide_eq_true_iff] at hb
    rw [ltP_iff]
    have : ¬ n < Lib.ctz 64 m := fun e => by rw [hlo n e] at hb; cases hb.1
    refine .inr ⟨rfl, ?_⟩
    have := hb.2
    show ((Lib.ctz 64 m : Nat) : Int) < (n : Int)
    omega
  · rw [List.mem_cons, mem_bitsL, mem_bitsL]
    constructor
    · rintro ⟨n, rfl, hn, hb⟩
      by_cases e : n = Lib.ctz 64 m
      · subst e; exact .inl rfl
      · exact .inr ⟨n, rfl, hn, by rw [hcl, hb, decide_eq_true e]; rfl⟩
    · rintro (rfl | ⟨n, rfl, hn, hb⟩)
      · exact ⟨_, rfl, hk, ht⟩
      · rw [hcl, Bool.and_eq_true] at hb
        exact ⟨n, rfl, hn, hb.1⟩

/-- A set of sorted ids has just these. -/
theorem idsO_mask {L : List Pid} (h : srtB L = true) : idsO (mask L) = L := by
  obtain ⟨h1, h2, h3⟩ := srt_of h
  refine asc_ext (idsO_asc _) h3 (fun x => ?_)
  rw [mem_idsO]
  constructor
  · rintro ⟨r, n, rfl, hr, hn, hb⟩; exact (mask_bit h2 r n).1 hb
  · intro hx
    obtain ⟨r, n, rfl, hr, hn, hn2⟩ := id_nat (List.all_eq_true.1 h2 x hx)
    exact ⟨r, n, rfl, hr, by omega, (mask_bit h2 r n).2 hx⟩

/-- Both lists joined. -/
def joinP (a b : List Pid) : List Pid := b.foldl putP a
theorem joinP_asc {a b : List Pid} (ha : Asc a) : Asc (joinP a b) := foldl_asc b ha
theorem joinP_mem {a b : List Pid} {x : Pid} : x ∈ joinP a b ↔ x ∈ a ∨ x ∈ b := foldl_mem b a x
theorem joinP_take {a b : List Pid} {k : Nat} (hk : k < b.length) : joinP a (b.take (k + 1)) = putP (joinP a (b.take k)) (b.getD k nop) := by
  rw [take_next hk]; unfold joinP; rw [List.foldl_append]; rfl
theorem joinP_len (a b : List Pid) : (joinP a b).length ≤ a.length + b.length := (foldl_len b a).2
/-- What DepsJoin answers. -/
def joinR (a b : List Pid) : List Pid × Bool := if srtB a = true ∧ srtB b = true ∧ (joinP a b).length ≤ 12 then (joinP a b, true) else ([], false)
theorem joinR_t {a b : List Pid} (h1 : srtB a = true) (h2 : srtB b = true) (h3 : (joinP a b).length ≤ 12) : joinR a b = (joinP a b, true) := if_pos ⟨h1, h2, h3⟩
theorem joinR_1 {a b : List Pid} (h : srtB a = false) : joinR a b = ([], false) := if_neg fun x => by rw [h] at x; cases x.1
theorem joinR_2 {a b : List Pid} (h : srtB b = false) : joinR a b = ([], false) := if_neg fun x => by rw [h] at x; cases x.2.1
theorem joinR_3 {a b : List Pid} (h : ¬ (joinP a b).length ≤ 12) : joinR a b = ([], false) := if_neg fun x => h x.2.2
theorem idsO_join {a b : List Pid} (ha : srtB a = true) (hb : srtB b = true) : idsO (fun r => setF a r ||| setF b r) = joinP a b := by
  rw [setF_t ha, setF_t hb]
  obtain ⟨a1, a2, a3⟩ := srt_of ha
  obtain ⟨b1, b2, b3⟩ := srt_of hb
  refine asc_ext (idsO_asc _) (joinP_asc a3) (fun x => ?_)
  rw [mem_idsO, joinP_mem]
  constructor
  · rintro ⟨r, n, rfl, hr, hn, hb⟩
    rw [Nat.testBit_or, Bool.or_eq_true, mask_bit a2, mask_bit b2] at hb
    exact hb
  · intro hx
    obtain ⟨r, n, rfl, hr, hn, hn2⟩ := id_nat (x := x) (by rcases hx with h | h; exact List.all_eq_true.1 a2 x h; exact List.all_eq_true.1 b2 x h)
    exact ⟨r, n, rfl, hr, by omega, by rw [Nat.testBit_or, Bool.or_eq_true, mask_bit a2, mask_bit b2]; exact hx⟩
end Go.Proofs.YtigaepbhbfpijaaDoor

/- Plain facts on the last ids of replicas. -/
namespace Go.Proofs.YtigaepbhbfpijaaDoor
set_option linter.unusedVariables false

/-- The highest bit alone. -/
def latN (x : Nat) : Nat := if x = 0 then 0 else 2 ^ (Lib.bitLen x - 1)
def latF (f : Nat → Nat) : Nat → Nat := fun r => latN (f r)
theorem latN_bit {x n : Nat} (hx : x < 18446744073709551616) : (latN x).testBit n = true ↔ x.testBit n = true ∧ ∀ n', x.testBit n' = true → n' ≤ n := by
  unfold latN
  by_cases h0 : x = 0
  · subst h0; simp
  · rw [if_neg h0, Nat.testBit_two_pow, decide_eq_true_iff]
    obtain ⟨h1, h2, h3, h4⟩ := high_bit h0 hx
    constructor
    · rintro rfl
      refine ⟨h3, fun n' hn => ?_⟩
      rcases Nat.lt_or_ge n' (Lib.bitLen x) with h | h
      · omega
      · rw [h4 n' h] at hn; cases hn
    · rintro ⟨h5, h6⟩
      have := h6 _ h3
      rcases Nat.lt_or_ge n (Lib.bitLen x) with h | h
      · omega
      · rw [h4 n h] at h5; cases h5
theorem latN_lt {x : Nat} (h : x < 2251799813685248) : latN x < 2251799813685248 := by
  unfold latN
  split
  · decide
  · rename_i h0
    obtain ⟨h1, h2, h3, h4⟩ := high_bit h0 (by omega)
    have : Lib.bitLen x ≤ 51 := Lib.bitLen_le x 51 (by decide) h
    exact Nat.pow_lt_pow_right (n := 51) (by decide) (by omega)

def lastP : List Pid → List Pid
  | [] => []
  | [a] => [a]
  | a :: b :: r => if b.1 = a.1 then lastP (b :: r) else a :: lastP (b :: r)
theorem last_one (a : Pid) : lastP [a] = [a] := rfl
theorem last_same {a b : Pid} {r : List Pid} (h : b.1 = a.1) : lastP (a :: b :: r) = lastP (b :: r) := by rw [lastP, if_pos h]
theorem last_next {a b : Pid} {r : List Pid} (h : ¬ b.1 = a.1) : lastP (a :: b :: r) = a :: lastP (b :: r) := by rw [lastP, if_neg h]
theorem last_sub : ∀ L : List Pid, (lastP L).Sublist L
  | [] => List.Sublist.refl _
  | [a] => List.Sublist.refl _
  | a :: b :: r => by
    by_cases h : b.1 = a.1
    · rw [last_same h]; exact (last_sub (b :: r)).cons a
    · rw [last_next h]; exact (last_sub (b :: r)).cons_cons a
theorem last_asc {L : List Pid} (h : Asc L) : Asc (lastP L) := List.Pairwise.sublist (last_sub L) h
theorem mem_last : ∀ {L : List Pid}, Asc L → ∀ x, x ∈ lastP L ↔ x ∈ L ∧ ∀ y ∈ L, y.1 = x.1 → y.2 ≤ x.2
  | [], _, x => by simp [lastP]
  | [a], _, x => by
    rw [last_one]
    constructor
    · intro h
      have e := List.mem_singleton.1 h
      subst e
      exact ⟨h, fun y hy _ => by rw [List.mem_singleton.1 hy]; exact Int.le_refl _⟩
    · exact fun h => h.1
  | a :: b :: r, hA, x => by
    have hA' := List.pairwise_cons.1 hA
    have ih := mem_last hA'.2 x
    have hab := ltP_iff.1 (hA'.1 b List.mem_cons_self)
    by_cases h : b.1 = a.1
    · rw [last_same h, ih]
      constructor
      · rintro ⟨h1, h2⟩
        refine ⟨List.mem_cons_of_mem _ h1, fun y hy e => ?_⟩
        rcases List.mem_cons.1 hy with rfl | hy
        · have := ltP_iff.1 (hA'.1 x h1); omega
        · exact h2 y hy e
      · rintro ⟨h1, h2⟩
        rcases List.mem_cons.1 h1 with rfl | h1
        · have := h2 b (by simp) h; omega
        · exact ⟨h1, fun y hy e => h2 y (List.mem_cons_of_mem _ hy) e⟩
    · rw [last_next h, List.mem_cons, ih]
      constructor
      · rintro (rfl | ⟨h1, h2⟩)
        · refine ⟨List.mem_cons_self, fun y hy e => ?_⟩
          rcases List.mem_cons.1 hy with rfl | hy
          · exact Int.le_refl _
          · have hby : b = y ∨ ltP b y = true := by
              rcases List.mem_cons.1 hy with rfl | hy
              · exact .inl rfl
              · exact .inr ((List.pairwise_cons.1 hA'.2).1 y hy)
            rcases hby with rfl | hby
            · omega
            · have := ltP_iff.1 hby; omega
        · refine ⟨List.mem_cons_of_mem _ h1, fun y hy e => ?_⟩
          rcases List.mem_cons.1 hy with rfl | hy
          · have := ltP_iff.1 (hA'.1 x h1); omega
          · exact h2 y hy e
      · rintro ⟨h1, h2⟩
        rcases List.mem_cons.1 h1 with rfl | h1
        · exact .inl rfl
        · exact .inr ⟨h1, fun y hy e => h2 y (List.mem_cons_of_mem _ hy) e⟩

/-- What DepsLatest answers. -/
def latR (L : List Pid) : List Pid := if srtB L = true then lastP L else []
theorem latR_t {L : List Pid} (h : srtB L = true) : latR L = lastP L := if_pos h
theorem latR_f {L : List Pid} (h : srtB L = false) : latR L = [] := if_neg (by rw [h]; decide)
theorem latR_len (L : List Pid) : (latR L).length ≤ 12 := by
  unfold latR; split
  · rename_i h; exact Nat.le_trans (last_sub L).length_le (srt_of h).1
  · simp
theorem idsO_lat {L : List Pid} (h : srtB L = true) : idsO (latF (setF L)) = lastP L := by
  rw [setF_t h]
  obtain ⟨h1, h2, h3⟩ := srt_of h
  refine asc_ext (idsO_asc _) (last_asc h3) (fun x => ?_)
  rw [mem_idsO, mem_last h3]
  have hlt : ∀ r, mask L r < 18446744073709551616 := fun r => by have := mask_lt h2 r; omega
  constructor
  · rintro ⟨r, n, rfl, hr, hn, hb⟩
    unfold latF at hb
    rw [latN_bit (hlt r)] at hb
    refine ⟨(mask_bit h2 r n).1 hb.1, fun y hy e => ?_⟩
    obtain ⟨r', n', rfl, _⟩ := id_nat (List.all_eq_true.1 h2 y hy)
    dsimp only at e ⊢
    have e' : r' = r := by omega
    subst e'
    have := hb.2 n' ((mask_bit h2 r' n').2 hy)
    omega
  · rintro ⟨hx, hmax⟩
    obtain ⟨r, n, rfl, hr, hn, hn2⟩ := id_nat (List.all_eq_true.1 h2 x hx)
    refine ⟨r, n, rfl, hr, by omega, ?_⟩
    unfold latF
    rw [latN_bit (hlt r)]
    refine ⟨(mask_bit h2 r n).2 hx, fun n' hn' => ?_⟩
    have := hmax _ ((mask_bit h2 r n').1 hn') rfl
    dsimp only at this
    omega
end Go.Proofs.YtigaepbhbfpijaaDoor

/- math/bits.OnesCount64. -/
namespace Go.Proofs.YtigaepbhbfpijaaDoor
open Go.RowKit
set_option linter.unusedVariables false

theorem wrapN (n : Nat) (h : n < 18446744073709551616) : IntKind.u64.wrap (n : Int) = (n : Int) := by rw [IntKind.wrap_u64]; omega

set_option maxRecDepth 100000 in
set_option maxHeartbeats 1000000 in
theorem ones_any (x : Nat) (w : World) (hx : x < 18446744073709551616) :
    Calls Tryd.prog 49 #[.int .u64 x] w fun e w' => e = .returned (.int .i64 (pc 64 x)) ∧ w = w' := by
  obtain ⟨A1, hA1⟩ : ∃ n, n = x / 2 &&& 6148914691236517205 := ⟨_, rfl⟩
  obtain ⟨A2, hA2⟩ : ∃ n, n = x &&& 6148914691236517205 := ⟨_, rfl⟩
  obtain ⟨a, ha⟩ : ∃ n, n = A1 + A2 := ⟨_, rfl⟩
  obtain ⟨B1, hB1⟩ : ∃ n, n = a / 4 &&& 3689348814741910323 := ⟨_, rfl⟩
  obtain ⟨B2, hB2⟩ : ∃ n, n = a &&& 3689348814741910323 := ⟨_, rfl⟩
  obtain ⟨b, hb⟩ : ∃ n, n = B1 + B2 := ⟨_, rfl⟩
  obtain ⟨c0, hc0⟩ : ∃ n, n = b / 16 + b := ⟨_, rfl⟩
  obtain ⟨c, hc⟩ : ∃ n, n = c0 &&& 1085102592571150095 := ⟨_, rfl⟩
  obtain ⟨d, hd⟩ : ∃ n, n = c + c / 256 := ⟨_, rfl⟩
  obtain ⟨e, he⟩ : ∃ n, n = d + d / 65536 := ⟨_, rfl⟩
  obtain ⟨f, hf⟩ : ∃ n, n = e + e / 4294967296 := ⟨_, rfl⟩
  have T := ones_trick x a b c hx (by rw [ha, hA1, hA2]) (by rw [hb, hB1, hB2]) (by rw [hc, hc0])
  rw [← hd, ← he, ← hf] at T
  obtain ⟨t1, t2, t3, t4, t5⟩ := T
  have a1 : bits .and .u64 ((x : Int) / 2) 6148914691236517205 = (A1 : Int) := by
    have := bits_and_u64_nat (x / 2) 6148914691236517205 (by omega) (by decide)
    rw [← hA1] at this; exact this
  have a2 : bits .and .u64 (x : Int) 6148914691236517205 = (A2 : Int) := by
    have := bits_and_u64_nat x 6148914691236517205 hx (by decide)
    rw [← hA2] at this; exact this
  have wa : IntKind.u64.wrap ((A1 : Int) + (A2 : Int)) = (a : Int) := by rw [← Int.natCast_add, ← ha]; exact wrapN a (by omega)
  have b1 : bits .and .u64 ((a : Int) / 4) 3689348814741910323 = (B1 : Int) := by
    have := bits_and_u64_nat (a / 4) 3689348814741910323 (by omega) (by decide)
    rw [← hB1] at this; exact this
  have b2 : bits .and .u64 (a : Int) 3689348814741910323 = (B2 : Int) := by
    have := bits_and_u64_nat a 3689348814741910323 (by omega) (by decide)
    rw [← hB2] at this; exact this
  have wb : IntKind.u64.wrap ((B1 : Int) + (B2 : Int)) = (b : Int) := by rw [← Int.natCast_add, ← hb]; exact wrapN b (by omega)
  have wc : IntKind.u64.wrap ((b : Int) / 16 + (b : Int)) = (c0 : Int) := by
    have := wrapN c0 (by omega)
    rw [show ((b : Int) / 16 + (b : Int)) = (c0 : Int) by omega]; exact this
  have c1 : bits .and .u64 (c0 : Int) 1085102592571150095 = (c : Int) := by
    have := bits_and_u64_nat c0 1085102592571150095 (by omega) (by decide)
    rw [← hc] at this; exact this
  have wd : IntKind.u64.wrap ((c : Int) + (c : Int) / 256) = (d : Int) := by
    rw [show ((c : Int) + (c : Int) / 256) = (d : Int) by omega]; exact wrapN d (by omega)
  have we : IntKind.u64.wrap ((d : Int) + (d : Int) / 65536) = (e : Int) := by
    rw [show ((d : Int) + (d : Int) / 65536) = (e : Int) by omega]; exact wrapN e (by omega)
  have wf : IntKind.u64.wrap ((e : Int) + (e : Int) / 4294967296) = (f : Int) := by
    rw [show ((e : Int) + (e : Int) / 4294967296) = (f : Int) by omega]; exact wrapN f (by omega)
  have wi : IntKind.i64.wrap (f : Int) = (f : Int) := IntWalk.i64_in _ (by omega)
  have g1 : bits .and .i64 (f : Int) 127 = ((pc 64 x : Nat) : Int) := by rw [i64_and127]; omega
  generalize pc 64 x = q at g1 t4 ⊢
  clear hA1 hA2 ha hB1 hB2 hb hc0 hc hd he hf t1 t2 t3 t4 t5
  go_enter Tryd.func49, Tryd.ntmps49
  go_wp2_with fail
  go_ret
  exact ⟨rfl, rfl⟩
end Go.Proofs.YtigaepbhbfpijaaDoor

/- Slices of ids: read, owned. -/
namespace Go.Proofs.YtigaepbhbfpijaaDoor
open Go.RowKit
set_option linter.unusedVariables false

def idv (c : Pid) : List Value := [.int .i64 c.1, .int .i64 c.2]
/-- Ids as cells. -/
def flatP : List Pid → List Value
  | [] => []
  | c :: r => idv c ++ flatP r

theorem flatP_len : ∀ C : List Pid, (flatP C).length = C.length * 2
  | [] => rfl
  | c :: r => by simp [flatP, idv, flatP_len r]; omega
theorem flatP_app : ∀ (A B : List Pid), flatP (A ++ B) = flatP A ++ flatP B
  | [], B => rfl
  | c :: r, B => by simp [flatP, flatP_app r B]
theorem flatP_get : ∀ (C : List Pid) (i : Nat), i < C.length → (flatP C)[i * 2]? = some (.int .i64 (C.getD i nop).1) ∧ (flatP C)[i * 2 + 1]? = some (.int .i64 (C.getD i nop).2)
  | [], i, h => absurd h (by simp)
  | c :: r, 0, h => by simp [flatP, idv]
  | c :: r, i + 1, h => by
    have ih := flatP_get r i (by simpa using h)
    have e : (i + 1) * 2 = i * 2 + 2 := by omega
    have g : ∀ n, (flatP (c :: r))[n + 2]? = (flatP r)[n]? := fun n => by simp [flatP, idv]
    rw [e, g, show i * 2 + 2 + 1 = (i * 2 + 1) + 2 by omega, g]
    simpa using ih
theorem flatP_one (C : List Pid) : ∀ u ∈ flatP C, u.oneCell' = true := by
  induction C with
  | nil => intro u hu; simp [flatP] at hu
  | cons c r ih =>
    intro u hu
    rw [flatP, List.mem_append] at hu
    rcases hu with hu | hu
    · simp [idv] at hu; rcases hu with rfl | rfl <;> rfl
    · exact ih u hu

/-- A slice of ids, readable. -/
def Ids (w : World) (v : Value) (C : List Pid) : Prop :=
  ∃ a cap, v = .slice a C.length cap ∧ C.length ≤ cap ∧ C.length ≤ 2000000 ∧ (C.length = 0 ∨ ∃ b off, a = some ⟨b, off, none⟩ ∧ b < w.heap.size ∧ ∀ i, i < C.length →
    w.cell? ⟨b, off + i * 2, none⟩ = some (.int .i64 (C.getD i nop).1) ∧ w.cell? ⟨b, off + i * 2 + 1, none⟩ = some (.int .i64 (C.getD i nop).2))

/-- .. in a block of its own, from its head. -/
def OwnP (w : World) (b : Nat) (v : Value) (C : List Pid) : Prop :=
  ∃ cap cur t, v = .slice (some ⟨b, 0, none⟩) C.length cap ∧ w.heap[b]? = some (.cells cur t (0, 0)) ∧ C.length ≤ cap ∧ C.length ≤ 2000000 ∧ ∀ i, i < C.length →
    cur[i * 2]? = some (.int .i64 (C.getD i nop).1) ∧ cur[i * 2 + 1]? = some (.int .i64 (C.getD i nop).2)

theorem OwnP.lt {w : World} {b : Nat} {v : Value} {C : List Pid} (h : OwnP w b v C) : b < w.heap.size := by
  obtain ⟨cap, cur, t, rfl, hb, _⟩ := h
  exact lt_of_heap hb
theorem OwnP.same {w w' : World} {b : Nat} {v : Value} {C : List Pid} (h : OwnP w b v C) (hb : w'.heap[b]? = w.heap[b]?) : OwnP w' b v C := by
  obtain ⟨cap, cur, t, e, h1, h2, h3, h4⟩ := h
  exact ⟨cap, cur, t, e, hb.trans h1, h2, h3, h4⟩
theorem OwnP.up {w w' : World} {b B : Nat} {v : Value} {C : List Pid} (h : OwnP w b v C) (hb : Below B w w') (hB : b < B) : OwnP w' b v C := h.same (hb.block b hB)
theorem OwnP.read {w : World} {b : Nat} {v : Value} {C : List Pid} (h : OwnP w b v C) : Ids w v C := by
  obtain ⟨cap, cur, t, rfl, h1, h2, h3, h4⟩ := h
  refine ⟨_, cap, rfl, h2, h3, ?_⟩
  by_cases hz : C.length = 0
  · exact .inl hz
  · refine .inr ⟨b, 0, rfl, lt_of_heap h1, fun i hi => ?_⟩
    rw [Nat.zero_add, cell_of_cells h1, cell_of_cells h1]
    exact h4 i hi
theorem Ids.up {w w' : World} {B : Nat} {v : Value} {C : List Pid} (h : Ids w v C) (hb : Below B w w') (hB : w.heap.size ≤ B) : Ids w' v C := by
  obtain ⟨a, cap, rfl, h1, h2, h3⟩ := h
  refine ⟨a, cap, rfl, h1, h2, ?_⟩
  rcases h3 with h3 | ⟨b, off, rfl, h4, h5⟩
  · exact .inl h3
  · have hc : ∀ o, w'.cell? ⟨b, o, none⟩ = w.cell? ⟨b, o, none⟩ := fun o => hb.cell (p := ⟨b, o, none⟩) (Nat.lt_of_lt_of_le h4 hB)
    exact .inr ⟨b, off, rfl, Nat.lt_of_lt_of_le h4 hb.size, fun i hi => by rw [hc, hc]; exact h5 i hi⟩
theorem OwnP.of_row {w : World} {base : Nat} {e : TypeId} {v : Value} {C : List Pid} {n : Nat} (h : w.ownsRow base e 2 v n (flatP C)) (hn : n = C.length) (hl : C.length ≤ 2000000) (hv : v ≠ .slice none 0 0) : ∃ b, base ≤ b ∧ OwnP w b v C := by
  subst hn
  rcases h.2 with ⟨rfl, _⟩ | ⟨g, cap, cur, rfl, h1, h2, h3, h4, h5, h6⟩
  · exact absurd rfl hv
  · refine ⟨g, h1, cap, cur, e, rfl, h2, h3, hl, fun i hi => ?_⟩
    have hk : ∀ j, j < C.length * 2 → cur[j]? = (flatP C)[j]? := fun j hj => by
      rw [← h6, List.getElem?_take, if_pos hj]; simp
    rw [hk _ (by omega), hk _ (by omega)]
    exact flatP_get C i hi
theorem OwnP.shape {w : World} {b : Nat} {u : Value} {C : List Pid} (h : OwnP w b u C) : ∃ cap, u = .slice (some ⟨b, 0, none⟩) C.length cap ∧ C.length ≤ cap := by
  obtain ⟨cap, cur, t, e, h1, h2, _⟩ := h
  exact ⟨cap, e, h2⟩
theorem OwnP.cell {w : World} {b : Nat} {u : Value} {C : List Pid} (h : OwnP w b u C) (i : Nat) (hi : i < C.length) :
    w.cell? ⟨b, i * 2, none⟩ = some (.int .i64 (C.getD i nop).1) ∧ w.cell? ⟨b, i * 2 + 1, none⟩ = some (.int .i64 (C.getD i nop).2) := by
  obtain ⟨cap, cur, t, rfl, h1, h2, h3, h4⟩ := h
  rw [cell_of_cells h1, cell_of_cells h1]
  exact h4 i hi
theorem OwnP.free {w : World} {b : Nat} {u : Value} {C : List Pid} (h : OwnP w b u C) (m : Nat) : w.frozen? ⟨b, m, none⟩ = false := by
  obtain ⟨cap, cur, t, e, h1, _⟩ := h
  simp [World.frozen?, h1]

/-- An id stored at place k. -/
theorem OwnP.set {w : World} {b : Nat} {u : Value} {C : List Pid} (h : OwnP w b u C) (k : Nat) (hk : k < C.length) (c : Pid) :
    OwnP ((w.setCell ⟨b, k * 2, none⟩ (.int .i64 c.1)).setCell ⟨b, k * 2 + 1, none⟩ (.int .i64 c.2)) b u (C.set k c) := by
  obtain ⟨cap, cur, t, rfl, h1, h2, h3, h4⟩ := h
  have e1 := heap_setCell_same w b (k * 2) cur t (.int .i64 c.1) h1
  have e2 := heap_setCell_same _ b (k * 2 + 1) _ t (.int .i64 c.2) e1
  have hs : k * 2 + 1 < cur.size := by
    have := (h4 k hk).2
    rcases Nat.lt_or_ge (k * 2 + 1) cur.size with h | h
    · exact h
    · rw [Array.getElem?_eq_none h] at this; exact absurd this (by simp)
  refine ⟨cap, _, t, by simp, e2, by simpa using h2, by simpa using h3, fun i hi => ?_⟩
  rw [List.length_set] at hi
  by_cases e : i = k
  · subst e
    simp [hs, show i * 2 < cur.size by omega, List.getD_eq_getElem?_getD, List.getElem?_set_self hk]
  · have hg : (C.set k c).getD i nop = C.getD i nop := by
      rw [List.getD_eq_getElem?_getD, List.getElem?_set_ne (fun x => e x.symm), ← List.getD_eq_getElem?_getD]
    rw [hg]
    have := h4 i hi
    simp only [Array.getElem?_setIfInBounds]
    rw [if_neg (by omega), if_neg (by omega), if_neg (by omega), if_neg (by omega)]
    exact this
end Go.Proofs.YtigaepbhbfpijaaDoor

/- Contracts of the functions on ids: valid, compare, IdBefore, of the program and of the model. -/
namespace Go.Proofs.YtigaepbhbfpijaaDoor
open Go.RowKit
set_option linter.unusedVariables false

theorem idB_t {r n : Int} (h1 : 0 ≤ r) (h2 : r ≤ 4) (h3 : 1 ≤ n) (h4 : n ≤ 50) : idB r n = true := by simp [idB]; omega
theorem idB_f {r n : Int} (h : ¬ (0 ≤ r ∧ r ≤ 4 ∧ 1 ≤ n ∧ n ≤ 50)) : idB r n = false := by simp [idB]; omega
theorem idB_of {r n : Int} (h : idB r n = true) : 0 ≤ r ∧ r ≤ 4 ∧ 1 ≤ n ∧ n ≤ 50 := by simpa [idB] using h
theorem idB_no {r n : Int} (h : idB r n = false) : (¬ 0 ≤ r) ∨ (0 ≤ r ∧ ¬ r ≤ 4) ∨ (0 ≤ r ∧ r ≤ 4 ∧ ¬ 1 ≤ n) ∨ (0 ≤ r ∧ r ≤ 4 ∧ 1 ≤ n ∧ ¬ n ≤ 50) := by simp [idB] at h; omega

/-- valid of the program. -/
theorem ivid_any (r n : Int) (w : World) :
    Calls Tryd.prog 46 #[.agg #[.int .i64 r, .int .i64 n]] w fun e w' => e = .returned (.bool (idB r n)) ∧ Below w.heap.size w w' := by
  by_cases h : idB r n = true
  · obtain ⟨h1, h2, h3, h4⟩ := idB_of h
    rw [h]; clear h
    go_enter Tryd.func46, Tryd.ntmps46
    go_wp2_with fail
    go_ret
    exact ⟨rfl, (Below.refl _ _).alloc (Nat.le_refl _) _⟩
  · have h : idB r n = false := by simpa using h
    rw [h]
    rcases idB_no h with h1 | ⟨h1, h2⟩ | ⟨h1, h2, h3⟩ | ⟨h1, h2, h3, h4⟩
    all_goals
      clear h
      go_enter Tryd.func46, Tryd.ntmps46
      go_wp2_with fail
      go_ret
      exact ⟨rfl, (Below.refl _ _).alloc (Nat.le_refl _) _⟩

/-- IdValid of the model. -/
theorem svid_any (r n : Int) (w : World) :
    Calls Tryd.prog 40 #[.agg #[.int .i64 r, .int .i64 n]] w fun e w' => e = .returned (.bool (idB r n)) ∧ Below w.heap.size w w' := by
  have e1 : idB r n = (inB r 0 4 && inB n 1 50) := by
    rw [Bool.eq_iff_iff]; simp [idB, inB]; omega
  rw [e1]
  have s1 := in_any r 0 4
  have s2 := in_any n 1 50
  generalize inB r 0 4 = p at s1 ⊢
  generalize inB n 1 50 = q at s2 ⊢
  clear e1
  cases p
  · go_enter Tryd.func40, Tryd.ntmps40
    go_wp2_with (go_at_call 53; (with_reducible refine (s1 _).mono ?_); rintro e w' ⟨rfl, rfl⟩)
    go_ret
    exact ⟨rfl, (Below.refl _ _).alloc (Nat.le_refl _) _⟩
  · go_enter Tryd.func40, Tryd.ntmps40
    go_wp2_with (first | (go_at_call 53; (with_reducible refine (s1 _).mono ?_); rintro e w' ⟨rfl, rfl⟩) | (go_at_call 53; (with_reducible refine (s2 _).mono ?_); rintro e w' ⟨rfl, rfl⟩))
    go_ret
    exact ⟨by simp, (Below.refl _ _).alloc (Nat.le_refl _) _⟩

/-- What cmp.Compare answers of numbers. -/
def cmpN (a b : Int) : Int := if a < b then -1 else if b < a then 1 else 0
theorem cmpN_lt {a b : Int} (h : a < b) : cmpN a b = -1 := if_pos h
theorem cmpN_gt {a b : Int} (h : b < a) : cmpN a b = 1 := by unfold cmpN; rw [if_neg (by omega), if_pos h]
theorem cmpN_eq {a b : Int} (h : a = b) : cmpN a b = 0 := by unfold cmpN; rw [if_neg (by omega), if_neg (by omega)]
theorem nan_any (a : Int) (w : World) :
    Calls Tryd.prog 57 #[.int .i64 a] w fun e w' => e = .returned (.bool false) ∧ w = w' := by
  go_enter Tryd.func57, Tryd.ntmps57
  go_wp2_with fail
  go_ret
  exact ⟨by simp, rfl⟩
theorem cmpN_any (a b : Int) (w : World) :
    Calls Tryd.prog 56 #[.int .i64 a, .int .i64 b] w fun e w' => e = .returned (.int .i64 (cmpN a b)) ∧ w = w' := by
  rcases Int.lt_trichotomy a b with h | h | h
  · rw [cmpN_lt h]
    go_enter Tryd.func56, Tryd.ntmps56
    go_wp2_with (go_at_call 57; refine (nan_any _ _).mono ?_; rintro e w' ⟨rfl, rfl⟩)
    go_ret
    exact ⟨rfl, rfl⟩
  · subst h
    rw [cmpN_eq rfl]
    go_enter Tryd.func56, Tryd.ntmps56
    go_wp2_with (go_at_call 57; refine (nan_any _ _).mono ?_; rintro e w' ⟨rfl, rfl⟩)
    go_ret
    exact ⟨rfl, rfl⟩
  · rw [cmpN_gt h]
    have h' : ¬ a < b := by omega
    go_enter Tryd.func56, Tryd.ntmps56
    go_wp2_with (go_at_call 57; refine (nan_any _ _).mono ?_; rintro e w' ⟨rfl, rfl⟩)
    go_ret
    exact ⟨rfl, rfl⟩

/-- What cmp.Or answers of two. -/
def orN (x y : Int) : Int := if x = 0 then y else x
theorem orN_any (b : Nat) (x y : Int) (w : World) (h0 : w.cell? ⟨b, 0, none⟩ = some (.int .i64 x)) (h1 : w.cell? ⟨b, 1, none⟩ = some (.int .i64 y)) :
    Calls Tryd.prog 55 #[.slice (some ⟨b, 0, none⟩) 2 2] w fun e w' => e = .returned (.int .i64 (orN x y)) ∧ w = w' := by
  by_cases hx : x = 0
  · subst hx
    rw [show orN 0 y = y from rfl]
    by_cases hy : y = 0
    · subst hy
      go_enter Tryd.func55, Tryd.ntmps55
      go_wp2_with fail
      refine wp_loop_rounds 3 ?_
      rw [rounds_succ]
      go_wp2_with fail
      rw [rounds_succ]
      go_wp2_with fail
      rw [rounds_succ]
      go_wp2_with fail
      go_ret
      exact ⟨rfl, rfl⟩
    · have hy' : (y != 0) = true := by simpa using hy
      go_enter Tryd.func55, Tryd.ntmps55
      go_wp2_with fail
      refine wp_loop_rounds 3 ?_
      rw [rounds_succ]
      go_wp2_with fail
      rw [rounds_succ]
      go_wp2_with fail
      go_ret
      exact ⟨rfl, rfl⟩
  · rw [show orN x y = x from if_neg hx]
    have hx' : (x != 0) = true := by simpa using hx
    go_enter Tryd.func55, Tryd.ntmps55
    go_wp2_with fail
    refine wp_loop_rounds 1 ?_
    rw [rounds_succ]
    go_wp2_with fail
    go_ret
    exact ⟨rfl, rfl⟩

/-- What compare answers. -/
def cmpI (r n r' n' : Int) : Int := orN (cmpN r r') (cmpN n n')
theorem cmpN_neg {a b : Int} : cmpN a b < 0 ↔ a < b := by unfold cmpN; split <;> (try split) <;> omega
theorem cmpN_zero {a b : Int} : cmpN a b = 0 ↔ a = b := by unfold cmpN; split <;> (try split) <;> omega
theorem cmpI_neg (r n r' n' : Int) : decide (cmpI r n r' n' < 0) = ltB r n r' n' := by
  unfold cmpI orN ltB
  by_cases h : cmpN r r' = 0
  · rw [if_pos h]
    have := cmpN_zero.1 h
    rw [Bool.eq_iff_iff]; simp [cmpN_neg]; omega
  · rw [if_neg h]
    have h' : ¬ r = r' := fun e => h (cmpN_zero.2 e)
    rw [Bool.eq_iff_iff]; simp [cmpN_neg, h']
theorem cmpI_zero (r n r' n' : Int) : (cmpI r n r' n' = 0) ↔ (r = r' ∧ n = n') := by
  unfold cmpI orN
  by_cases h : cmpN r r' = 0
  · rw [if_pos h, cmpN_zero, cmpN_zero.1 h]; simp
  · rw [if_neg h]
    have h' : ¬ r = r' := fun e => h (cmpN_zero.2 e)
    simp [h, h']

theorem still_tail {P : Program} {id : Nat} {Q : Exit → Act → World → Prop} {a : Act} {w : World} {l : List Oper} (n : Nat) (hm : P.follows .mixedOrders = true) (hB : Region.lexTailB .any l.toArray n = true) (W : World) (hW : W = w.drew)
    (h : wpStill P l.toArray W (fun a' => wpList P l.toArray Q (l.drop n) a' W) (l.take n) a) : (Code.region id l.toArray true).wp P Q a w := by
  subst hW; exact wp_region_still_tail n hm hB h

set_option maxRecDepth 100000 in
set_option maxHeartbeats 1000000 in
theorem cmpI_any (r n r' n' : Int) (w : World) :
    Calls Tryd.prog 47 #[.agg #[.int .i64 r, .int .i64 n], .agg #[.int .i64 r', .int .i64 n']] w fun e w' => e = .returned (.int .i64 (cmpI r n r' n')) ∧ Below w.heap.size w w' := by
  have s1 := cmpN_any r r'
  have s2 := cmpN_any n n'
  unfold cmpI
  generalize cmpN r r' = x at s1 ⊢
  generalize cmpN n n' = y at s2 ⊢
  go_enter Tryd.func47, Tryd.ntmps47
  go_upto_region 1 with fail
  obtain ⟨W, hW⟩ : ∃ W, W = ((w.alloc (.cells #[.int .i64 r, .int .i64 n] 31)).alloc (.cells #[.int .i64 r', .int .i64 n'] 31)).drew := ⟨_, rfl⟩
  refine still_tail 10 (by kernel_rfl) (by kernel_rfl) W hW ?_
  simp only [List.take_succ_cons, List.take_zero, List.drop_succ_cons, List.drop_zero]
  have D : Hid (Below w.heap.size w W) := Lib.hid (by subst hW; exact (((Below.refl _ _).alloc (Nat.le_refl _) _).alloc (by simp) _).drew)
  have c0 : W.cell? ⟨w.heap.size, 0, none⟩ = some (.int .i64 r) := by subst hW; go_simp
  have c1 : W.cell? ⟨w.heap.size, 1, none⟩ = some (.int .i64 n) := by subst hW; go_simp
  have c2 : W.cell? ⟨w.heap.size + 1, 0, none⟩ = some (.int .i64 r') := by subst hW; go_simp
  have c3 : W.cell? ⟨w.heap.size + 1, 1, none⟩ = some (.int .i64 n') := by subst hW; go_simp
  clear hW
  iterate 4 still_step
  still_call ((s1 _).mono fun e w' h => ⟨h.1, h.2.symm⟩)
  iterate 4 still_step
  still_call ((s2 _).mono fun e w' h => ⟨h.1, h.2.symm⟩)
  refine wpStill_nil ?_
  go_wp2_with fail
  refine (orN_any _ x y _ (by go_simp) (by go_simp)).mono ?_
  rintro e w1 ⟨rfl, rfl⟩
  go_wp2_with fail
  go_ret
  exact ⟨rfl, D.out.alloc D.out.size _⟩
end Go.Proofs.YtigaepbhbfpijaaDoor

/- l3Before of the model; boxes of a call with two ids. -/
namespace Go.Proofs.YtigaepbhbfpijaaDoor
open Go.RowKit
set_option linter.unusedVariables false

/-- l3Before of the model. -/
theorem slt_any (r n r' n' : Int) (w : World) :
    Calls Tryd.prog 41 #[.agg #[.int .i64 r, .int .i64 n], .agg #[.int .i64 r', .int .i64 n']] w fun e w' => e = .returned (.bool (ltB r n r' n')) ∧ Below w.heap.size w w' := by
  rcases Int.lt_trichotomy r r' with h | rfl | h
  · have e1 : ltB r n r' n' = true := by simp [ltB]; omega
    rw [e1]; clear e1
    go_enter Tryd.func41, Tryd.ntmps41
    go_wp2_with fail
    go_ret
    exact ⟨rfl, ((Below.refl _ _).alloc (Nat.le_refl _) _).alloc (by simp) _⟩
  · have e1 : ltB r n r n' = decide (n < n') := by simp [ltB]
    rw [e1]; clear e1
    go_enter Tryd.func41, Tryd.ntmps41
    go_wp2_with fail
    go_ret
    exact ⟨by simp, ((Below.refl _ _).alloc (Nat.le_refl _) _).alloc (by simp) _⟩
  · have e1 : ltB r n r' n' = false := by simp [ltB]; omega
    rw [e1]; clear e1
    have h1 : ¬ r < r' := by omega
    have h2 : (r == r') = false := by simp; omega
    go_enter Tryd.func41, Tryd.ntmps41
    go_wp2_with fail
    go_ret
    exact ⟨rfl, ((Below.refl _ _).alloc (Nat.le_refl _) _).alloc (by simp) _⟩

/-- Two boxes of a call with two ids, behind callees that only make memory. -/
structure Two (w : World) (r n r' n' : Int) (w' : World) : Prop where
  a : w'.heap[w.heap.size]? = some (.cells #[.int .i64 r, .int .i64 n] 31 (0, 0))
  b : w'.heap[w.heap.size + 1]? = some (.cells #[.int .i64 r', .int .i64 n'] 31 (0, 0))
  z : w.heap.size + 2 ≤ w'.heap.size
  d : Below w.heap.size w w'

theorem Two.start (w : World) (r n r' n' : Int) : Two w r n r' n' ((w.alloc (.cells #[.int .i64 r, .int .i64 n] 31)).alloc (.cells #[.int .i64 r', .int .i64 n'] 31)) :=
  ⟨(Below.heap_alloc _ _ _ (by simp)).trans (heap_alloc_new w _), heap_alloc_at _ _ _ (by simp), by simp, ((Below.refl _ _).alloc (Nat.le_refl _) _).alloc (by simp) _⟩
theorem Two.up {w w1 w2 : World} {r n r' n' : Int} (h : Two w r n r' n' w1) (hb : Below w1.heap.size w1 w2) : Two w r n r' n' w2 :=
  ⟨(hb.block _ (by have := h.z; omega)).trans h.a, (hb.block _ (by have := h.z; omega)).trans h.b, Nat.le_trans h.z hb.size, h.d.trans (hb.mono (by have := h.z; omega))⟩
end Go.Proofs.YtigaepbhbfpijaaDoor

/- The program's add: an id is put into a set in memory. -/
namespace Go.Proofs.YtigaepbhbfpijaaDoor
open Go.RowKit
set_option linter.unusedVariables false

theorem one_shl (n : Nat) (h : n < 64) : IntKind.u64.wrap ((1 : Int) * 2 ^ n) = ((2 ^ n : Nat) : Int) := by
  have h2 : 2 ^ n < 2 ^ 64 := Nat.pow_lt_pow_right (by decide) h
  have e : ((1 : Int) * 2 ^ n) = ((2 ^ n : Nat) : Int) := by rw [Int.one_mul]; exact (Int.natCast_pow 2 n).symm
  rw [IntKind.wrap_u64, e]
  generalize 2 ^ n = m at h2 ⊢
  omega

set_option maxRecDepth 100000 in
set_option maxHeartbeats 1000000 in
/-- A bit is set in the cell of the replica. -/
theorem add_at (b o pr nr m : Nat) (w : World) (hp : pr < 5) (hq : nr ≤ 50) (hb : b < w.heap.size) (c0 : w.cell? ⟨b, o + pr, none⟩ = some (.int .u64 m)) (f0 : w.frozen? ⟨b, o + pr, none⟩ = false) (hm : m < 2251799813685248) :
    Calls Tryd.prog 48 #[.pointer (some ⟨b, o, none⟩), .agg #[.int .i64 pr, .int .i64 nr]] w fun e w' =>
      e = .returned (.tuple #[]) ∧ ∃ w1, Below w.heap.size w w1 ∧ w' = w1.setCell ⟨b, o + pr, none⟩ (.int .u64 ((m ||| 2 ^ nr : Nat) : Int)) := by
  have ep : ((2 ^ nr : Nat) : Int) = (2 : Int) ^ nr := Int.natCast_pow 2 nr
  have sh : IntKind.u64.wrap ((2 : Int) ^ nr) = (2 : Int) ^ nr := by have := one_shl nr (by omega); rw [Int.one_mul, ep] at this; exact this
  have hp2 : 2 ^ nr < 2 ^ 64 := Nat.pow_lt_pow_right (by decide) (by omega)
  have ob : bits .or .u64 (m : Int) ((2 : Int) ^ nr) = ((m ||| 2 ^ nr : Nat) : Int) := by rw [← ep]; exact bits_or_u64_nat m (2 ^ nr) (by omega) hp2
  have D := Lib.hid ((Below.refl w.heap.size w).alloc (Nat.le_refl _) (.cells #[.int .i64 pr, .int .i64 nr] 31))
  have q0 := (D.out.cell (p := ⟨b, o + pr, none⟩) hb).trans c0
  have q1 := (D.out.frozen (p := ⟨b, o + pr, none⟩) hb).trans f0
  generalize m ||| 2 ^ nr = y at ob ⊢
  clear hp2 ep c0 f0 hm
  go_enter Tryd.func48, Tryd.ntmps48
  go_wp2_with fail
  go_region
  go_wp2_with fail
  all_goals
    go_end0
    refine ⟨rfl, _, D.out.drew, ?_⟩
    rw [World.setCell_drew, World.setCell_alloc_past _ _ _ _ hb]
end Go.Proofs.YtigaepbhbfpijaaDoor

/- math/bits.TrailingZeros64. -/
namespace Go.Proofs.YtigaepbhbfpijaaDoor
open Go.RowKit
set_option linter.unusedVariables false

theorem tz_core (x k idx : Nat) (w : World) (hx0 : ((x : Int) == 0) = false)
    (key : IntKind.u64.wrap (bits BinOp.and IntKind.u64 (x : Int) (IntKind.u64.wrap (-(x : Int))) * 285870213051353865) / 288230376151711744 = (idx : Int))
    (hi : idx < 64) (hk : k < 64) (hcell : w.cell? ⟨0, idx, none⟩ = some (.int .u8 k)) :
    Calls Tryd.prog 50 #[.int .u64 x] w fun e w' => e = .returned (.int .i64 k) ∧ w = w' := by
  go_enter Tryd.func50, Tryd.ntmps50
  go_wp2_with (simp only [key])
  go_ret
  exact ⟨rfl, rfl⟩

/-- The library's table lies in its variable. -/
def TabIn (w : World) : Prop := TabAt 0 Lib.deBruijn64tab w

theorem tz_any (x : Nat) (w : World) (hx : x < 18446744073709551616) (h0 : x ≠ 0) (hT : TabIn w) :
    Calls Tryd.prog 50 #[.int .u64 x] w fun e w' => e = .returned (.int .i64 (Lib.ctz 64 x)) ∧ w = w' := by
  obtain ⟨hlow, hk⟩ := Lib.lowest_bit 64 x h0 hx
  obtain ⟨hi, htab⟩ := Lib.deBruijn64_at _ hk
  have hcell := hT _ hi
  rw [htab] at hcell
  exact tz_core x _ _ w (by simp; omega) (tz64_key x _ hx h0 hlow) hi hk hcell
end Go.Proofs.YtigaepbhbfpijaaDoor

/- The model's l3Has. -/
namespace Go.Proofs.YtigaepbhbfpijaaDoor
open Go.RowKit
set_option linter.unusedVariables false

theorem has_t {L : List Pid} {k : Nat} {a : Pid} (hk : k < L.length) (h : L.getD k nop = a) : hasP L a = true := by
  unfold hasP
  rw [decide_eq_true_iff, ← h, List.getD_eq_getElem?_getD, List.getElem?_eq_getElem hk]
  exact List.getElem_mem _
theorem has_f {L : List Pid} {a : Pid} (h : ∀ j, j < L.length → ¬ L.getD j nop = a) : hasP L a = false := by
  unfold hasP
  rw [decide_eq_false_iff_not]
  intro hm
  obtain ⟨i, hi, e⟩ := List.getElem_of_mem hm
  refine h i hi ?_
  rw [List.getD_eq_getElem?_getD, List.getElem?_eq_getElem hi]
  exact e
theorem pid_eq {c : Pid} {x y : Int} : c = (x, y) ↔ c.1 = x ∧ c.2 = y := by
  obtain ⟨p, q⟩ := c
  simp

set_option maxRecDepth 100000 in
set_option maxHeartbeats 2000000 in
theorem shas_at (b off ca : Nat) (L : List Pid) (x y : Int) (w : World) (hb : b < w.heap.size) (hm : L.length ≤ 2000000) (h : ∀ i, i < L.length → w.cell? ⟨b, off + i * 2, none⟩ = some (.int .i64 (L.getD i nop).1) ∧ w.cell? ⟨b, off + i * 2 + 1, none⟩ = some (.int .i64 (L.getD i nop).2)) :
    Calls Tryd.prog 38 #[.slice (some ⟨b, off, none⟩) L.length ca, .agg #[.int .i64 x, .int .i64 y]] w fun e w' => e = .returned (.bool (hasP L (x, y))) ∧ Below w.heap.size w w' := by
  have h := Lib.hid h
  obtain ⟨n, hn⟩ : ∃ n, Hid (L.length = n) := ⟨_, Lib.hid rfl⟩
  obtain ⟨q, hq⟩ : ∃ q, Hid (hasP L (x, y) = q) := ⟨_, Lib.hid rfl⟩
  rw [hn.out] at hm ⊢
  rw [hq.out]
  go_enter Tryd.func38, Tryd.ntmps38
  go_wp2_with fail
  go_loopw [5] (fun i wr => ∃ k : Nat, k ≤ n ∧ i = .int .i64 k ∧ Hid (∀ j, j < k → ¬ L.getD j nop = (x, y)) ∧ wr.cell? ⟨w.heap.size, 0, none⟩ = some (.int .i64 x) ∧ wr.cell? ⟨w.heap.size, 1, none⟩ = some (.int .i64 y) ∧ Below w.heap.size w wr) (fun i _ => n - (intOf i).toNat)
  case atStart => exact ⟨0, Nat.zero_le _, rfl, Lib.hid (fun j hj => absurd hj (Nat.not_lt_zero _)), by go_simp, by go_simp, (Below.refl _ _).alloc (Nat.le_refl _) _⟩
  case round =>
    obtain ⟨k, hk, rfl, hno, x0, x1, hnx⟩ := hrel
    by_cases hlt : k < n
    · obtain ⟨h0, h1⟩ := h.out k (by rw [hn.out]; exact hlt)
      have q0 := (hnx.cell (p := ⟨b, off + k * 2, none⟩) hb).trans h0
      have q1 := (hnx.cell (p := ⟨b, off + k * 2 + 1, none⟩) hb).trans h1
      clear h0 h1
      obtain ⟨c, hc⟩ : ∃ c, Hid (L.getD k nop = c) := ⟨_, Lib.hid rfl⟩
      rw [hc.out] at q0 q1
      obtain ⟨p, r⟩ := c
      dsimp only at q0 q1
      have hnx := Lib.hid hnx
      clear h
      by_cases e1 : p = x
      · subst e1
        by_cases e2 : r = y
        · subst e2
          have hqt := hq.out
          rw [has_t (by rw [hn.out]; exact hlt) hc.out] at hqt
          subst hqt
          go_wp2_with fail
          go_quiet (fail)
          go_wp2_with fail
          go_ret
          exact ⟨rfl, bdrewN hnx.out _⟩
        · have R := Lib.hid (up_to hno.out (show ¬ L.getD k nop = (p, y) by rw [hc.out]; intro e; exact e2 (congrArg Prod.snd e)))
          go_wp2_with fail
          go_quiet (fail)
          go_wp2_with fail
          go_roundw
          case rel => exact ⟨k + 1, by omega, by go_num, R, by go_simp, by go_simp, bdrewN hnx.out _⟩
          case measure => simp [intOf]; omega
      · have R := Lib.hid (up_to hno.out (show ¬ L.getD k nop = (x, y) by rw [hc.out]; intro e; exact e1 (congrArg Prod.fst e)))
        go_wp2_with fail
        go_quiet (fail)
        go_wp2_with fail
        go_roundw
        case rel => exact ⟨k + 1, by omega, by go_num, R, by go_simp, by go_simp, bdrewN hnx.out _⟩
        case measure => simp [intOf]; omega
    · obtain rfl : k = n := by omega
      have hqf := hq.out
      rw [has_f (fun j hj => hno.out j (by rw [← hn.out]; exact hj))] at hqf
      subst hqf
      have hnx := Lib.hid hnx
      clear h
      go_wp2_with fail
      go_ret
      exact ⟨rfl, hnx.out⟩

theorem shas_nil (a : Option Addr) (ca : Nat) (x y : Int) (w : World) :
    Calls Tryd.prog 38 #[.slice a 0 ca, .agg #[.int .i64 x, .int .i64 y]] w fun e w' => e = .returned (.bool (hasP [] (x, y))) ∧ Below w.heap.size w w' := by
  rw [show hasP [] (x, y) = false from rfl]
  go_enter Tryd.func38, Tryd.ntmps38
  go_wp2_with fail
  refine wp_loop_rounds 1 ?_
  rw [rounds_succ]
  go_wp2_with fail
  go_ret
  exact ⟨rfl, (Below.refl _ _).alloc (Nat.le_refl _) _⟩

theorem shas_any (u : Value) (L : List Pid) (x y : Int) (w : World) (h : Ids w u L) :
    Calls Tryd.prog 38 #[u, .agg #[.int .i64 x, .int .i64 y]] w fun e w' => e = .returned (.bool (hasP L (x, y))) ∧ Below w.heap.size w w' := by
  obtain ⟨a, cap, rfl, h1, h2, h3⟩ := h
  rcases h3 with h3 | ⟨b, off, rfl, h4, h5⟩
  · obtain rfl : L = [] := List.length_eq_zero_iff.1 h3
    exact shas_nil a cap x y w
  · exact shas_at b off cap L x y w h4 h2 h5
end Go.Proofs.YtigaepbhbfpijaaDoor

/- The laws' sameIds, of equal lists. -/
namespace Go.Proofs.YtigaepbhbfpijaaDoor
open Go.RowKit
set_option linter.unusedVariables false

set_option maxRecDepth 100000 in
set_option maxHeartbeats 2000000 in
theorem same_at (a b oa ob ca cb : Nat) (C : List Pid) (w : World) (hm : C.length ≤ 2000000) (ha : a < w.heap.size) (hb : b < w.heap.size)
    (hA : ∀ i, i < C.length → w.cell? ⟨a, oa + i * 2, none⟩ = some (.int .i64 (C.getD i nop).1) ∧ w.cell? ⟨a, oa + i * 2 + 1, none⟩ = some (.int .i64 (C.getD i nop).2))
    (hB : ∀ i, i < C.length → w.cell? ⟨b, ob + i * 2, none⟩ = some (.int .i64 (C.getD i nop).1) ∧ w.cell? ⟨b, ob + i * 2 + 1, none⟩ = some (.int .i64 (C.getD i nop).2)) :
    Calls Tryd.prog 14 #[.slice (some ⟨a, oa, none⟩) C.length ca, .slice (some ⟨b, ob, none⟩) C.length cb] w fun e w' => e = .returned (.bool true) ∧ Below w.heap.size w w' := by
  have hA := Lib.hid hA
  have hB := Lib.hid hB
  obtain ⟨n, hn⟩ : ∃ n, Hid (C.length = n) := ⟨_, Lib.hid rfl⟩
  rw [hn.out] at hm ⊢
  go_enter Tryd.func14, Tryd.ntmps14
  go_wp2_with fail
  go_loopw [5] (fun i wr => ∃ k : Nat, k ≤ n ∧ i = .int .i64 k ∧ Below w.heap.size w wr) (fun i _ => n - (intOf i).toNat)
  case atStart => exact ⟨0, Nat.zero_le _, rfl, Below.refl _ _⟩
  case round =>
    obtain ⟨k, hk, rfl, hnx⟩ := hrel
    by_cases hlt : k < n
    · obtain ⟨h0, h1⟩ := hA.out k (by rw [hn.out]; exact hlt)
      have q0 := (hnx.cell (p := ⟨a, oa + k * 2, none⟩) ha).trans h0
      have q1 := (hnx.cell (p := ⟨a, oa + k * 2 + 1, none⟩) ha).trans h1
      clear h0 h1
      obtain ⟨h0, h1⟩ := hB.out k (by rw [hn.out]; exact hlt)
      have r0 := (hnx.cell (p := ⟨b, ob + k * 2, none⟩) hb).trans h0
      have r1 := (hnx.cell (p := ⟨b, ob + k * 2 + 1, none⟩) hb).trans h1
      clear h0 h1 hA hB
      generalize C.getD k nop = c at q0 q1 r0 r1
      obtain ⟨x, y⟩ := c
      dsimp only at q0 q1 r0 r1
      have hnx := Lib.hid hnx
      go_wp2_with fail
      go_quiet (fail)
      go_wp2_with fail
      go_roundw
      case rel => exact ⟨k + 1, by omega, by go_num, bdrewN hnx.out _⟩
      case measure => simp [intOf]; omega
    · obtain rfl : k = n := by omega
      have hnx := Lib.hid hnx
      clear hA hB
      go_wp2_with fail
      go_ret
      exact ⟨rfl, hnx.out⟩

theorem same_nil (a b : Option Addr) (ca cb : Nat) (w : World) :
    Calls Tryd.prog 14 #[.slice a 0 ca, .slice b 0 cb] w fun e w' => e = .returned (.bool true) ∧ Below w.heap.size w w' := by
  go_enter Tryd.func14, Tryd.ntmps14
  go_wp2_with fail
  refine wp_loop_rounds 1 ?_
  rw [rounds_succ]
  go_wp2_with fail
  go_ret
  exact ⟨rfl, Below.refl _ _⟩

theorem same_any (u x : Value) (C : List Pid) (w : World) (h : Ids w u C) (g : Ids w x C) :
    Calls Tryd.prog 14 #[u, x] w fun e w' => e = .returned (.bool true) ∧ Below w.heap.size w w' := by
  obtain ⟨a, cap, rfl, h1, h2, h3⟩ := h
  obtain ⟨b, cap', rfl, g1, g2, g3⟩ := g
  rcases h3 with h3 | ⟨a, off, rfl, h4, h5⟩
  · obtain rfl : C = [] := List.length_eq_zero_iff.1 h3
    exact same_nil a b cap cap' w
  · rcases g3 with g3 | ⟨b, off', rfl, g4, g5⟩
    · obtain rfl : C = [] := List.length_eq_zero_iff.1 g3
      exact same_nil _ b cap cap' w
    · exact same_at a b off off' cap cap' C w h2 h4 g4 h5 g5
end Go.Proofs.YtigaepbhbfpijaaDoor

/- The laws' sizes of slices of ids. -/
namespace Go.Proofs.YtigaepbhbfpijaaDoor
open Go.RowKit
set_option linter.unusedVariables false

theorem szP_any (a : Option Addr) (n cap : Nat) (k : Int) (w : World) (hk : k = 1048576) (h : n ≤ 9223372036854775807) :
    Calls Tryd.prog 24 #[.slice a n cap, .int .i64 k] w fun e w' => e = .returned (.int .i64 (if 1048576 < n then -1 else 1048576 - n)) ∧ Below w.heap.size w w' := by
  subst hk
  by_cases hl : 1048576 < n
  · rw [if_pos hl]
    go_enter Tryd.func24, Tryd.ntmps24
    go_wp2_with fail
    go_ret
    exact ⟨rfl, Below.refl _ _⟩
  · rw [if_neg hl]
    go_enter Tryd.func24, Tryd.ntmps24
    go_wp2_with fail
    go_ret
    exact ⟨rfl, Below.refl _ _⟩

/-- .. with whatever is left. -/
theorem szP_gen (a : Option Addr) (n cap : Nat) (k : Int) (w : World) (hk : 0 ≤ k) (hk2 : k ≤ 1048576) (h : n ≤ 9223372036854775807) :
    Calls Tryd.prog 24 #[.slice a n cap, .int .i64 k] w fun e w' => e = .returned (.int .i64 (if k < n then -1 else k - n)) ∧ Below w.heap.size w w' := by
  by_cases hl : k < n
  · rw [if_pos hl]
    go_enter Tryd.func24, Tryd.ntmps24
    go_wp2_with fail
    go_ret
    exact ⟨rfl, Below.refl _ _⟩
  · rw [if_neg hl]
    go_enter Tryd.func24, Tryd.ntmps24
    go_wp2_with fail
    go_ret
    exact ⟨rfl, Below.refl _ _⟩
end Go.Proofs.YtigaepbhbfpijaaDoor
