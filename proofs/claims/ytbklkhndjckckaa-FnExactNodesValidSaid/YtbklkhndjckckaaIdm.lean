/- Plain facts on lists of ids: sorted, put into, searched. -/
import Derived.Lib.Hide
namespace Go.Proofs.Ytbklkhndjckckaa
set_option linter.unusedVariables false

/-- An id. -/
abbrev Pid : Type := Int × Int
def nop : Pid := (0, 0)
/-- What a valid id is. -/
def idB (r n : Int) : Bool := decide (0 ≤ r ∧ r ≤ 4 ∧ 1 ≤ n ∧ n ≤ 50)
/-- Which id is ahead. -/
def ltB (r n r' n' : Int) : Bool := decide (r < r' ∨ r = r' ∧ n < n')
def okP (a : Pid) : Bool := idB a.1 a.2
def ltP (a b : Pid) : Bool := ltB a.1 a.2 b.1 b.2
theorem ltP_iff {a b : Pid} : ltP a b = true ↔ (a.1 < b.1 ∨ a.1 = b.1 ∧ a.2 < b.2) := by simp [ltP, ltB]
theorem ltP_not {a b : Pid} : ltP a b = false ↔ ¬ (a.1 < b.1 ∨ a.1 = b.1 ∧ a.2 < b.2) := by rw [← ltP_iff]; simp
theorem ltP_tri {a b : Pid} (h1 : ltP a b = false) (h2 : ltP b a = false) : a = b := by
  rw [ltP_not] at h1 h2
  obtain ⟨x, y⟩ := a; obtain ⟨z, t⟩ := b
  simp at h1 h2 ⊢; omega
theorem ltP_irr (a : Pid) : ltP a a = false := by rw [ltP_not]; omega
theorem ltP_trans {a b c : Pid} (h1 : ltP a b = true) (h2 : ltP b c = true) : ltP a c = true := by
  rw [ltP_iff] at *; omega
theorem ltP_asym {a b : Pid} (h1 : ltP a b = true) : ltP b a = false := by
  rw [ltP_iff] at h1; rw [ltP_not]; omega

/-- An id is put ahead of the first one that it is ahead of. -/
def insB (a : Pid) : List Pid → List Pid
  | [] => [a]
  | b :: r => if ltP a b then a :: b :: r else b :: insB a r
def putF (d : Bool) (a : Pid) (L : List Pid) : List Pid := if d then L else insB a L
def hasP (L : List Pid) (a : Pid) : Bool := decide (a ∈ L)
def putP (L : List Pid) (a : Pid) : List Pid := putF (hasP L a) a L
def sortP (L : List Pid) : List Pid := L.foldl putP []
def Asc (L : List Pid) : Prop := L.Pairwise fun a b => ltP a b = true

theorem putF_t (a : Pid) (L : List Pid) : putF true a L = L := rfl
theorem putF_hit {a x : Pid} {r : List Pid} (h : ltP a x = true) : putF false a (x :: r) = a :: x :: putF true a r := by
  unfold putF insB; simp [h]
theorem putF_miss {a x : Pid} {r : List Pid} (h : ltP a x = false) : putF false a (x :: r) = x :: putF false a r := by
  unfold putF; simp [insB, h]
theorem putF_end (a : Pid) : putF false a [] = [a] := rfl

theorem mem_insB (a x : Pid) : ∀ L : List Pid, x ∈ insB a L ↔ x = a ∨ x ∈ L
  | [] => by simp [insB]
  | b :: r => by
    unfold insB; split
    · simp
    · rw [List.mem_cons, mem_insB a x r, List.mem_cons]
      constructor
      · rintro (h | h | h)
        · exact .inr (.inl h)
        · exact .inl h
        · exact .inr (.inr h)
      · rintro (h | h | h)
        · exact .inr (.inl h)
        · exact .inl h
        · exact .inr (.inr h)
theorem mem_putP (L : List Pid) (a x : Pid) : x ∈ putP L a ↔ x = a ∨ x ∈ L := by
  unfold putP putF hasP
  by_cases h : a ∈ L
  · simp [h]; intro e; subst e; exact h
  · simp [h, mem_insB]
theorem len_insB (a : Pid) : ∀ L : List Pid, (insB a L).length = L.length + 1
  | [] => rfl
  | b :: r => by
    unfold insB; split
    · rfl
    · rw [List.length_cons, len_insB a r, List.length_cons]
theorem len_putP (L : List Pid) (a : Pid) : L.length ≤ (putP L a).length ∧ (putP L a).length ≤ L.length + 1 := by
  unfold putP putF; split
  · omega
  · rw [len_insB]; omega
theorem len_putP_in {L : List Pid} {a : Pid} (h : a ∈ L) : putP L a = L := by unfold putP putF hasP; simp [h]
theorem putP_out {L : List Pid} {a : Pid} (h : ¬ a ∈ L) : putP L a = insB a L := by unfold putP putF hasP; simp [h]

theorem asc_insB {a : Pid} : ∀ {L : List Pid}, Asc L → ¬ a ∈ L → Asc (insB a L)
  | [], _, _ => by simp [insB, Asc]
  | b :: r, h, hn => by
    have h' := List.pairwise_cons.1 h
    unfold insB; split
    · rename_i hl
      refine List.pairwise_cons.2 ⟨fun x hx => ?_, h⟩
      rcases List.mem_cons.1 hx with rfl | hx
      · exact hl
      · exact ltP_trans hl (h'.1 x hx)
    · rename_i hl
      have hl' : ltP a b = false := by simpa using hl
      refine List.pairwise_cons.2 ⟨fun x hx => ?_, asc_insB h'.2 (fun e => hn (List.mem_cons_of_mem _ e))⟩
      rcases (mem_insB a x r).1 hx with rfl | hx
      · cases hh : ltP b x with
        | true => rfl
        | false => exact absurd (ltP_tri hl' hh) (fun e => hn (by rw [e]; exact List.mem_cons_self))
      · exact h'.1 x hx
theorem asc_putP {L : List Pid} {a : Pid} (h : Asc L) : Asc (putP L a) := by
  by_cases hm : a ∈ L
  · rw [len_putP_in hm]; exact h
  · rw [putP_out hm]; exact asc_insB h hm

theorem foldl_mem : ∀ (L : List Pid) (A : List Pid) (x : Pid), x ∈ L.foldl putP A ↔ x ∈ A ∨ x ∈ L
  | [], A, x => by simp
  | a :: r, A, x => by
    rw [List.foldl_cons, foldl_mem r, mem_putP, List.mem_cons]
    constructor
    · rintro ((h | h) | h)
      · exact .inr (.inl h)
      · exact .inl h
      · exact .inr (.inr h)
    · rintro (h | h | h)
      · exact .inl (.inr h)
      · exact .inl (.inl h)
      · exact .inr h
theorem foldl_asc : ∀ (L : List Pid) {A : List Pid}, Asc A → Asc (L.foldl putP A)
  | [], _, h => h
  | a :: r, _, h => foldl_asc r (asc_putP h)
theorem foldl_len : ∀ (L : List Pid) (A : List Pid), A.length ≤ (L.foldl putP A).length ∧ (L.foldl putP A).length ≤ A.length + L.length
  | [], A => by simp
  | a :: r, A => by
    have h := foldl_len r (putP A a)
    have g := len_putP A a
    rw [List.foldl_cons, List.length_cons]; omega
theorem asc_nil : Asc [] := List.Pairwise.nil
theorem sortP_asc (L : List Pid) : Asc (sortP L) := foldl_asc L asc_nil
theorem sortP_mem (L : List Pid) (x : Pid) : x ∈ sortP L ↔ x ∈ L := by
  unfold sortP; rw [foldl_mem]; simp
theorem sortP_len (L : List Pid) : (sortP L).length ≤ L.length := by
  have := (foldl_len L []).2; unfold sortP; simpa using this

/-- Ascending lists of the same ids are equal. -/
theorem asc_ext : ∀ {A B : List Pid}, Asc A → Asc B → (∀ x, x ∈ A ↔ x ∈ B) → A = B
  | [], [], _, _, _ => rfl
  | [], b :: s, _, _, h => absurd ((h b).2 List.mem_cons_self) (by simp)
  | a :: r, [], _, _, h => absurd ((h a).1 List.mem_cons_self) (by simp)
  | a :: r, b :: s, hA, hB, h => by
    have hA' := List.pairwise_cons.1 hA
    have hB' := List.pairwise_cons.1 hB
    have e : a = b := by
      rcases List.mem_cons.1 ((h a).1 List.mem_cons_self) with e | ha
      · exact e
      · rcases List.mem_cons.1 ((h b).2 List.mem_cons_self) with e | hb
        · exact e.symm
        · have h1 := hB'.1 a ha
          have h2 := hA'.1 b hb
          rw [ltP_asym h1] at h2; cases h2
    subst e
    have nr : ¬ a ∈ r := fun hx => by have := hA'.1 a hx; rw [ltP_irr] at this; cases this
    have ns : ¬ a ∈ s := fun hx => by have := hB'.1 a hx; rw [ltP_irr] at this; cases this
    rw [asc_ext hA'.2 hB'.2 (fun x => ?_)]
    constructor
    · intro hx
      rcases List.mem_cons.1 ((h x).1 (List.mem_cons_of_mem _ hx)) with e | hx'
      · subst e; exact absurd hx nr
      · exact hx'
    · intro hx
      rcases List.mem_cons.1 ((h x).2 (List.mem_cons_of_mem _ hx)) with e | hx'
      · subst e; exact absurd hx ns
      · exact hx'

theorem sortP_self {L : List Pid} (h : Asc L) : sortP L = L := asc_ext (sortP_asc L) h (sortP_mem L)
theorem sortP_rev (L : List Pid) : sortP L.reverse = sortP L :=
  asc_ext (sortP_asc _) (sortP_asc _) (fun x => by rw [sortP_mem, sortP_mem, List.mem_reverse])

/-- What IdsSort answers. -/
def sortR (L : List Pid) : List Pid × Bool := if L.all okP = true ∧ (sortP L).length ≤ 12 then (sortP L, true) else ([], false)
theorem sortR_t {L : List Pid} (h1 : L.all okP = true) (h2 : (sortP L).length ≤ 12) : sortR L = (sortP L, true) := if_pos ⟨h1, h2⟩
theorem sortR_bad {L : List Pid} {k : Nat} (hk : k < L.length) (h : okP (L.getD k nop) = false) : sortR L = ([], false) := by
  refine if_neg fun hh => ?_
  have := List.all_eq_true.1 hh.1 L[k] (List.getElem_mem _)
  rw [List.getD_eq_getElem?_getD, List.getElem?_eq_getElem hk] at h
  simp only [Option.getD_some] at h
  rw [h] at this; cases this
theorem sortR_long {L : List Pid} (h : ¬ (sortP L).length ≤ 12) : sortR L = ([], false) := if_neg fun hh => h hh.2
theorem take_next {L : List Pid} {k : Nat} (hk : k < L.length) : L.take (k + 1) = L.take k ++ [L.getD k nop] := by
  rw [List.take_succ_eq_append_getElem hk, List.getD_eq_getElem?_getD, List.getElem?_eq_getElem hk]; rfl
theorem drop_next {L : List Pid} {k : Nat} (hk : k < L.length) : L.drop k = L.getD k nop :: L.drop (k + 1) := by
  rw [List.drop_eq_getElem_cons hk, List.getD_eq_getElem?_getD, List.getElem?_eq_getElem hk]; rfl
theorem sortP_next {L : List Pid} {k : Nat} (hk : k < L.length) : sortP (L.take (k + 1)) = putP (sortP (L.take k)) (L.getD k nop) := by
  rw [take_next hk]; unfold sortP; rw [List.foldl_append]; rfl
/-- Too many already. -/
theorem sortR_full {L : List Pid} {k : Nat} (hk : k < L.length) (h : (sortP (L.take k)).length = 12) (hn : ¬ L.getD k nop ∈ sortP (L.take k)) : sortR L = ([], false) := by
  refine sortR_long fun hle => ?_
  have e : sortP L = (L.drop (k + 1)).foldl putP (sortP (L.take (k + 1))) := by
    unfold sortP; rw [← List.foldl_append, List.take_append_drop]
  have h1 := (foldl_len (L.drop (k + 1)) (sortP (L.take (k + 1)))).1
  rw [← e, sortP_next hk, putP_out hn, len_insB, h] at h1
  omega
theorem sortR_len (L : List Pid) : (sortR L).1.length ≤ 12 := by
  unfold sortR; split
  · rename_i h; exact h.2
  · simp
theorem sortR_asc (L : List Pid) : Asc (sortR L).1 := by
  unfold sortR; split
  · exact sortP_asc L
  · exact asc_nil

/-- The place of an id in an ascending list. -/
def posP (L : List Pid) (a : Pid) : Nat := L.countP fun x => ltP x a
theorem posP_le (L : List Pid) (a : Pid) : posP L a ≤ L.length := List.countP_le_length
theorem posP_cons_t {b a : Pid} {r : List Pid} (h : ltP b a = true) : posP (b :: r) a = posP r a + 1 := by
  unfold posP; exact List.countP_cons_of_pos (p := fun x => ltP x a) h
theorem posP_cons_f {b a : Pid} {r : List Pid} (hA : Asc (b :: r)) (h : ltP b a = false) : posP (b :: r) a = 0 := by
  unfold posP
  rw [List.countP_eq_zero]
  intro x hx
  have hA' := List.pairwise_cons.1 hA
  rcases List.mem_cons.1 hx with rfl | hx
  · rw [h]; simp
  · intro hl
    rw [ltP_trans (hA'.1 x hx) hl] at h; cases h
theorem posP_ins : ∀ {L : List Pid} {a : Pid}, Asc L → ¬ a ∈ L → insB a L = L.take (posP L a) ++ a :: L.drop (posP L a)
  | [], a, _, _ => rfl
  | b :: r, a, hA, hn => by
    have hA' := List.pairwise_cons.1 hA
    by_cases h : ltP b a = true
    · rw [posP_cons_t h]
      unfold insB
      rw [if_neg (by rw [ltP_asym h]; simp), posP_ins hA'.2 (fun e => hn (List.mem_cons_of_mem _ e))]
      rfl
    · have h' : ltP b a = false := by simpa using h
      rw [posP_cons_f hA h']
      unfold insB
      have hl : ltP a b = true := by
        cases hh : ltP a b with
        | true => rfl
        | false => exact absurd (ltP_tri hh h') (fun e => hn (by rw [e]; exact List.mem_cons_self))
      rw [if_pos hl]; rfl
/-- It is there just where it is found. -/
theorem posP_mem : ∀ {L : List Pid} {a : Pid}, Asc L → (a ∈ L ↔ posP L a < L.length ∧ L.getD (posP L a) nop = a)
  | [], a, _ => by simp [posP]
  | b :: r, a, hA => by
    have hA' := List.pairwise_cons.1 hA
    by_cases h : ltP b a = true
    · rw [posP_cons_t h, List.mem_cons, posP_mem hA'.2]
      have hne : a ≠ b := fun e => by rw [e, ltP_irr] at h; cases h
      simp [hne]
    · have h' : ltP b a = false := by simpa using h
      rw [posP_cons_f hA h', List.mem_cons]
      constructor
      · rintro (e | hm)
        · exact ⟨by simp, by simp [e]⟩
        · rw [hA'.1 a hm] at h'; cases h'
      · rintro ⟨_, e⟩
        exact .inl (by simpa using e.symm)
/-- Ahead of the place all are ahead, behind it none is. -/
theorem asc_lt {L : List Pid} (hA : Asc L) {i j : Nat} (hij : i < j) (hj : j < L.length) : ltP (L.getD i nop) (L.getD j nop) = true := by
  have := List.pairwise_iff_getElem.1 hA i j (by omega) hj hij
  rw [List.getD_eq_getElem?_getD, List.getD_eq_getElem?_getD, List.getElem?_eq_getElem (by omega), List.getElem?_eq_getElem hj]
  exact this
theorem posP_of {L : List Pid} {a : Pid} {i : Nat} (hi : i ≤ L.length) (h1 : ∀ t, t < i → ltP (L.getD t nop) a = true) (h2 : ∀ t, i ≤ t → t < L.length → ltP (L.getD t nop) a = false) : posP L a = i := by
  induction L generalizing i with
  | nil => simp at hi; subst hi; rfl
  | cons b r ih =>
    cases i with
    | zero =>
      unfold posP
      rw [List.countP_eq_zero]
      intro x hx
      obtain ⟨t, ht, e⟩ := List.getElem_of_mem hx
      have := h2 t (Nat.zero_le _) ht
      rw [List.getD_eq_getElem?_getD, List.getElem?_eq_getElem ht, Option.getD_some, e] at this
      rw [this]; simp
    | succ i =>
      have h0 : ltP b a = true := h1 0 (Nat.succ_pos _)
      rw [posP_cons_t h0, ih (i := i) (by simpa using hi) (fun t ht => h1 (t + 1) (by omega)) (fun t h3 h4 => h2 (t + 1) (by omega) (by simpa using h4))]
end Go.Proofs.Ytbklkhndjckckaa
