/- Plain facts on sorted ids and their sets of bits. -/
import Derived.Test.YtbklkhndjckckaaBitm
namespace Go.Proofs.Ytbklkhndjckckaa
set_option linter.unusedVariables false

/-- Each id is ahead of the next one. -/
def ascB : List Pid → Bool
  | [] => true
  | [_] => true
  | a :: b :: r => ltP a b && ascB (b :: r)
theorem ascB_asc : ∀ {L : List Pid}, ascB L = true → Asc L
  | [], _ => asc_nil
  | [a], _ => List.pairwise_singleton _ _
  | a :: b :: r, h => by
    simp only [ascB, Bool.and_eq_true] at h
    have ih := ascB_asc (L := b :: r) h.2
    refine List.pairwise_cons.2 ⟨fun x hx => ?_, ih⟩
    rcases List.mem_cons.1 hx with rfl | hx
    · exact h.1
    · exact ltP_trans h.1 ((List.pairwise_cons.1 ih).1 x hx)
theorem asc_ascB : ∀ {L : List Pid}, Asc L → ascB L = true
  | [], _ => rfl
  | [a], _ => rfl
  | a :: b :: r, h => by
    have h' := List.pairwise_cons.1 h
    simp only [ascB, Bool.and_eq_true]
    exact ⟨h'.1 b List.mem_cons_self, asc_ascB h'.2⟩
theorem asc_adj : ∀ {L : List Pid}, (∀ i, i + 1 < L.length → ltP (L.getD i nop) (L.getD (i + 1) nop) = true) → Asc L
  | [], _ => asc_nil
  | [a], _ => List.pairwise_singleton _ _
  | a :: b :: r, h => by
    apply ascB_asc
    simp only [ascB, Bool.and_eq_true]
    exact ⟨h 0 (by simp), asc_ascB (asc_adj fun i hi => h (i + 1) (by simpa using hi))⟩

/-- What sorted ids are. -/
def srtB (L : List Pid) : Bool := decide (L.length ≤ 12) && (L.all okP && ascB L)
theorem srt_of {L : List Pid} (h : srtB L = true) : L.length ≤ 12 ∧ L.all okP = true ∧ Asc L := by
  simp only [srtB, Bool.and_eq_true, decide_eq_true_eq] at h
  exact ⟨h.1, h.2.1, ascB_asc h.2.2⟩
theorem srt_to {L : List Pid} (h1 : L.length ≤ 12) (h2 : L.all okP = true) (h3 : Asc L) : srtB L = true := by
  simp only [srtB, Bool.and_eq_true, decide_eq_true_eq]
  exact ⟨h1, h2, asc_ascB h3⟩
theorem srt_no {L : List Pid} (h : ¬ (L.length ≤ 12 ∧ L.all okP = true ∧ Asc L)) : srtB L = false := by
  cases e : srtB L with
  | false => rfl
  | true => exact absurd (srt_of e) h
theorem srt_long {L : List Pid} (h : ¬ L.length ≤ 12) : srtB L = false := srt_no fun x => h x.1
theorem all_get {L : List Pid} (h : L.all okP = true) {k : Nat} (hk : k < L.length) : okP (L.getD k nop) = true := by
  rw [List.getD_eq_getElem?_getD, List.getElem?_eq_getElem hk]
  exact List.all_eq_true.1 h _ (List.getElem_mem hk)
theorem srt_bad {L : List Pid} {k : Nat} (hk : k < L.length) (h : okP (L.getD k nop) = false) : srtB L = false := srt_no fun x => by
  have := all_get x.2.1 hk
  rw [h] at this; cases this
theorem srt_turn {L : List Pid} {k : Nat} (hk : k + 1 < L.length) (h : ltP (L.getD k nop) (L.getD (k + 1) nop) = false) : srtB L = false := srt_no fun x => by
  have := asc_lt x.2.2 (Nat.lt_succ_self k) hk
  rw [h] at this; cases this
theorem all_okL {L : List Pid} (h : ∀ j, j < L.length → okP (L.getD j nop) = true) : L.all okP = true := by
  rw [List.all_eq_true]
  intro x hx
  obtain ⟨i, hi, e⟩ := List.getElem_of_mem hx
  have := h i hi
  rw [List.getD_eq_getElem?_getD, List.getElem?_eq_getElem hi, Option.getD_some, e] at this
  exact this
theorem okP_of {a : Pid} (h : okP a = true) : 0 ≤ a.1 ∧ a.1 ≤ 4 ∧ 1 ≤ a.2 ∧ a.2 ≤ 50 := by simpa [okP, idB] using h
theorem okP_to {a : Pid} (h : 0 ≤ a.1 ∧ a.1 ≤ 4 ∧ 1 ≤ a.2 ∧ a.2 ≤ 50) : okP a = true := by simpa [okP, idB] using h

/-- The numbers of a replica, as bits. -/
def mask (L : List Pid) (r : Nat) : Nat := L.foldl (fun m a => if a.1 = (r : Int) then m ||| 2 ^ a.2.toNat else m) 0
theorem mask_app (L : List Pid) (a : Pid) (r : Nat) : mask (L ++ [a]) r = if a.1 = (r : Int) then mask L r ||| 2 ^ a.2.toNat else mask L r := by
  unfold mask; rw [List.foldl_append]; rfl
theorem mask_take {L : List Pid} {k : Nat} (hk : k < L.length) (r : Nat) : mask (L.take (k + 1)) r = if (L.getD k nop).1 = (r : Int) then mask (L.take k) r ||| 2 ^ (L.getD k nop).2.toNat else mask (L.take k) r := by
  rw [take_next hk, mask_app]
theorem fold_bit (r n : Nat) : ∀ (L : List Pid) (m : Nat), (∀ x ∈ L, 0 ≤ x.2) → ((L.foldl (fun m a => if a.1 = (r : Int) then m ||| 2 ^ a.2.toNat else m) m).testBit n = true ↔ m.testBit n = true ∨ ((r : Int), (n : Int)) ∈ L)
  | [], m, _ => by simp
  | a :: L, m, h => by
    rw [List.foldl_cons, fold_bit r n L _ (fun x hx => h x (List.mem_cons_of_mem _ hx)), List.mem_cons]
    have ha := h a List.mem_cons_self
    obtain ⟨p, q⟩ := a
    dsimp only at ha ⊢
    obtain ⟨q, rfl⟩ := Int.eq_ofNat_of_zero_le ha
    have e : (((r : Int), (n : Int)) = (p, (q : Int))) ↔ p = (r : Int) ∧ q = n := by
      rw [Prod.mk.injEq]
      constructor
      · rintro ⟨h1, h2⟩; exact ⟨h1.symm, by omega⟩
      · rintro ⟨h1, h2⟩; exact ⟨h1.symm, by omega⟩
    rw [e]
    by_cases hp : p = (r : Int)
    · simp only [if_pos hp, Nat.testBit_or, Bool.or_eq_true, Nat.testBit_two_pow, decide_eq_true_eq, Int.toNat_natCast]
      constructor
      · rintro ((h1 | h1) | h1)
        · exact .inl h1
        · exact .inr (.inl ⟨hp, h1⟩)
        · exact .inr (.inr h1)
      · rintro (h1 | ⟨_, h1⟩ | h1)
        · exact .inl (.inl h1)
        · exact .inl (.inr h1)
        · exact .inr h1
    · simp only [if_neg hp]
      constructor
      · rintro (h1 | h1)
        · exact .inl h1
        · exact .inr (.inr h1)
      · rintro (h1 | ⟨h1, _⟩ | h1)
        · exact .inl h1
        · exact absurd h1 hp
        · exact .inr h1
theorem mask_bit {L : List Pid} (h : L.all okP = true) (r n : Nat) : (mask L r).testBit n = true ↔ ((r : Int), (n : Int)) ∈ L := by
  unfold mask
  rw [fold_bit r n L 0 (fun x hx => by have := okP_of (List.all_eq_true.1 h x hx); omega)]
  simp
theorem fold_lt (r : Nat) : ∀ (L : List Pid) (m : Nat), m < 2 ^ 51 → (∀ x ∈ L, okP x = true) → L.foldl (fun m a => if a.1 = (r : Int) then m ||| 2 ^ a.2.toNat else m) m < 2 ^ 51
  | [], m, hm, _ => hm
  | a :: L, m, hm, h => by
    rw [List.foldl_cons]
    refine fold_lt r L _ ?_ (fun x hx => h x (List.mem_cons_of_mem _ hx))
    have ha := okP_of (h a List.mem_cons_self)
    split
    · exact Nat.or_lt_two_pow hm (Nat.pow_lt_pow_right (by decide) (by omega))
    · exact hm
theorem mask_lt {L : List Pid} (h : L.all okP = true) (r : Nat) : mask L r < 2251799813685248 :=
  fold_lt r L 0 (by decide) (List.all_eq_true.1 h)
theorem take_all {L : List Pid} (k : Nat) (h : ∀ j, j < k → okP (L.getD j nop) = true) (hk : k ≤ L.length) : (L.take k).all okP = true := by
  apply all_okL
  intro j hj
  rw [List.length_take] at hj
  have e : (L.take k).getD j nop = L.getD j nop := by
    rw [List.getD_eq_getElem?_getD, List.getElem?_take, if_pos (by omega), ← List.getD_eq_getElem?_getD]
  rw [e]; exact h j (by omega)

/-- Whether all are among others. -/
def inP (a b : List Pid) : Bool := a.all fun x => hasP b x
theorem inP_iff {a b : List Pid} : inP a b = true ↔ ∀ x ∈ a, x ∈ b := by simp [inP, hasP]
def withinB (a b : List Pid) : Bool := srtB a && (srtB b && inP a b)
/-- The set that idSetOf returns. -/
def setF (L : List Pid) : Nat → Nat := fun r => if srtB L = true then mask L r else 0
theorem setF_t {L : List Pid} (h : srtB L = true) : setF L = mask L := by funext r; exact if_pos h
theorem setF_f {L : List Pid} (h : srtB L = false) : setF L = fun _ => 0 := by funext r; exact if_neg (by rw [h]; decide)
theorem setF_lt (L : List Pid) (r : Nat) : setF L r < 2251799813685248 := by
  unfold setF; split
  · rename_i h; exact mask_lt (srt_of h).2.1 r
  · decide
theorem id_nat {x : Pid} (h : okP x = true) : ∃ r n : Nat, x = ((r : Int), (n : Int)) ∧ r < 5 ∧ 1 ≤ n ∧ n ≤ 50 := by
  have := okP_of h
  obtain ⟨p, q⟩ := x
  dsimp only at this
  exact ⟨p.toNat, q.toNat, by rw [Int.toNat_of_nonneg (by omega), Int.toNat_of_nonneg (by omega)], by omega, by omega, by omega⟩
theorem or_in {a b : List Pid} (ha : a.all okP = true) (hb : b.all okP = true) : (∀ r, r < 5 → mask a r ||| mask b r = mask b r) ↔ inP a b = true := by
  rw [inP_iff]
  constructor
  · intro h x hx
    obtain ⟨r, n, rfl, hr, _⟩ := id_nat (List.all_eq_true.1 ha x hx)
    have := (mask_bit ha r n).2 hx
    rw [← mask_bit hb, ← h r hr, Nat.testBit_or, this]; rfl
  · intro h r _
    apply Nat.eq_of_testBit_eq
    intro n
    rw [Nat.testBit_or]
    cases e : (mask a r).testBit n with
    | false => rfl
    | true => rw [(mask_bit hb r n).2 (h _ ((mask_bit ha r n).1 e))]; rfl
theorem within_set (a b : List Pid) (ha : srtB a = true) (hb : srtB b = true) : (∀ r, r < 5 → setF a r ||| setF b r = setF b r) ↔ inP a b = true := by
  rw [setF_t ha, setF_t hb]; exact or_in (srt_of ha).2.1 (srt_of hb).2.1
end Go.Proofs.Ytbklkhndjckckaa
