/- Plain facts on the last ids of replicas. -/
import Derived.Test.YtbhjglapfiegaaaDoorSeto
namespace Go.Proofs.YtbhjglapfiegaaaDoor
set_option linter.unusedVariables false

/-- The highest bit alone. -/
def latN (x : Nat) : Nat := if x = 0 then 0 else 2 ^ (Lib.bitLen x - 1)
def latF (f : Nat → Nat) : Nat → Nat := fun r => latN (f r)
theorem latN_bit {x n : Nat} (hx : x < 18446744073709551616) : (latN x).testBit n = true ↔ x.testBit n = true ∧ ∀ n', x.testBit n' = true → n' ≤ n := by
  unfold latN
  by_cases h0 : x = 0
  · subst h0; simp
  · rw [if_neg h0, Nat.testBit_two_pow, decide_eq_true_iff]
    obtain ⟨h1, h2, h3, h4⟩ := high_bit h0 hx
    constructor
    · rintro rfl
      refine ⟨h3, fun n' hn => ?_⟩
      rcases Nat.lt_or_ge n' (Lib.bitLen x) with h | h
      · omega
      · rw [h4 n' h] at hn; cases hn
    · rintro ⟨h5, h6⟩
      have := h6 _ h3
      rcases Nat.lt_or_ge n (Lib.bitLen x) with h | h
      · omega
      · rw [h4 n h] at h5; cases h5
theorem latN_lt {x : Nat} (h : x < 2251799813685248) : latN x < 2251799813685248 := by
  unfold latN
  split
  · decide
  · rename_i h0
    obtain ⟨h1, h2, h3, h4⟩ := high_bit h0 (by omega)
    have : Lib.bitLen x ≤ 51 := Lib.bitLen_le x 51 (by decide) h
    exact Nat.pow_lt_pow_right (n := 51) (by decide) (by omega)

def lastP : List Pid → List Pid
  | [] => []
  | [a] => [a]
  | a :: b :: r => if b.1 = a.1 then lastP (b :: r) else a :: lastP (b :: r)
theorem last_one (a : Pid) : lastP [a] = [a] := rfl
theorem last_same {a b : Pid} {r : List Pid} (h : b.1 = a.1) : lastP (a :: b :: r) = lastP (b :: r) := by rw [lastP, if_pos h]
theorem last_next {a b : Pid} {r : List Pid} (h : ¬ b.1 = a.1) : lastP (a :: b :: r) = a :: lastP (b :: r) := by rw [lastP, if_neg h]
theorem last_sub : ∀ L : List Pid, (lastP L).Sublist L
  | [] => List.Sublist.refl _
  | [a] => List.Sublist.refl _
  | a :: b :: r => by
    by_cases h : b.1 = a.1
    · rw [last_same h]; exact (last_sub (b :: r)).cons a
    · rw [last_next h]; exact (last_sub (b :: r)).cons_cons a
theorem last_asc {L : List Pid} (h : Asc L) : Asc (lastP L) := List.Pairwise.sublist (last_sub L) h
theorem mem_last : ∀ {L : List Pid}, Asc L → ∀ x, x ∈ lastP L ↔ x ∈ L ∧ ∀ y ∈ L, y.1 = x.1 → y.2 ≤ x.2
  | [], _, x => by simp [lastP]
  | [a], _, x => by
    rw [last_one]
    constructor
    · intro h
      have e := List.mem_singleton.1 h
      subst e
      exact ⟨h, fun y hy _ => by rw [List.mem_singleton.1 hy]; exact Int.le_refl _⟩
    · exact fun h => h.1
  | a :: b :: r, hA, x => by
    have hA' := List.pairwise_cons.1 hA
    have ih := mem_last hA'.2 x
    have hab := ltP_iff.1 (hA'.1 b List.mem_cons_self)
    by_cases h : b.1 = a.1
    · rw [last_same h, ih]
      constructor
      · rintro ⟨h1, h2⟩
        refine ⟨List.mem_cons_of_mem _ h1, fun y hy e => ?_⟩
        rcases List.mem_cons.1 hy with rfl | hy
        · have := ltP_iff.1 (hA'.1 x h1); omega
        · exact h2 y hy e
      · rintro ⟨h1, h2⟩
        rcases List.mem_cons.1 h1 with rfl | h1
        · have := h2 b (by simp) h; omega
        · exact ⟨h1, fun y hy e => h2 y (List.mem_cons_of_mem _ hy) e⟩
    · rw [last_next h, List.mem_cons, ih]
      constructor
      · rintro (rfl | ⟨h1, h2⟩)
        · refine ⟨List.mem_cons_self, fun y hy e => ?_⟩
          rcases List.mem_cons.1 hy with rfl | hy
          · exact Int.le_refl _
          · have hby : b = y ∨ ltP b y = true := by
              rcases List.mem_cons.1 hy with rfl | hy
              · exact .inl rfl
              · exact .inr ((List.pairwise_cons.1 hA'.2).1 y hy)
            rcases hby with rfl | hby
            · omega
            · have := ltP_iff.1 hby; omega
        · refine ⟨List.mem_cons_of_mem _ h1, fun y hy e => ?_⟩
          rcases List.mem_cons.1 hy with rfl | hy
          · have := ltP_iff.1 (hA'.1 x h1); omega
          · exact h2 y hy e
      · rintro ⟨h1, h2⟩
        rcases List.mem_cons.1 h1 with rfl | h1
        · exact .inl rfl
        · exact .inr ⟨h1, fun y hy e => h2 y (List.mem_cons_of_mem _ hy) e⟩

/-- What DepsLatest answers. -/
def latR (L : List Pid) : List Pid := if srtB L = true then lastP L else []
theorem latR_t {L : List Pid} (h : srtB L = true) : latR L = lastP L := if_pos h
theorem latR_f {L : List Pid} (h : srtB L = false) : latR L = [] := if_neg (by rw [h]; decide)
theorem latR_len (L : List Pid) : (latR L).length ≤ 12 := by
  unfold latR; split
  · rename_i h; exact Nat.le_trans (last_sub L).length_le (srt_of h).1
  · simp
theorem idsO_lat {L : List Pid} (h : srtB L = true) : idsO (latF (setF L)) = lastP L := by
  rw [setF_t h]
  obtain ⟨h1, h2, h3⟩ := srt_of h
  refine asc_ext (idsO_asc _) (last_asc h3) (fun x => ?_)
  rw [mem_idsO, mem_last h3]
  have hlt : ∀ r, mask L r < 18446744073709551616 := fun r => by have := mask_lt h2 r; omega
  constructor
  · rintro ⟨r, n, rfl, hr, hn, hb⟩
    unfold latF at hb
    rw [latN_bit (hlt r)] at hb
    refine ⟨(mask_bit h2 r n).1 hb.1, fun y hy e => ?_⟩
    obtain ⟨r', n', rfl, _⟩ := id_nat (List.all_eq_true.1 h2 y hy)
    dsimp only at e ⊢
    have e' : r' = r := by omega
    subst e'
    have := hb.2 n' ((mask_bit h2 r' n').2 hy)
    omega
  · rintro ⟨hx, hmax⟩
    obtain ⟨r, n, rfl, hr, hn, hn2⟩ := id_nat (List.all_eq_true.1 h2 x hx)
    refine ⟨r, n, rfl, hr, by omega, ?_⟩
    unfold latF
    rw [latN_bit (hlt r)]
    refine ⟨(mask_bit h2 r n).2 hx, fun n' hn' => ?_⟩
    have := hmax _ ((mask_bit h2 r n').1 hn') rfl
    dsimp only at this
    omega
end Go.Proofs.YtbhjglapfiegaaaDoor
