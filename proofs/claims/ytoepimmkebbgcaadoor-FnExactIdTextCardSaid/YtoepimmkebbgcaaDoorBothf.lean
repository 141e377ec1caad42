/- What IdFrom of the program and of the model answer of a text. -/
import Derived.Test.YtoepimmkebbgcaaDoorSfr
namespace Go.Proofs.YtoepimmkebbgcaaDoor
open Go.RowKit
set_option linter.unusedVariables false
set_option maxRecDepth 100000

theorem frE_yes {a b : Int} (h : idB a b = true) : frE a b = .returned (.tuple #[.agg #[.int .i64 a, .int .i64 b], .bool true]) := if_pos h
theorem frE_no {a b : Int} (h : idB a b = false) : frE a b = .returned (.tuple #[.agg #[.int .i64 0, .int .i64 0], .bool false]) := by unfold frE; rw [h]; rfl
theorem idB_of' {p q : Nat} (hp : p < 5) (hq1 : 1 ≤ q) (hq : q < 51) : idB p q = true := by simp [idB]; omega

/-- A text, and what both answer of it. -/
theorem both_fr (s : ByteArray) (hs : s.size ≤ 2000000) : ∃ (a b : Int) (q : Bool), (∀ w : World, Gl w → Calls Tryd.prog 11 #[.string s] w fun e w' => e = .returned (.tuple #[.agg #[.int .i64 a, .int .i64 b], .bool q]) ∧ Below w.heap.size w w') ∧
    (∀ w : World, Calls Tryd.prog 13 #[.string s] w fun e w' => e = .returned (.tuple #[.agg #[.int .i64 a, .int .i64 b], .bool q]) ∧ Below w.heap.size w w') ∧ ((q = true ∧ ∃ m n : Nat, a = m ∧ b = n ∧ m < 5 ∧ 1 ≤ n ∧ n < 51 ∧ txI m n = s) ∨ (q = false ∧ a = 0 ∧ b = 0 ∧ ∀ m n : Nat, m < 5 → 1 ≤ n → n < 51 → txI m n ≠ s)) := by
  by_cases h : ∃ m n : Nat, m < 5 ∧ 1 ≤ n ∧ n < 51 ∧ txI m n = s
  · obtain ⟨m, n, hm, hn1, hn, rfl⟩ := h
    have hv := idB_of' hm hn1 hn
    refine ⟨m, n, true, fun w hg => ?_, fun w => ?_, .inl ⟨rfl, m, n, rfl, rfl, hm, hn1, hn, rfl⟩⟩
    · have h1 := ifr_any (txI m n) hs w hg
      rw [(txI_X hm hn).1, (txI_X hm hn).2, numI_dec m (by omega), numI_dec n (by omega), frE_yes hv] at h1
      exact h1
    · have h1 := sfr_long (txI m n) (txI_ne m hm n hn).1 hs w
      rw [(txI_sub m hm n hn).1, (txI_sub m hm n hn).2, idTx_yes hv] at h1
      simp only [Int.toNat_natCast, if_true] at h1
      exact h1
  · have h' : ∀ m n : Nat, m < 5 → 1 ≤ n → n < 51 → txI m n ≠ s := fun m n h1 h2 h3 h4 => h ⟨m, n, h1, h2, h3, h4⟩
    have hno : ∀ a b : Int, idB a b = true → idTx a b ≠ s := fun a b hv => by
      obtain ⟨m, n, rfl, rfl, h1, h2, h3⟩ := idB_nat hv
      rw [idTx_yes hv]
      exact h' m n h1 h2 h3
    refine ⟨0, 0, false, fun w hg => ?_, fun w => ?_, .inr ⟨rfl, rfl, rfl, h'⟩⟩
    · have h1 := ifr_any s hs w hg
      by_cases hv : idB (numI (cutX s)) (numI (cutY s)) = true
      · exact absurd (cut_back hv) (hno _ _ hv)
      · rw [frE_no (by simpa using hv)] at h1
        exact h1
    · by_cases hz : s.size < 3
      · exact sfr_short s hz w
      · have h1 := sfr_long s (by omega) hs w
        rw [if_neg (fun e => ?_)] at h1
        · exact h1
        · by_cases hv : idB (numS (s.extract 0 1)) (numS (s.extract 2 s.size)) = true
          · exact hno _ _ hv e
          · rw [idTx_no (by simpa using hv)] at e
            rw [← e] at hz
            exact hz (by decide)

theorem txI_bytes : ∀ p, p < 5 → ∀ q, q < 51 → (txI p q).data.toList.all (fun c => decide (c ≠ 32)) = true ∧ (txI p q).data.toList[1]? = some 46 ∧ (txI p q).data.toList[0]? ≠ some 46 := by decide +kernel
/-- A text with a blank behind it, or a 0 ahead, is none of an id. -/
theorem no_blank {m n : Nat} (hm : m < 5) (hn : n < 51) : ∀ m' n' : Nat, m' < 5 → 1 ≤ n' → n' < 51 → txI m' n' ≠ txI m n ++ ⟨#[32]⟩ := by
  intro m' n' h1 _ h3 e
  have hb := (txI_bytes m' h1 n' h3).1
  rw [e, ByteArray.data_append, Array.toList_append, List.all_append] at hb
  simp at hb
theorem no_zero {m n : Nat} (hm : m < 5) (hn : n < 51) : ∀ m' n' : Nat, m' < 5 → 1 ≤ n' → n' < 51 → txI m' n' ≠ ⟨#[48]⟩ ++ txI m n := by
  intro m' n' h1 _ h3 e
  have hb := (txI_bytes m' h1 n' h3).2.1
  rw [e, ByteArray.data_append, Array.toList_append] at hb
  exact (txI_bytes m hm n hn).2.2 (by simpa using hb)
/-- What is said of such a text. -/
theorem fr_no {s : ByteArray} {a b : Int} {q : Bool} (h : (q = true ∧ ∃ m n : Nat, a = m ∧ b = n ∧ m < 5 ∧ 1 ≤ n ∧ n < 51 ∧ txI m n = s) ∨ (q = false ∧ a = 0 ∧ b = 0 ∧ ∀ m n : Nat, m < 5 → 1 ≤ n → n < 51 → txI m n ≠ s)) (hno : ∀ m' n' : Nat, m' < 5 → 1 ≤ n' → n' < 51 → txI m' n' ≠ s) : q = false := by
  rcases h with ⟨_, m, n, _, _, h1, h2, h3, e⟩ | ⟨h, _⟩
  · exact absurd e (hno m n h1 h2 h3)
  · exact h
end Go.Proofs.YtoepimmkebbgcaaDoor
