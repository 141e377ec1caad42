/- Texts laid together. -/
import Derived.Test.YtblkpkjgmjnimaaC02
/- Rows of entries that were copied: parts of a log, side by side. -/
namespace Go.Proofs.Ytblkpkjgmjnimaa
open Go.RowKit
set_option linter.unusedVariables false

/-- Some entries side by side, with their lists. -/
def elr (E : List En) (U : Nat → Value) (a m : Nat) : EL := (List.range' a m).map fun i => (E.getD i en0, U i)
theorem elr_len (E : List En) (U : Nat → Value) (a m : Nat) : (elr E U a m).length = m := by simp [elr]
theorem elr_get {E : List En} {U : Nat → Value} {a m i : Nat} (hi : i < m) : (elr E U a m).getD i ez = (E.getD (a + i) en0, U (a + i)) := by
  unfold elr
  rw [List.getD_eq_getElem?_getD, List.getElem?_map, List.getElem?_eq_getElem (by simpa using hi), List.getElem_range']
  simp
theorem elr_fst {E : List En} {U : Nat → Value} {a m : Nat} (h : a + m ≤ E.length) : (elr E U a m).map Prod.fst = (E.drop a).take m := by
  refine List.ext_getElem (by simp [elr]; omega) fun i h1 h2 => ?_
  simp only [List.length_map, elr_len] at h1
  have hl : i < (elr E U a m).length := by rw [elr_len]; exact h1
  have e := elr_get (E := E) (U := U) (a := a) h1
  rw [List.getD_eq_getElem?_getD, List.getElem?_eq_getElem hl] at e
  simp only [Option.getD_some] at e
  rw [List.getElem_map, e, List.getElem_take, List.getElem_drop, List.getD_eq_getElem?_getD, List.getElem?_eq_getElem (by omega)]
  rfl
theorem elr_src {w : World} {g off : Nat} {E : List En} {U : Nat → Value} (h : EnsAt w g off E U) (a m : Nat) (ham : a + m ≤ E.length) : ∀ j u, (flatE (elr E U a m))[j]? = some u → w.cell? ((⟨g, off + a * 9, none⟩ : Addr).add j) = some u := by
  intro j u hu
  have hj : j < m * 9 := by
    have := (List.getElem?_eq_some_iff.1 hu).1
    rw [flatE_len, elr_len] at this; exact this
  have e : j / 9 * 9 + j % 9 = j := by omega
  have hi : j / 9 < (elr E U a m).length := by rw [elr_len]; omega
  have hg := flatE_get (elr E U a m) (j / 9) (j % 9) hi (by omega)
  rw [e, hu, elr_get (by omega)] at hg
  have hP := h.at_ (a + j / 9) (by omega)
  rw [Addr.add_lit]
  have key : ∀ r, j % 9 = r → off + a * 9 + j = off + (a + j / 9) * 9 + r := fun r hr => by omega
  rcases (show j % 9 = 0 ∨ j % 9 = 1 ∨ j % 9 = 2 ∨ j % 9 = 3 ∨ j % 9 = 4 ∨ j % 9 = 5 ∨ j % 9 = 6 ∨ j % 9 = 7 ∨ j % 9 = 8 by omega) with r | r | r | r | r | r | r | r | r <;> rw [key _ r] <;> rw [r] at hg <;> simp only [ecell, enc9, List.getElem?_cons_zero, List.getElem?_cons_succ] at hg <;> rw [hg]
  · exact hP.c0
  · exact hP.c1
  · exact hP.c2
  · exact hP.c3
  · exact hP.c4
  · exact hP.c5
  · exact hP.c6
  · exact hP.c7
  · exact hP.c8
theorem flatE_one : ∀ (L : EL), (∀ x ∈ L, ∃ a n c, x.2 = .slice a n c) → ∀ u ∈ flatE L, u.oneCell' = true
  | [], _, u, hu => by simp [flatE] at hu
  | x :: r, h, u, hu => by
    rw [flatE, List.mem_append] at hu
    rcases hu with hu | hu
    · obtain ⟨a, n, c, e⟩ := h x List.mem_cons_self
      simp only [ecell, enc9, e, List.mem_cons, List.not_mem_nil, or_false] at hu
      rcases hu with rfl | rfl | rfl | rfl | rfl | rfl | rfl | rfl | rfl <;> rfl
    · exact flatE_one r (fun y hy => h y (List.mem_cons_of_mem _ hy)) u hu
theorem elr_mem {E : List En} {U : Nat → Value} {a m : Nat} {x : En × Value} (h : x ∈ elr E U a m) : ∃ i, a ≤ i ∧ i < a + m ∧ x = (E.getD i en0, U i) := by
  unfold elr at h
  rw [List.mem_map] at h
  obtain ⟨i, hi, rfl⟩ := h
  rw [List.mem_range'] at hi
  obtain ⟨j, h1, h2⟩ := hi
  exact ⟨i, by omega, by omega, rfl⟩
theorem elr_one {w : World} {g off : Nat} {E : List En} {U : Nat → Value} (h : EnsAt w g off E U) (a m : Nat) (ham : a + m ≤ E.length) : ∀ u ∈ flatE (elr E U a m), u.oneCell' = true :=
  flatE_one _ fun x hx => by
    obtain ⟨i, _, hi, rfl⟩ := elr_mem hx
    obtain ⟨a', c, e, _⟩ := (h.at_ i (by omega)).ids
    exact ⟨a', _, c, e⟩
/-- Such a row, read as entries. -/
theorem ens_row {w : World} {B : Nat} {v : Value} {L : EL} (h : w.ownsRow B 46 9 v L.length (flatE L)) (hn : v ≠ .slice none 0 0) (hI : ∀ x ∈ L, Ids w x.2 x.1.deps) (hl : L.length ≤ 2000000) : Ens w v (L.map Prod.fst) := by
  rcases h.2 with ⟨rfl, _⟩ | ⟨g, cap, cur, rfl, hb, hg, hc, hm, hs, ht⟩
  · exact absurd rfl hn
  · refine ⟨_, cap, by rw [List.length_map], by rw [List.length_map]; exact hc, by rw [List.length_map]; exact hl, .inr ⟨g, 0, fun i => (L.getD i ez).2, rfl, lt_of_heap hg, fun i hi => ?_⟩⟩
    rw [List.length_map] at hi
    rw [fstE_getD hi]
    have hx : L.getD i ez ∈ L := by rw [List.getD_eq_getElem?_getD, List.getElem?_eq_getElem hi]; exact List.getElem_mem hi
    exact enc_at hg (fun j hj => by rw [show (enc9 (L.getD i ez).1 (L.getD i ez).2)[j]? = (ecell (L.getD i ez))[j]? from rfl, ← flatE_get L i j hi hj, ← ht, List.getElem?_take, if_pos (by omega)]; simp) (hI _ hx)
theorem grown_of {w w' : World} {B : Nat} {e : TypeId} {size : Nat} {v : Value} {n : Nat} {xs : List Value} (h : w.ownsRow B e size v n xs) (hg : w.grownBy w' (Value.ownBlock v)) (hB : B ≤ w.heap.size) : Below B w w' :=
  ⟨hg.os, hg.tape, hg.output, hg.size, fun k hk => hg.block k (by omega) (fun e => absurd (rowT h e.symm).2 (by omega))⟩
/-- Two parts of a log. -/
theorem ens_two {w : World} {B g off : Nat} {v : Value} {E : List En} {U : Nat → Value} {a m b k : Nat} (hA : EnsAt w g off E U) (h1 : a + m ≤ E.length) (h2 : b + k ≤ E.length) (h : w.ownsRow B 46 9 v (m + k) (flatE (elr E U a m) ++ flatE (elr E U b k))) (hn : v ≠ .slice none 0 0) (hl : m + k ≤ 2000000) :
    Ens w v ((E.drop a).take m ++ (E.drop b).take k) := by
  rw [← elr_fst (U := U) h1, ← elr_fst (U := U) h2, ← List.map_append]
  refine ens_row (B := B) (by rw [List.length_append, elr_len, elr_len, flatE_app]; exact h) hn (fun x hx => ?_) (by rw [List.length_append, elr_len, elr_len]; exact hl)
  rcases List.mem_append.1 hx with hx | hx
  · obtain ⟨i, _, hi, rfl⟩ := elr_mem hx
    exact (hA.at_ i (by omega)).ids
  · obtain ⟨i, _, hi, rfl⟩ := elr_mem hx
    exact (hA.at_ i (by omega)).ids
theorem log_cut {E : List En} (h : logB E = true) (k : Nat) : logB ((E.drop 0).take k ++ (E.drop (k + 1)).take (E.length - (k + 1))) = true := by
  have e : (E.drop 0).take k ++ (E.drop (k + 1)).take (E.length - (k + 1)) = E.eraseIdx k := by
    rw [List.drop_zero, List.take_of_length_le (l := E.drop (k + 1)) (by rw [List.length_drop]; exact Nat.le_refl _), List.eraseIdx_eq_take_drop_succ]
  rw [e]
  obtain ⟨h1, h2, h3⟩ := log_of h
  have hs := List.eraseIdx_sublist E k
  exact log_to (Nat.le_trans hs.length_le h1) (fun x hx => h2 x (hs.subset hx)) (List.Pairwise.sublist (hs.map En.id) h3)
theorem log_dup {E : List En} {k : Nat} (hk : k < E.length) : logB ((E.drop 0).take (k + 1) ++ (E.drop k).take (E.length - k)) = false := by
  rw [List.drop_zero, List.take_of_length_le (l := E.drop k) (by rw [List.length_drop]; exact Nat.le_refl _)]
  have l1 : (E.take (k + 1)).length = k + 1 := by rw [List.length_take]; omega
  have g1 : (E.take (k + 1) ++ E.drop k).getD k en0 = E.getD k en0 := by
    rw [List.getD_eq_getElem?_getD, List.getElem?_append_left (by omega), List.getElem?_take, if_pos (by omega), ← List.getD_eq_getElem?_getD]
  have g2 : (E.take (k + 1) ++ E.drop k).getD (k + 1) en0 = E.getD k en0 := by
    rw [List.getD_eq_getElem?_getD, List.getElem?_append_right (by omega), l1, Nat.sub_self, List.getElem?_drop, Nat.add_zero, ← List.getD_eq_getElem?_getD]
  exact log_turn (k := k) (by rw [List.length_append, l1, List.length_drop]; omega) (by rw [g1, g2, ltP_irr])
end Go.Proofs.Ytblkpkjgmjnimaa
