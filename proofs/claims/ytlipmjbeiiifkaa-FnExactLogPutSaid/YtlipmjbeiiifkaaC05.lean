/- Texts laid together. -/
import Derived.Test.YtlipmjbeiiifkaaC03
import Derived.Test.YtlipmjbeiiifkaaC04
import Derived.Test.YtlipmjbeiiifkaaC06
import Derived.Test.YtlipmjbeiiifkaaC11
import Derived.Test.YtlipmjbeiiifkaaC10
import Derived.Test.YtlipmjbeiiifkaaC12
import Derived.Test.YtlipmjbeiiifkaaC13
import Derived.Test.YtlipmjbeiiifkaaC15
import Derived.Maps.RangeWalk
import Derived.Test.YtlipmjbeiiifkaaC07
import Derived.Test.YtlipmjbeiiifkaaC16
import Derived.Test.YtlipmjbeiiifkaaC24
/- Rows of entries that are being built. -/
namespace Go.Proofs.Ytlipmjbeiiifkaa
open Go.RowKit
set_option linter.unusedVariables false

/-- A block's kind. -/
def BkT (w : World) (b : Nat) (t : TypeId) : Prop := ∃ cur, w.heap[b]? = some (.cells cur t (0, 0))
theorem BkT.ne {w : World} {b c : Nat} {t u : TypeId} (h : BkT w b t) (g : BkT w c u) (hn : t ≠ u) : b ≠ c := fun e => by
  obtain ⟨_, h⟩ := h; obtain ⟨_, g⟩ := g; subst e; rw [h] at g; simp at g; exact hn g.2
theorem BkT.lt {w : World} {b : Nat} {t : TypeId} (h : BkT w b t) : b < w.heap.size := by obtain ⟨_, h⟩ := h; exact lt_of_heap h
theorem rowT {w : World} {B : Nat} {e : TypeId} {size : Nat} {v : Value} {n : Nat} {xs : List Value} (h : w.ownsRow B e size v n xs) {k : Nat} (hk : v.ownBlock = some k) : BkT w k e ∧ B ≤ k := by
  rcases h.2 with ⟨rfl, _⟩ | ⟨g, cap, cur, rfl, hb, hg, _⟩
  · simp [Value.ownBlock] at hk
  · simp [Value.ownBlock] at hk; subst hk; exact ⟨⟨cur, hg⟩, hb⟩
theorem rowSame {w w' : World} {B : Nat} {e : TypeId} {size : Nat} {v : Value} {n : Nat} {xs : List Value} (h : w.ownsRow B e size v n xs) (hs : ∀ k, v.ownBlock = some k → w'.heap[k]? = w.heap[k]?) : w'.ownsRow B e size v n xs := by
  refine ⟨h.1, ?_⟩
  rcases h.2 with hn | ⟨g, cap, cur, rfl, hb, hg, rest⟩
  · exact .inl hn
  · exact .inr ⟨g, cap, cur, rfl, hb, (hs g rfl).trans hg, rest⟩
theorem Row.ownE {w : World} {B : Nat} {v : Value} {O : List Pid} (h : Row w B v O) (hl : O.length ≤ 2000000) : ∃ b, B ≤ b ∧ BkT w b 25 ∧ OwnP w b v O := by
  obtain ⟨b, hb, hO⟩ := h.own hl
  have e : v.ownBlock = some b := by obtain ⟨c, rfl, _⟩ := hO.shape; rfl
  exact ⟨b, hb, (rowT h.1 e).1, hO⟩

/-- Entries with the values of their lists. -/
abbrev EL : Type := List (En × Value)
def ecell (x : En × Value) : List Value := enc9 x.1 x.2
def flatE : EL → List Value
  | [] => []
  | x :: r => ecell x ++ flatE r
theorem ecell_len (x : En × Value) : (ecell x).length = 9 := rfl
theorem flatE_app : ∀ (A B : EL), flatE (A ++ B) = flatE A ++ flatE B
  | [], B => rfl
  | c :: r, B => by simp [flatE, flatE_app r B]
theorem flatE_len : ∀ L : EL, (flatE L).length = L.length * 9
  | [] => rfl
  | c :: r => by simp [flatE, ecell_len, flatE_len r]; omega
def ez : En × Value := (en0, .slice none 0 0)
theorem flatE_get : ∀ (L : EL) (i j : Nat), i < L.length → j < 9 → (flatE L)[i * 9 + j]? = (ecell (L.getD i ez))[j]?
  | [], i, j, h, _ => absurd h (by simp)
  | x :: r, 0, j, _, hj => by
    rw [flatE, Nat.zero_mul, Nat.zero_add, List.getElem?_append_left (by rw [ecell_len]; exact hj)]; rfl
  | x :: r, i + 1, j, h, hj => by
    have ih := flatE_get r i j (by simpa using h) hj
    rw [flatE, List.getElem?_append_right (by rw [ecell_len]; omega)]
    have e : (i + 1) * 9 + j - (ecell x).length = i * 9 + j := by rw [ecell_len]; omega
    rw [e, ih]; rfl

/-- A slice of entries that is being built. -/
structure ER (w : World) (B : Nat) (v : Value) (L : EL) : Prop where
  row : w.ownsRow B 30 9 v L.length (flatE L)
  nn : v ≠ .slice none 0 0
  deps : ∀ x ∈ L, ∃ b, B ≤ b ∧ v.ownBlock ≠ some b ∧ OwnP w b x.2 x.1.deps
theorem er_new (w : World) (B : Nat) (hB : B ≤ w.heap.size) : ER (w.alloc (.cells #[] 30)) B (.slice (some ⟨w.heap.size, 0, none⟩) 0 0) [] :=
  ⟨World.ownsRow_made _ #[] 0 hB (Nat.zero_le _) rfl, by simp, fun _ h => nomatch h⟩
section
variable {w w' : World} {B : Nat} {v : Value} {L : EL}
theorem ER.same (h : ER w B v L) (hk : ∀ b, B ≤ b → b < w.heap.size → w'.heap[b]? = w.heap[b]?) : ER w' B v L := by
  refine ⟨rowSame h.row fun k hk' => hk k (rowT h.row hk').2 (rowT h.row hk').1.lt, h.nn, fun x hx => ?_⟩
  obtain ⟨b, h1, h2, h3⟩ := h.deps x hx
  exact ⟨b, h1, h2, h3.same (hk b h1 h3.lt)⟩
theorem ER.up (h : ER w B v L) (hb : Below w.heap.size w w') : ER w' B v L := h.same fun b _ hl => hb.block b hl
theorem ER.put (h : ER w B v L) {o : Obj} {v' : Value} {x : En × Value} (hown : w'.ownsRow B 30 9 v' (L.length + 1) (flatE L ++ ecell x)) (hg : (w.alloc o).grownBy w' (Value.ownBlock v)) (hn : v' ≠ .slice none 0 0)
    (hat : v'.ownBlock = v.ownBlock ∨ v'.ownBlock = some (w.heap.size + 1)) (hx : ∃ b, B ≤ b ∧ v.ownBlock ≠ some b ∧ OwnP w b x.2 x.1.deps) : ER w' B v' (L ++ [x]) := by
  have keep : ∀ b, b < w.heap.size → v.ownBlock ≠ some b → w'.heap[b]? = w.heap[b]? := fun b hl hne =>
    (hg.block b (by simp; omega) (fun e => hne e.symm)).trans (Below.heap_alloc _ _ _ hl)
  refine ⟨by rw [flatE_app, List.length_append]; simpa [flatE] using hown, hn, fun y hy => ?_⟩
  have hh : ∃ b, B ≤ b ∧ v.ownBlock ≠ some b ∧ OwnP w b y.2 y.1.deps := by
    rcases List.mem_append.1 hy with hy | hy
    · exact h.deps y hy
    · rw [List.mem_singleton] at hy; rw [hy]; exact hx
  obtain ⟨b, h1, h2, h3⟩ := hh
  refine ⟨b, h1, ?_, h3.same (keep b h3.lt h2)⟩
  rcases hat with e | e
  · rw [e]; exact h2
  · rw [e]; intro e'; injection e' with e'; have := h3.lt; omega
/-- What an append leaves of other blocks. -/
theorem ER.grown (h : ER w B v L) {o : Obj} (hg : (w.alloc o).grownBy w' (Value.ownBlock v)) (hB : B ≤ w.heap.size) : Below B w w' := by
  have a := (Below.refl B w).alloc hB o
  exact a.trans ⟨hg.os, hg.tape, hg.output, hg.size, fun k hk => hg.block k (by have := a.size; omega) (fun e => absurd (rowT h.row e.symm).2 (by omega))⟩
theorem ER.shape (h : ER w B v L) : ∃ g cap, v = .slice (some ⟨g, 0, none⟩) L.length cap ∧ B ≤ g ∧ g < w.heap.size ∧ L.length ≤ cap ∧ cap ≤ maxLen := by
  rcases h.row.2 with ⟨rfl, _⟩ | ⟨g, cap, cur, rfl, hb, hg, hc, hm, _⟩
  · exact absurd rfl h.nn
  · exact ⟨g, cap, rfl, hb, lt_of_heap hg, hc, hm⟩
theorem fstE_getD {L : EL} {i : Nat} (hi : i < L.length) : (L.map Prod.fst).getD i en0 = (L.getD i ez).1 := by
  rw [List.getD_eq_getElem?_getD, List.getD_eq_getElem?_getD, List.getElem?_map, List.getElem?_eq_getElem hi]; rfl
theorem ER.eno (h : ER w B v L) (hl : L.length ≤ 2000000) : EnO w B v (L.map Prod.fst) := by
  rcases h.row.2 with ⟨rfl, _⟩ | ⟨g, cap, cur, rfl, hb, hg, hc, hm, hs, ht⟩
  · exact absurd rfl h.nn
  · refine ⟨g, cap, cur, _, by rw [List.length_map], hb, hg, by rw [List.length_map]; exact hc, by rw [List.length_map]; exact hl, fun i hi => ?_⟩
    rw [List.length_map] at hi
    rw [fstE_getD hi]
    have hx : L.getD i ez ∈ L := by rw [List.getD_eq_getElem?_getD, List.getElem?_eq_getElem hi]; exact List.getElem_mem hi
    have hk : ∀ j, j < 9 → cur[i * 9 + j]? = (ecell (L.getD i ez))[j]? := fun j hj => by
      rw [← flatE_get L i j hi hj, ← ht, List.getElem?_take, if_pos (by omega)]; simp
    obtain ⟨b, h1, h2, h3⟩ := h.deps _ hx
    exact ⟨b, _, h1, fun e => h2 (by rw [e]; rfl), hk, h3⟩
end
theorem nine_srcE (w : World) (t : TypeId) (x0 x1 x2 x3 x4 x5 x6 x7 x8 : Value) (n : Nat) (hn : n = w.heap.size) : ∀ j v, [x0, x1, x2, x3, x4, x5, x6, x7, x8][j]? = some v → (w.alloc (.cells #[x0, x1, x2, x3, x4, x5, x6, x7, x8] t)).cell? ((⟨n, 0, none⟩ : Addr).add j) = some v := by
  subst hn
  intro j v hj
  have h := heap_alloc_new w (.cells #[x0, x1, x2, x3, x4, x5, x6, x7, x8] t)
  rw [Addr.add_lit, Nat.zero_add, cell_of_cells h]
  simpa using hj
theorem nine_oneE (x0 x1 x2 x3 x4 x5 x6 x7 : Int) (a : Option Addr) (n c : Nat) : ∀ u ∈ [Value.int .i64 x0, .int .i64 x1, .int .i64 x2, .int .i64 x3, .int .i64 x4, .int .i64 x5, .int .i64 x6, .int .i64 x7, .slice a n c], u.oneCell' = true := by
  intro u hu
  simp at hu
  rcases hu with rfl | rfl | rfl | rfl | rfl | rfl | rfl | rfl | rfl <;> rfl
end Go.Proofs.Ytlipmjbeiiifkaa

/- Rows of entries that were copied: parts of a log, side by side. -/
namespace Go.Proofs.Ytlipmjbeiiifkaa
open Go.RowKit
set_option linter.unusedVariables false

/-- Some entries side by side, with their lists. -/
def elr (E : List En) (U : Nat → Value) (a m : Nat) : EL := (List.range' a m).map fun i => (E.getD i en0, U i)
theorem elr_len (E : List En) (U : Nat → Value) (a m : Nat) : (elr E U a m).length = m := by simp [elr]
theorem elr_get {E : List En} {U : Nat → Value} {a m i : Nat} (hi : i < m) : (elr E U a m).getD i ez = (E.getD (a + i) en0, U (a + i)) := by
  unfold elr
  rw [List.getD_eq_getElem?_getD, List.getElem?_map, List.getElem?_eq_getElem (by simpa using hi), List.getElem_range']
  simp
theorem elr_fst {E : List En} {U : Nat → Value} {a m : Nat} (h : a + m ≤ E.length) : (elr E U a m).map Prod.fst = (E.drop a).take m := by
  refine List.ext_getElem (by simp [elr]; omega) fun i h1 h2 => ?_
  simp only [List.length_map, elr_len] at h1
  have hl : i < (elr E U a m).length := by rw [elr_len]; exact h1
  have e := elr_get (E := E) (U := U) (a := a) h1
  rw [List.getD_eq_getElem?_getD, List.getElem?_eq_getElem hl] at e
  simp only [Option.getD_some] at e
  rw [List.getElem_map, e, List.getElem_take, List.getElem_drop, List.getD_eq_getElem?_getD, List.getElem?_eq_getElem (by omega)]
  rfl
theorem elr_src {w : World} {g off : Nat} {E : List En} {U : Nat → Value} (h : EnsAt w g off E U) (a m : Nat) (ham : a + m ≤ E.length) : ∀ j u, (flatE (elr E U a m))[j]? = some u → w.cell? ((⟨g, off + a * 9, none⟩ : Addr).add j) = some u := by
  intro j u hu
  have hj : j < m * 9 := by
    have := (List.getElem?_eq_some_iff.1 hu).1
    rw [flatE_len, elr_len] at this; exact this
  have e : j / 9 * 9 + j % 9 = j := by omega
  have hi : j / 9 < (elr E U a m).length := by rw [elr_len]; omega
  have hg := flatE_get (elr E U a m) (j / 9) (j % 9) hi (by omega)
  rw [e, hu, elr_get (by omega)] at hg
  have hP := h.at_ (a + j / 9) (by omega)
  rw [Addr.add_lit]
  have key : ∀ r, j % 9 = r → off + a * 9 + j = off + (a + j / 9) * 9 + r := fun r hr => by omega
  rcases (show j % 9 = 0 ∨ j % 9 = 1 ∨ j % 9 = 2 ∨ j % 9 = 3 ∨ j % 9 = 4 ∨ j % 9 = 5 ∨ j % 9 = 6 ∨ j % 9 = 7 ∨ j % 9 = 8 by omega) with r | r | r | r | r | r | r | r | r <;> rw [key _ r] <;> rw [r] at hg <;> simp only [ecell, enc9, List.getElem?_cons_zero, List.getElem?_cons_succ] at hg <;> rw [hg]
  · exact hP.c0
  · exact hP.c1
  · exact hP.c2
  · exact hP.c3
  · exact hP.c4
  · exact hP.c5
  · exact hP.c6
  · exact hP.c7
  · exact hP.c8
theorem flatE_one : ∀ (L : EL), (∀ x ∈ L, ∃ a n c, x.2 = .slice a n c) → ∀ u ∈ flatE L, u.oneCell' = true
  | [], _, u, hu => by simp [flatE] at hu
  | x :: r, h, u, hu => by
    rw [flatE, List.mem_append] at hu
    rcases hu with hu | hu
    · obtain ⟨a, n, c, e⟩ := h x List.mem_cons_self
      simp only [ecell, enc9, e, List.mem_cons, List.not_mem_nil, or_false] at hu
      rcases hu with rfl | rfl | rfl | rfl | rfl | rfl | rfl | rfl | rfl <;> rfl
    · exact flatE_one r (fun y hy => h y (List.mem_cons_of_mem _ hy)) u hu
theorem elr_mem {E : List En} {U : Nat → Value} {a m : Nat} {x : En × Value} (h : x ∈ elr E U a m) : ∃ i, a ≤ i ∧ i < a + m ∧ x = (E.getD i en0, U i) := by
  unfold elr at h
  rw [List.mem_map] at h
  obtain ⟨i, hi, rfl⟩ := h
  rw [List.mem_range'] at hi
  obtain ⟨j, h1, h2⟩ := hi
  exact ⟨i, by omega, by omega, rfl⟩
theorem elr_one {w : World} {g off : Nat} {E : List En} {U : Nat → Value} (h : EnsAt w g off E U) (a m : Nat) (ham : a + m ≤ E.length) : ∀ u ∈ flatE (elr E U a m), u.oneCell' = true :=
  flatE_one _ fun x hx => by
    obtain ⟨i, _, hi, rfl⟩ := elr_mem hx
    obtain ⟨a', c, e, _⟩ := (h.at_ i (by omega)).ids
    exact ⟨a', _, c, e⟩
/-- Such a row, read as entries. -/
theorem ens_row {w : World} {B : Nat} {v : Value} {L : EL} (h : w.ownsRow B 30 9 v L.length (flatE L)) (hn : v ≠ .slice none 0 0) (hI : ∀ x ∈ L, Ids w x.2 x.1.deps) (hl : L.length ≤ 2000000) : Ens w v (L.map Prod.fst) := by
  rcases h.2 with ⟨rfl, _⟩ | ⟨g, cap, cur, rfl, hb, hg, hc, hm, hs, ht⟩
  · exact absurd rfl hn
  · refine ⟨_, cap, by rw [List.length_map], by rw [List.length_map]; exact hc, by rw [List.length_map]; exact hl, .inr ⟨g, 0, fun i => (L.getD i ez).2, rfl, lt_of_heap hg, fun i hi => ?_⟩⟩
    rw [List.length_map] at hi
    rw [fstE_getD hi]
    have hx : L.getD i ez ∈ L := by rw [List.getD_eq_getElem?_getD, List.getElem?_eq_getElem hi]; exact List.getElem_mem hi
    exact enc_at hg (fun j hj => by rw [show (enc9 (L.getD i ez).1 (L.getD i ez).2)[j]? = (ecell (L.getD i ez))[j]? from rfl, ← flatE_get L i j hi hj, ← ht, List.getElem?_take, if_pos (by omega)]; simp) (hI _ hx)
theorem grown_of {w w' : World} {B : Nat} {e : TypeId} {size : Nat} {v : Value} {n : Nat} {xs : List Value} (h : w.ownsRow B e size v n xs) (hg : w.grownBy w' (Value.ownBlock v)) (hB : B ≤ w.heap.size) : Below B w w' :=
  ⟨hg.os, hg.tape, hg.output, hg.size, fun k hk => hg.block k (by omega) (fun e => absurd (rowT h e.symm).2 (by omega))⟩
/-- Two parts of a log. -/
theorem ens_two {w : World} {B g off : Nat} {v : Value} {E : List En} {U : Nat → Value} {a m b k : Nat} (hA : EnsAt w g off E U) (h1 : a + m ≤ E.length) (h2 : b + k ≤ E.length) (h : w.ownsRow B 30 9 v (m + k) (flatE (elr E U a m) ++ flatE (elr E U b k))) (hn : v ≠ .slice none 0 0) (hl : m + k ≤ 2000000) :
    Ens w v ((E.drop a).take m ++ (E.drop b).take k) := by
  rw [← elr_fst (U := U) h1, ← elr_fst (U := U) h2, ← List.map_append]
  refine ens_row (B := B) (by rw [List.length_append, elr_len, elr_len, flatE_app]; exact h) hn (fun x hx => ?_) (by rw [List.length_append, elr_len, elr_len]; exact hl)
  rcases List.mem_append.1 hx with hx | hx
  · obtain ⟨i, _, hi, rfl⟩ := elr_mem hx
    exact (hA.at_ i (by omega)).ids
  · obtain ⟨i, _, hi, rfl⟩ := elr_mem hx
    exact (hA.at_ i (by omega)).ids
theorem log_cut {E : List En} (h : logB E = true) (k : Nat) : logB ((E.drop 0).take k ++ (E.drop (k + 1)).take (E.length - (k + 1))) = true := by
  have e : (E.drop 0).take k ++ (E.drop (k + 1)).take (E.length - (k + 1)) = E.eraseIdx k := by
    rw [List.drop_zero, List.take_of_length_le (l := E.drop (k + 1)) (by rw [List.length_drop]; exact Nat.le_refl _), List.eraseIdx_eq_take_drop_succ]
  rw [e]
  obtain ⟨h1, h2, h3⟩ := log_of h
  have hs := List.eraseIdx_sublist E k
  exact log_to (Nat.le_trans hs.length_le h1) (fun x hx => h2 x (hs.subset hx)) (List.Pairwise.sublist (hs.map En.id) h3)
theorem log_dup {E : List En} {k : Nat} (hk : k < E.length) : logB ((E.drop 0).take (k + 1) ++ (E.drop k).take (E.length - k)) = false := by
  rw [List.drop_zero, List.take_of_length_le (l := E.drop k) (by rw [List.length_drop]; exact Nat.le_refl _)]
  have l1 : (E.take (k + 1)).length = k + 1 := by rw [List.length_take]; omega
  have g1 : (E.take (k + 1) ++ E.drop k).getD k en0 = E.getD k en0 := by
    rw [List.getD_eq_getElem?_getD, List.getElem?_append_left (by omega), List.getElem?_take, if_pos (by omega), ← List.getD_eq_getElem?_getD]
  have g2 : (E.take (k + 1) ++ E.drop k).getD (k + 1) en0 = E.getD k en0 := by
    rw [List.getD_eq_getElem?_getD, List.getElem?_append_right (by omega), l1, Nat.sub_self, List.getElem?_drop, Nat.add_zero, ← List.getD_eq_getElem?_getD]
  exact log_turn (k := k) (by rw [List.length_append, l1, List.length_drop]; omega) (by rw [g1, g2, ltP_irr])
end Go.Proofs.Ytlipmjbeiiifkaa

/- Two rows of entries, of a law's own, that are built one after the other. -/
namespace Go.Proofs.Ytlipmjbeiiifkaa
open Go.RowKit
set_option linter.unusedVariables false

structure Rw2 (w wr : World) (va vb : Value) (LA LB : EL) : Prop where
  ra : wr.ownsRow w.heap.size 30 9 va LA.length (flatE LA)
  rb : wr.ownsRow w.heap.size 30 9 vb LB.length (flatE LB)
  na : va ≠ .slice none 0 0
  nb : vb ≠ .slice none 0 0
  ne : ∀ k, va.ownBlock = some k → vb.ownBlock = some k → False
  ia : ∀ x ∈ LA, Ids w x.2 x.1.deps
  ib : ∀ x ∈ LB, Ids w x.2 x.1.deps
  kp : Below w.heap.size w wr
section
variable {w wr w' : World} {va vb : Value} {LA LB : EL}
theorem Rw2.start (w : World) : Rw2 w ((w.alloc (.cells #[] 30)).alloc (.cells #[] 30)) (.slice (some ⟨w.heap.size, 0, none⟩) 0 0) (.slice (some ⟨w.heap.size + 1, 0, none⟩) 0 0) [] [] := by
  refine ⟨?_, ?_, by simp, by simp, fun k h1 h2 => ?_, (fun _ h => nomatch h), (fun _ h => nomatch h), ((Below.refl _ _).alloc (Nat.le_refl _) _).alloc (by simp) _⟩
  · exact rowSame (er_new w w.heap.size (Nat.le_refl _)).row fun k hk => by simp [Value.ownBlock] at hk; subst hk; exact Below.heap_alloc _ _ _ (by simp)
  · have := (er_new (w.alloc (.cells #[] 30)) w.heap.size (by simp)).row
    simpa using this
  · simp [Value.ownBlock] at h1 h2; omega
theorem Rw2.swap (h : Rw2 w wr va vb LA LB) : Rw2 w wr vb va LB LA := ⟨h.rb, h.ra, h.nb, h.na, fun k h1 h2 => h.ne k h2 h1, h.ib, h.ia, h.kp⟩
theorem Rw2.up (h : Rw2 w wr va vb LA LB) (hb : Below wr.heap.size wr w') : Rw2 w w' va vb LA LB :=
  ⟨rowSame h.ra fun k hk => hb.block k (rowT h.ra hk).1.lt, rowSame h.rb fun k hk => hb.block k (rowT h.rb hk).1.lt, h.na, h.nb, h.ne, h.ia, h.ib, bstep h.kp hb⟩
theorem Rw2.next (h : Rw2 w wr va vb LA LB) {o : Obj} {v' : Value} {x : En × Value} (hown : w'.ownsRow w.heap.size 30 9 v' (LA.length + 1) (flatE LA ++ ecell x)) (hg : (wr.alloc o).grownBy w' (Value.ownBlock va)) (hn : v' ≠ .slice none 0 0)
    (hat : v'.ownBlock = va.ownBlock ∨ v'.ownBlock = some (wr.heap.size + 1)) (hx : Ids w x.2 x.1.deps) : Rw2 w w' v' vb (LA ++ [x]) LB := by
  have keep : ∀ b, b < wr.heap.size → va.ownBlock ≠ some b → w'.heap[b]? = wr.heap[b]? := fun b hl hne =>
    (hg.block b (by simp; omega) (fun e => hne e.symm)).trans (Below.heap_alloc _ _ _ hl)
  have hT := fun k hk => (rowT h.rb (k := k) hk).1.lt
  refine ⟨by rw [flatE_app, List.length_append]; simpa [flatE] using hown, rowSame h.rb fun k hk => keep k (hT k hk) (fun e => h.ne k e hk), hn, h.nb, fun k h1 h2 => ?_, fun y hy => ?_, h.ib, ?_⟩
  · rcases hat with e | e
    · rw [e] at h1; exact h.ne k h1 h2
    · rw [e] at h1; injection h1 with h1; have := hT k h2; omega
  · rcases List.mem_append.1 hy with hy | hy
    · exact h.ia y hy
    · rw [List.mem_singleton] at hy; rw [hy]; exact hx
  · have a := (Below.refl w.heap.size wr).alloc h.kp.size o
    exact h.kp.trans (a.trans ⟨hg.os, hg.tape, hg.output, hg.size, fun k hk => hg.block k (by have := a.size; have := h.kp.size; omega) (fun e => absurd (rowT h.ra e.symm).2 (by omega))⟩)
theorem Rw2.ensA (h : Rw2 w wr va vb LA LB) (hl : LA.length ≤ 2000000) : Ens wr va (LA.map Prod.fst) :=
  ens_row h.ra h.na (fun x hx => (h.ia x hx).up h.kp (Nat.le_refl _)) hl
theorem Rw2.ensB (h : Rw2 w wr va vb LA LB) (hl : LB.length ≤ 2000000) : Ens wr vb (LB.map Prod.fst) := h.swap.ensA hl
theorem Rw2.shapeA (h : Rw2 w wr va vb LA LB) : ∃ g cap, va = .slice (some ⟨g, 0, none⟩) LA.length cap := by
  rcases h.ra.2 with ⟨rfl, _⟩ | ⟨g, cap, cur, rfl, _⟩
  · exact absurd rfl h.na
  · exact ⟨g, cap, rfl⟩
end

/-- The entries with another id. -/
def oth (a : Pid) (E : List En) : List En := E.filter fun x => !decide (x.id = a)
theorem oth_next (a : Pid) {E : List En} {k : Nat} (hk : k < E.length) : oth a (E.take (k + 1)) = oth a (E.take k) ++ (if (E.getD k en0).id = a then [] else [E.getD k en0]) := by
  have : E.take (k + 1) = E.take k ++ [E.getD k en0] := by
    rw [List.take_add_one, List.getElem?_eq_getElem hk, List.getD_eq_getElem?_getD, List.getElem?_eq_getElem hk]; rfl
  unfold oth
  rw [this, List.filter_append]
  congr 1
  by_cases h : (E.getD k en0).id = a
  · rw [if_pos h, List.filter_cons_of_neg (by simp only [h]; simp)]; rfl
  · rw [if_neg h, List.filter_cons_of_pos (by simp only [h]; simp)]; rfl
theorem oth_len (a : Pid) (E : List En) : (oth a E).length ≤ E.length := List.length_filter_le _ _
theorem oth_put {X : En} {E : List En} (h : Asc (idsE E)) : oth X.id (putE X E) = oth X.id E := by
  have f : ∀ {A : List En}, Asc (idsE A) → Asc (idsE (oth X.id A)) := fun {A} hA => by rw [ascE_iff] at hA ⊢; exact hA.filter _
  refine ens_ext (f (putE_asc h)) (f h) fun x => ?_
  unfold oth
  rw [List.mem_filter, List.mem_filter, mem_putE]
  constructor
  · rintro ⟨rfl | ⟨h1, h2⟩, h3⟩
    · simp at h3
    · exact ⟨h1, h3⟩
  · rintro ⟨h1, h2⟩
    exact ⟨.inr ⟨h1, by simpa using h2⟩, h2⟩
theorem put_find {X : En} {E : List En} (h : logB (putE X E) = true) : lfindR (putE X E) X.id = (X, true) := by
  obtain ⟨j, hj, e⟩ := mem_enD (mem_putE.2 (.inl rfl) : X ∈ putE X E)
  have := lfindR_some h hj (by rw [e])
  rw [e] at this; exact this
theorem lputR_is {E : List En} {X : En} (h : (lputR E X).2 = true) : (lputR E X).1 = putE X E ∧ logB E = true ∧ enB X = true ∧ (putE X E).length ≤ 12 := by
  unfold lputR at h ⊢
  split at h
  · rename_i g; rw [if_pos g]; exact ⟨rfl, g⟩
  · cases h
end Go.Proofs.Ytlipmjbeiiifkaa

/- What a log's book holds; bookOf, whatever entries there are. -/
namespace Go.Proofs.Ytlipmjbeiiifkaa
open Go.RowKit
set_option linter.unusedVariables false

theorem mapE_none {E : List En} {U : Nat → Value} {a : Pid} : ∀ n, (∀ k, k < n → ¬ (E.getD k en0).id = a) → mapE E U n a = none
  | 0, _ => rfl
  | n + 1, h => by
    unfold mapE
    rw [if_neg (fun e => h n (Nat.lt_succ_self n) e.symm)]
    exact mapE_none n fun k hk => h k (Nat.lt_succ_of_lt hk)
theorem mapE_some {E : List En} {U : Nat → Value} {a : Pid} {k : Nat} (hu : ∀ j, (E.getD j en0).id = a → j < E.length → j = k) : ∀ n, n ≤ E.length → k < n → (E.getD k en0).id = a → mapE E U n a = some (env (E.getD k en0) (U k))
  | 0, _, h, _ => absurd h (Nat.not_lt_zero _)
  | n + 1, hl, hk, e => by
    unfold mapE
    by_cases hn : a = (E.getD n en0).id
    · rw [if_pos hn, hu n hn.symm (by omega)]
    · rw [if_neg hn]
      have : k ≠ n := fun h => hn (by rw [← h]; exact e.symm)
      exact mapE_some hu n (by omega) (by omega) e
/-- What is looked up in a log's book. -/
theorem mapE_look {E : List En} (hv : logB E = true) (U : Nat → Value) (a : Pid) : (∃ k, k < E.length ∧ (E.getD k en0).id = a ∧ mapE E U E.length a = some (env (E.getD k en0) (U k))) ∨ ((∀ k, k < E.length → ¬ (E.getD k en0).id = a) ∧ mapE E U E.length a = none) := by
  by_cases h : ∃ k, k < E.length ∧ (E.getD k en0).id = a
  · obtain ⟨k, hk, e⟩ := h
    exact .inl ⟨k, hk, e, mapE_some (fun j hj hl => log_inj hv hl hk (hj.trans e.symm)) _ (Nat.le_refl _) hk e⟩
  · have h' : ∀ k, k < E.length → ¬ (E.getD k en0).id = a := fun k hk e => h ⟨k, hk, e⟩
    exact .inr ⟨h', mapE_none _ h'⟩
/-- What bookOf leaves, whatever entries there are. -/
theorem ibook_any (u : Value) (E : List En) (w : World) (h : Ens w u E) :
    ∃ U, (∀ k, k < E.length → Ids w (U k) (E.getD k en0).deps) ∧ Calls Try.prog 27 #[u] w (BkPost E U w) := by
  obtain ⟨a, cap, rfl, h1, h2, h3⟩ := h
  rcases h3 with h3 | ⟨b, off, U, rfl, h4⟩
  · obtain rfl : E = [] := List.length_eq_zero_iff.1 h3
    exact ⟨fun _ => .slice none 0 0, fun k hk => absurd hk (Nat.not_lt_zero _), ibook_nil a cap _ w⟩
  · exact ⟨U, fun k hk => (h4.at_ k hk).ids, ibook_at b off cap E U w h2 h4⟩
end Go.Proofs.Ytlipmjbeiiifkaa

/- A log's book, and what it is when an entry was put. -/
namespace Go.Proofs.Ytlipmjbeiiifkaa
open Go.RowKit
set_option linter.unusedVariables false
set_option maxRecDepth 100000

theorem asc_nd {A : List Pid} (h : Asc A) : A.Nodup := List.Pairwise.imp (fun {a b} hab e => by subst e; rw [ltP_irr] at hab; cases hab) h
theorem mem_idsP {e : En} {E : List En} (a : Pid) : a ∈ idsE (putE e E) ↔ a = e.id ∨ a ∈ idsE E := by
  unfold idsE
  simp only [List.mem_map, mem_putE]
  constructor
  · rintro ⟨x, rfl | ⟨h1, h2⟩, rfl⟩
    · exact .inl rfl
    · exact .inr ⟨x, h1, rfl⟩
  · rintro (rfl | ⟨x, h1, rfl⟩)
    · exact ⟨e, .inl rfl, rfl⟩
    · by_cases h2 : x.id = e.id
      · exact ⟨e, .inl rfl, h2.symm⟩
      · exact ⟨x, .inr ⟨h1, h2⟩, rfl⟩
/-- A book of entries. -/
structure BkE (w : World) (bb nn : Nat) (M : Pid → Option Value) (R : List En) : Prop where
  book : Book w bb nn M
  keys : KeysOf M (idsE R)
  asc : Asc (idsE R)
  look : ∀ k, k < R.length → ∃ u, M (R.getD k en0).id = some (env (R.getD k en0) u) ∧ Ids w u (R.getD k en0).deps
theorem BkE.up {w w' : World} {bb nn : Nat} {M : Pid → Option Value} {R : List En} (h : BkE w bb nn M R) (hb : Below w.heap.size w w') : BkE w' bb nn M R :=
  ⟨h.book.up hb h.book.lt, h.keys, h.asc, fun k hk => by obtain ⟨u, h1, h2⟩ := h.look k hk; exact ⟨u, h1, h2.up hb (Nat.le_refl _)⟩⟩
theorem bkE_log {w : World} {bb : Nat} {E : List En} {U : Nat → Value} (hv : logB E = true) (hB : Book w bb E.length (mapE E U E.length)) (hU : ∀ k, k < E.length → Ids w (U k) (E.getD k en0).deps) : BkE w bb E.length (mapE E U E.length) E := by
  refine ⟨hB, ⟨asc_nd (log_of hv).2.2, fun a ha => ?_, fun a ha => ?_⟩, (log_of hv).2.2, fun k hk => ⟨U k, mapE_some (fun j hj hl => log_inj hv hl hk hj) _ (Nat.le_refl _) hk rfl, hU k hk⟩⟩
  · obtain ⟨k, hk, rfl⟩ := mem_idsE.1 ha
    exact inR_ok (log_num hv hk)
  · rcases mapE_look hv U a with ⟨k, hk, e1, e2⟩ | ⟨e1, e2⟩
    · rw [e2]
      exact ⟨fun _ => mem_idsE.2 ⟨k, hk, e1⟩, fun _ => rfl⟩
    · rw [e2]
      refine ⟨fun h => (by cases h), fun h => ?_⟩
      obtain ⟨k, hk, e⟩ := mem_idsE.1 h
      exact absurd e (e1 k hk)
theorem Ids.turned {w w' : World} {bb n : Nat} {M : Pid → Option Value} {u : Value} {C : List Pid} (h : Ids w u C) (hB : Book w bb n M) (hg : w.grownBy w' (some bb)) : Ids w' u C := by
  obtain ⟨a, cap, rfl, h1, h2, h3⟩ := h
  refine ⟨a, cap, rfl, h1, h2, ?_⟩
  by_cases h0 : C.length = 0
  · exact .inl h0
  rcases h3 with h3 | ⟨b, off, rfl, h4, h5⟩
  · exact .inl h3
  · refine .inr ⟨b, off, rfl, Nat.lt_of_lt_of_le h4 hg.size, fun i hi => ?_⟩
    have hne : b ≠ bb := fun e => by
      obtain ⟨D, ⟨es, clock, hb, r⟩, _⟩ := hB
      have := (h5 0 (by omega)).1
      subst e
      simp [World.cell?, hb] at this
    have hc : ∀ o, w'.cell? ⟨b, o, none⟩ = w.cell? ⟨b, o, none⟩ := fun o => World.cell?_of_block (hg.block b h4 (fun e => by injection e with e; exact hne e))
    rw [hc, hc]
    exact h5 i hi
/-- An entry is put. -/
theorem BkE.put {w : World} {bb nn : Nat} {M : Pid → Option Value} {R : List En} (h : BkE w bb nn M R) {t e : TypeId} (ht : Try.prog.underlying t = some (.map 25 e)) (hn : nn < maxLen) {X : En} (hX : okP X.id = true) {u : Value} (hu : Ids w u X.deps) :
    ∃ w', (Instr.mapUpdate t (.map (some bb)) (idv2 X.id) (env X u)).run Try.prog w = .ok () w' ∧ BkE w' bb (nn + 1) (fun x => if x = X.id then some (env X u) else M x) (putE X R) ∧ w.grownBy w' (some bb) := by
  obtain ⟨w', r1, r2, r3⟩ := h.book.put ht hn (inR_ok hX) (env X u)
  refine ⟨w', r1, ⟨r2, ⟨asc_nd (putE_asc h.asc), fun a ha => ?_, fun a ha => ?_⟩, putE_asc h.asc, fun k hk => ?_⟩, r3⟩
  · rcases (mem_idsP a).1 ha with rfl | ha
    · exact inR_ok hX
    · exact h.keys.2.1 a ha
  · rw [mem_idsP]
    try dsimp only
    by_cases e : a = X.id
    · rw [if_pos e]; exact ⟨fun _ => .inl e, fun _ => rfl⟩
    · rw [if_neg e, h.keys.2.2 a ha]; exact ⟨.inr, fun h => h.resolve_left e⟩
  · rcases mem_putE.1 (enD_mem hk) with e | ⟨h1, h2⟩
    · rw [e]
      try dsimp only
      rw [if_pos rfl]
      exact ⟨u, rfl, hu.turned h.book r3⟩
    · obtain ⟨j, hj, e⟩ := mem_enD h1
      obtain ⟨v, g1, g2⟩ := h.look j hj
      rw [e] at g1 g2
      try dsimp only
      rw [if_neg h2]
      exact ⟨v, g1, g2.turned h.book r3⟩
end Go.Proofs.Ytlipmjbeiiifkaa

/- What the book's entries use: a slice made with a capacity, a look-up without ok. -/
namespace Go.Proofs.Ytlipmjbeiiifkaa
open Go.RowKit
set_option linter.unusedVariables false
set_option maxRecDepth 100000

theorem make_capE (n : Nat) (hn : n ≤ 2000000) (w : World) : (Instr.makeSlice 23 (.int .i64 0) (.int .i64 n)).run Try.prog w = .ok (.slice (some ⟨w.heap.size, 0, none⟩) 0 n) (w.alloc (.cells (madeCells #[.int .i64 0, .int .i64 0, .int .i64 0, .int .i64 0, .int .i64 0, .int .i64 0, .int .i64 0, .int .i64 0, .slice none 0 0] (n * 9)) 30)) := by
  obtain ⟨i, hi, hz, hs, hb⟩ := info_parts info_en
  have hr := run_make (P := Try.prog) w 23 30 i _ Try.underlying23 hi hz .i64 .i64 0 n (by omega) (by omega) (by rw [hb]; omega) (by omega)
  simp only [Int.toNat_natCast, hs] at hr
  exact hr
theorem er_cap (w : World) (n B : Nat) (hB : B ≤ w.heap.size) (hn : n ≤ 2000000) : ER (w.alloc (.cells (madeCells #[.int .i64 0, .int .i64 0, .int .i64 0, .int .i64 0, .int .i64 0, .int .i64 0, .int .i64 0, .int .i64 0, .slice none 0 0] (n * 9)) 30)) B (.slice (some ⟨w.heap.size, 0, none⟩) 0 n) [] :=
  ⟨World.ownsRow_made _ _ n hB (by unfold maxLen; omega) (by simp [madeCells]), by simp, fun _ h => nomatch h⟩
/-- An entry that is there is looked up without ok. -/
theorem Book.at {w : World} {bb n : Nat} {M : Pid → Option Value} {t e : TypeId} (h : Book w bb n M) (ht : Try.prog.underlying t = some (.map 25 e)) {z : Value} (hz : (zeroValue e).run Try.prog w = .ok z w) {a : Pid} (ha : inR a) {v : Value} (hv : M a = some v) :
    (Instr.lookup t (.map (some bb)) (idv2 a) false).run Try.prog w = .ok v w := by
  obtain ⟨D, h1, h2⟩ := h
  obtain ⟨v', ps, r1, r2⟩ := h1.lookup id_law ht hz (zd := .held z) (zp := []) rfl (key_of ha)
  have g := (h2 a ha).2 v hv (.held z)
  unfold Rv at r2
  injection r2 with r2
  injection r2 with r2 _
  rw [g] at r2
  injection r2 with r2
  rw [r1, r2]
end Go.Proofs.Ytlipmjbeiiifkaa

/- Rows of entries with lists of their own, as results have them. -/
namespace Go.Proofs.Ytlipmjbeiiifkaa
open Go.RowKit
set_option linter.unusedVariables false

/-- An entry of a result: its list's value, and between which blocks the list lies. -/
structure Zn where
  en : En
  u : Value
  p : Nat
  q : Nat
def zn0 : Zn := ⟨en0, .slice none 0 0, 0, 0⟩
def zel (L : List Zn) : EL := L.map fun x => (x.en, x.u)
def zens (L : List Zn) : List En := L.map fun x => x.en
theorem zel_app (L : List Zn) (x : Zn) : zel (L ++ [x]) = zel L ++ [(x.en, x.u)] := by simp [zel]
theorem zens_app (L : List Zn) (x : Zn) : zens (L ++ [x]) = zens L ++ [x.en] := by simp [zens]
theorem zel_len (L : List Zn) : (zel L).length = L.length := by simp [zel]
theorem zens_len (L : List Zn) : (zens L).length = L.length := by simp [zens]
theorem zens_get {L : List Zn} {i : Nat} (hi : i < L.length) : (zens L).getD i en0 = (L.getD i zn0).en := by
  unfold zens
  rw [List.getD_eq_getElem?_getD, List.getD_eq_getElem?_getD, List.getElem?_map, List.getElem?_eq_getElem hi]; rfl
theorem zel_get {L : List Zn} {i : Nat} (hi : i < L.length) : (zel L).getD i ez = ((L.getD i zn0).en, (L.getD i zn0).u) := by
  unfold zel
  rw [List.getD_eq_getElem?_getD, List.getD_eq_getElem?_getD, List.getElem?_map, List.getElem?_eq_getElem hi]; rfl
theorem OwZ.keep {w w' : World} {B T : Nat} {u : Value} {C : List Pid} (h : OwZ w B T u C) (hk : ∀ b, B ≤ b → b < T → b < w.heap.size → w'.heap[b]? = w.heap[b]?) : OwZ w' B T u C := by
  rcases h with h | ⟨b, h1, h2, h⟩
  · exact .inl h
  · exact .inr ⟨b, h1, h2, h.same (hk b h1 h2 h.lt)⟩

/-- A result that is being built. -/
structure ZR (w : World) (B : Nat) (v : Value) (L : List Zn) : Prop where
  row : w.ownsRow B 30 9 v L.length (flatE (zel L))
  nn : v ≠ .slice none 0 0
  deps : ∀ x ∈ L, B ≤ x.p ∧ x.q ≤ w.heap.size ∧ (∀ b, v.ownBlock = some b → x.p ≤ b → b < x.q → False) ∧ OwZ w x.p x.q x.u x.en.deps
  ord : L.Pairwise fun x y => x.q ≤ y.p
theorem zr_new (w : World) (B : Nat) (hB : B ≤ w.heap.size) : ZR (w.alloc (.cells #[] 30)) B (.slice (some ⟨w.heap.size, 0, none⟩) 0 0) [] :=
  ⟨(er_new w B hB).row, by simp, (fun _ h => nomatch h), List.Pairwise.nil⟩
theorem zr_cap (w : World) (n B : Nat) (hB : B ≤ w.heap.size) (hn : n ≤ 2000000) : ZR (w.alloc (.cells (madeCells #[.int .i64 0, .int .i64 0, .int .i64 0, .int .i64 0, .int .i64 0, .int .i64 0, .int .i64 0, .int .i64 0, .slice none 0 0] (n * 9)) 30)) B (.slice (some ⟨w.heap.size, 0, none⟩) 0 n) [] :=
  ⟨(er_cap w n B hB hn).row, by simp, (fun _ h => nomatch h), List.Pairwise.nil⟩
section
variable {w w' : World} {B : Nat} {v : Value} {L : List Zn}
theorem ZR.same (h : ZR w B v L) (hs : w.heap.size ≤ w'.heap.size) (hk : ∀ b, B ≤ b → b < w.heap.size → w'.heap[b]? = w.heap[b]?) : ZR w' B v L := by
  refine ⟨rowSame h.row fun k hk' => hk k (rowT h.row hk').2 (rowT h.row hk').1.lt, h.nn, fun x hx => ?_, h.ord⟩
  obtain ⟨h1, h2, h3, h4⟩ := h.deps x hx
  exact ⟨h1, Nat.le_trans h2 hs, h3, h4.keep fun b hb1 hb2 hb3 => hk b (Nat.le_trans h1 hb1) hb3⟩
theorem ZR.up (h : ZR w B v L) (hb : Below w.heap.size w w') : ZR w' B v L := h.same hb.size fun b _ hl => hb.block b hl
theorem ZR.put (h : ZR w B v L) {o : Obj} {v' : Value} {x : Zn} (hown : w'.ownsRow B 30 9 v' (L.length + 1) (flatE (zel L) ++ ecell (x.en, x.u))) (hg : (w.alloc o).grownBy w' (Value.ownBlock v)) (hn : v' ≠ .slice none 0 0)
    (hat : v'.ownBlock = v.ownBlock ∨ v'.ownBlock = some (w.heap.size + 1)) (hx : B ≤ x.p ∧ x.q ≤ w.heap.size ∧ (∀ b, v.ownBlock = some b → x.p ≤ b → b < x.q → False) ∧ OwZ w x.p x.q x.u x.en.deps) (ho : ∀ y ∈ L, y.q ≤ x.p) : ZR w' B v' (L ++ [x]) := by
  have keep : ∀ b, b < w.heap.size → v.ownBlock ≠ some b → w'.heap[b]? = w.heap[b]? := fun b hl hne =>
    (hg.block b (by simp; omega) (fun e => hne e.symm)).trans (Below.heap_alloc _ _ _ hl)
  have hsz : w.heap.size ≤ w'.heap.size := by have := hg.size; simp at this; omega
  refine ⟨by rw [zel_app, flatE_app, List.length_append]; simpa [flatE] using hown, hn, fun y hy => ?_, ?_⟩
  · have hh : B ≤ y.p ∧ y.q ≤ w.heap.size ∧ (∀ b, v.ownBlock = some b → y.p ≤ b → b < y.q → False) ∧ OwZ w y.p y.q y.u y.en.deps := by
      rcases List.mem_append.1 hy with hy | hy
      · exact h.deps y hy
      · rw [List.mem_singleton] at hy; rw [hy]; exact hx
    obtain ⟨h1, h2, h3, h4⟩ := hh
    refine ⟨h1, by omega, fun b e b1 b2 => ?_, h4.keep fun b b1 b2 b3 => keep b b3 fun e => h3 b e b1 b2⟩
    rcases hat with e' | e'
    · rw [e'] at e; exact h3 b e b1 b2
    · rw [e'] at e; injection e with e; omega
  · rw [List.pairwise_append]
    exact ⟨h.ord, List.pairwise_singleton _ _, fun a ha b hb => by rw [List.mem_singleton] at hb; subst hb; exact ho a ha⟩
theorem ZR.grown (h : ZR w B v L) {o : Obj} (hg : (w.alloc o).grownBy w' (Value.ownBlock v)) (hB : B ≤ w.heap.size) : Below B w w' := by
  have a := (Below.refl B w).alloc hB o
  exact a.trans ⟨hg.os, hg.tape, hg.output, hg.size, fun k hk => hg.block k (by have := a.size; omega) (fun e => absurd (rowT h.row e.symm).2 (by omega))⟩
end

/-- A log in memory of its own: the row's block, and each list between its blocks. -/
structure LgAt (w : World) (B T g n : Nat) (X : Nat → En) (U : Nat → Value) (P Q : Nat → Nat) : Prop where
  blk : ∃ cur t, w.heap[g]? = some (.cells cur t (0, 0)) ∧ n * 9 ≤ cur.size ∧ ∀ i, i < n → EnC cur i (X i) (U i)
  g0 : B ≤ g
  g1 : g < T
  top : T ≤ w.heap.size
  deps : ∀ i, i < n → OwZ w (P i) (Q i) (U i) (X i).deps ∧ B ≤ P i ∧ Q i ≤ T ∧ (P i ≤ g → g < Q i → False)
  ord : ∀ i j, i < j → j < n → Q i ≤ P j
def LogO (w : World) (B T : Nat) (v : Value) (N : List En) : Prop := ∃ g cap U P Q, v = .slice (some ⟨g, 0, none⟩) N.length cap ∧ N.length ≤ cap ∧ N.length ≤ 2000000 ∧ LgAt w B T g N.length (fun i => N.getD i en0) U P Q
theorem zn_mem {L : List Zn} {i : Nat} (hi : i < L.length) : L.getD i zn0 ∈ L := by
  rw [List.getD_eq_getElem?_getD, List.getElem?_eq_getElem hi]; exact List.getElem_mem hi
theorem ZR.log {w : World} {B : Nat} {v : Value} {L : List Zn} (h : ZR w B v L) (hl : L.length ≤ 2000000) : LogO w B w.heap.size v (zens L) := by
  rcases h.row.2 with ⟨rfl, _⟩ | ⟨g, cap, cur, rfl, hb, hg, hc, hm, hs, ht⟩
  · exact absurd rfl h.nn
  · have hsz : L.length * 9 ≤ cur.size := by
      have e := congrArg List.length ht
      rw [List.length_take, flatE_len, zel_len, Array.length_toList] at e
      omega
    refine ⟨g, cap, fun i => (L.getD i zn0).u, fun i => (L.getD i zn0).p, fun i => (L.getD i zn0).q, by rw [zens_len], by rw [zens_len]; exact hc, by rw [zens_len]; exact hl, ?_⟩
    rw [zens_len]
    refine ⟨⟨cur, _, hg, hsz, fun i hi j hj => ?_⟩, hb, lt_of_heap hg, Nat.le_refl _, fun i hi => ?_, fun i j hij hj => ?_⟩
    · try dsimp only
      rw [zens_get hi]
      have e := flatE_get (zel L) i j (by rw [zel_len]; exact hi) hj
      rw [zel_get hi] at e
      refine Eq.trans ?_ e
      rw [← ht, List.getElem?_take, if_pos (by omega)]; simp
    · try dsimp only
      rw [zens_get hi]
      obtain ⟨h1, h2, h3, h4⟩ := h.deps _ (zn_mem hi)
      exact ⟨h4, h1, h2, fun a b => h3 g rfl a b⟩
    · have := List.pairwise_iff_getElem.1 h.ord i j (by omega) hj hij
      try dsimp only
      rw [List.getD_eq_getElem?_getD, List.getElem?_eq_getElem (by omega : i < L.length), List.getD_eq_getElem?_getD, List.getElem?_eq_getElem hj]
      exact this
section
variable {w w' : World} {B T : Nat} {v : Value} {N : List En} {g n : Nat} {X : Nat → En} {U : Nat → Value} {P Q : Nat → Nat}
theorem LgAt.apart {D : Nat → Prop} (h : LgAt w B T g n X U P Q) (he : Exc D w w') (hn : ∀ b, B ≤ b → b < T → ¬ D b) : LgAt w' B T g n X U P Q := by
  obtain ⟨cur, t, h1, h2, h3⟩ := h.blk
  refine ⟨⟨cur, t, (he.block g (lt_of_heap h1) (hn g h.g0 h.g1)).trans h1, h2, h3⟩, h.g0, h.g1, Nat.le_trans h.top he.size, fun i hi => ?_, h.ord⟩
  obtain ⟨a1, a2, a3, a4⟩ := h.deps i hi
  exact ⟨a1.apart he (fun b b1 b2 => hn b (by omega) (by omega)), a2, a3, a4⟩
theorem LogO.apart {D : Nat → Prop} (h : LogO w B T v N) (he : Exc D w w') (hn : ∀ b, B ≤ b → b < T → ¬ D b) : LogO w' B T v N := by
  obtain ⟨g, cap, U, P, Q, h1, h2, h3, h4⟩ := h
  exact ⟨g, cap, U, P, Q, h1, h2, h3, h4.apart he hn⟩
theorem LogO.up (h : LogO w B T v N) (hb : Below w.heap.size w w') : LogO w' B T v N := h.apart (D := fun _ => False) (Exc.of hb) (fun _ _ _ h => h)
theorem LogO.wide {B' T' : Nat} (h : LogO w B T v N) (hB : B' ≤ B) (hT : T ≤ T') (hs : T' ≤ w.heap.size) : LogO w B' T' v N := by
  obtain ⟨g, cap, U, P, Q, h1, h2, h3, h4⟩ := h
  refine ⟨g, cap, U, P, Q, h1, h2, h3, ⟨h4.blk, Nat.le_trans hB h4.g0, Nat.lt_of_lt_of_le h4.g1 hT, hs, fun i hi => ?_, h4.ord⟩⟩
  obtain ⟨a1, a2, a3, a4⟩ := h4.deps i hi
  exact ⟨a1, Nat.le_trans hB a2, Nat.le_trans a3 hT, a4⟩
theorem LogO.read (h : LogO w B T v N) : Ens w v N := by
  obtain ⟨g, cap, U, P, Q, rfl, h2, h3, h4⟩ := h
  obtain ⟨cur, t, hg, hs, hc⟩ := h4.blk
  exact ⟨_, cap, rfl, h2, h3, .inr ⟨g, 0, U, rfl, lt_of_heap hg, fun i hi => enc_at hg (hc i hi) (h4.deps i hi).1.read⟩⟩
theorem LogO.shape (h : LogO w B T v N) : ∃ g cap, v = .slice (some ⟨g, 0, none⟩) N.length cap ∧ N.length ≤ cap ∧ N.length ≤ 2000000 := by
  obtain ⟨g, cap, U, P, Q, h1, h2, h3, h4⟩ := h
  exact ⟨g, cap, h1, h2, h3⟩
theorem LogO.none (w : World) (B : Nat) (hB : B ≤ w.heap.size) : LogO (w.alloc (.cells #[] 30)) B (w.heap.size + 1) (.slice (some ⟨w.heap.size, 0, .none⟩) 0 0) [] := by
  have := (zr_new w B hB).log (Nat.zero_le _)
  simpa [zens] using this
end
end Go.Proofs.Ytlipmjbeiiifkaa

/- The program's entries of a book: copies of all, as a log. -/
namespace Go.Proofs.Ytlipmjbeiiifkaa
open Go.RowKit
set_option linter.unusedVariables false

/-- Where the book's entries are: what has been copied, the ids still there. -/
structure PtZ (w wr : World) (gb : Nat) (C : List Pid) (u v : Value) (L : List Zn) : Prop where
  zr : ZR wr w.heap.size v L
  ids : OwnP wr gb u C
  ne : v.ownBlock ≠ some gb
  kp : Below w.heap.size w wr
section
variable {w wr w' : World} {gb : Nat} {C : List Pid} {u v : Value} {L : List Zn}
theorem PtZ.up (h : PtZ w wr gb C u v L) (hb : Below wr.heap.size wr w') : PtZ w w' gb C u v L :=
  ⟨h.zr.up hb, h.ids.up hb h.ids.lt, h.ne, bstep h.kp hb⟩
theorem PtZ.next (h : PtZ w wr gb C u v L) {o : Obj} {v' : Value} {x : Zn} (hown : w'.ownsRow w.heap.size 30 9 v' (L.length + 1) (flatE (zel L) ++ ecell (x.en, x.u))) (hg : (wr.alloc o).grownBy w' (Value.ownBlock v)) (hn : v' ≠ .slice none 0 0)
    (hat : v'.ownBlock = v.ownBlock ∨ v'.ownBlock = some (wr.heap.size + 1)) (hx : w.heap.size ≤ x.p ∧ x.q ≤ wr.heap.size ∧ (∀ b, v.ownBlock = some b → x.p ≤ b → b < x.q → False) ∧ OwZ wr x.p x.q x.u x.en.deps) (ho : ∀ y ∈ L, y.q ≤ x.p) : PtZ w w' gb C u v' (L ++ [x]) := by
  have hl := h.ids.lt
  refine ⟨h.zr.put hown hg hn hat hx ho, h.ids.same ((hg.block gb (by simp; omega) (fun e => h.ne e.symm)).trans (Below.heap_alloc _ _ _ hl)), ?_, h.kp.trans (h.zr.grown hg h.kp.size)⟩
  rcases hat with e | e
  · rw [e]; exact h.ne
  · rw [e]; intro e'; injection e' with e'; omega
end

set_option maxRecDepth 100000 in
set_option maxHeartbeats 8000000 in
theorem ientries_any (bb nn : Nat) (M : Pid → Option Value) (R : List En) (w : World) (h : BkE w bb nn M R) (h0 : 1 ≤ R.length) (hl : R.length ≤ 12) :
    Calls Try.prog 29 #[.map (some bb)] w fun e w' => ∃ v, e = .returned v ∧ LogO w' w.heap.size w'.heap.size v R ∧ Below w.heap.size w w' := by
  obtain ⟨D, hD, hsz⟩ := book_len h.book h.keys
  rw [idsE_len] at hsz
  have so := fun Bm W => isorted_any Bm bb nn M (idsE R) h.keys h.asc (by rw [idsE_len]; exact h0) (by rw [idsE_len]; exact hl) W
  obtain ⟨i0, hi, hz0, hz1, hz2⟩ := info_parts info_en
  obtain ⟨n, hn⟩ : ∃ n, Hid (R.length = n) := ⟨_, Lib.hid rfl⟩
  rw [hn.out] at hsz h0 hl
  have mk := fun W => make_capE n (by omega) W
  have hzz := Lib.hid (zr_cap w n w.heap.size (Nat.le_refl _) (by omega))
  have B0 := Lib.hid ((Below.refl w.heap.size w).alloc (Nat.le_refl _) (.cells (madeCells #[.int .i64 0, .int .i64 0, .int .i64 0, .int .i64 0, .int .i64 0, .int .i64 0, .int .i64 0, .int .i64 0, .slice none 0 0] (n * 9)) 30))
  have hbb := h.book.lt
  have h := Lib.hid h
  go_enter Try.func29, Try.ntmps29
  go_wp2_with (first | (at_len; refine wpList_len_own _ rfl _ 62 rfl 25 30 Try.underlying62 Rv bb nn D rfl hD ?_; rw [hsz]) | fail)
  refine (keys_any (some bb) _).mono ?_
  rintro e w1 ⟨rfl, rfl⟩
  clear hD mk hsz
  obtain ⟨W0, hW0⟩ : ∃ W, Hid (w.alloc (.cells (madeCells #[.int .i64 0, .int .i64 0, .int .i64 0, .int .i64 0, .int .i64 0, .int .i64 0, .int .i64 0, .int .i64 0, .slice none 0 0] (n * 9)) 30) = W) := ⟨_, Lib.hid rfl⟩
  rw [hW0.out] at hzz B0
  rw [hW0.out]
  have hs0 : W0.heap.size = w.heap.size + 1 := by rw [← hW0.out]; simp
  clear hW0
  have B1 := Lib.hid (B0.out.alloc (by omega) (.cells #[.map (some bb)] 62))
  have so1 := so (w.heap.size + 1) (W0.alloc (.cells #[.map (some bb)] 62)) (by simp; omega) ((cell_of_cells (by rw [← hs0]; exact heap_alloc_new W0 (.cells #[.map (some bb)] 62))).trans rfl) (h.out.book.up B1.out hbb)
  go_wp2_with fail
  refine so1.mono ?_
  rintro e w2 ⟨u, gb, rfl, hgb, hO, B⟩
  have hgb2 : w.heap.size + 1 < gb := by simp at hgb; omega
  have P0 := Lib.hid (show PtZ w w2 gb (idsE R) u (.slice (some ⟨w.heap.size, 0, none⟩) 0 n) [] from ⟨(hzz.out.up ((Below.refl _ _).alloc (Nat.le_refl _) _)).up B, hO, by simp [Value.ownBlock]; omega, bstep B1.out B⟩)
  obtain ⟨cap, hu, hcap⟩ := hO.shape
  rw [idsE_len, hn.out] at hu hcap
  subst hu
  have hbk := Lib.hid (fun W (hb : Below w.heap.size w W) => h.out.book.up hb hbb)
  have hlk := Lib.hid h.out.look
  have hkey := Lib.hid (fun k (hk : k < R.length) => h.out.keys.2.1 _ (mem_idsE.2 ⟨k, hk, rfl⟩))
  clear so so1 B hzz B0 B1 hO hgb h
  generalize W0.alloc (.cells #[.map (some bb)] 62) = W1 at *
  go_wp2_with fail
  go_loopw [3, 13] (fun v i wr => ∃ (k : Nat) (L : List Zn), k ≤ n ∧ i = .int .i64 k ∧ Hid (zens L = R.take k) ∧ Hid (PtZ w wr gb (idsE R) (.slice (some ⟨gb, 0, none⟩) n cap) v L)) (fun _ i _ => n - (intOf i).toNat)
  case atStart => exact ⟨0, [], Nat.zero_le _, rfl, Lib.hid rfl, P0⟩
  case round =>
    clear P0
    obtain ⟨k, L, hk, rfl, hL, P⟩ := hrel
    by_cases hlt : k < n
    · have hkR : k < R.length := by rw [hn.out]; exact hlt
      obtain ⟨c0, c1⟩ := P.out.ids.cell k (by rw [idsE_len]; exact hkR)
      rw [idsE_get hkR] at c0 c1
      have hgl := P.out.ids.lt
      obtain ⟨v, hv1, hv2⟩ := hlk.out k hkR
      obtain ⟨X, hX⟩ : ∃ X, Hid (R.getD k en0 = X) := ⟨_, Lib.hid rfl⟩
      rw [hX.out] at c0 c1 hv1 hv2
      go_upto_region 5 with fail
      have BA := Lib.hid ((Below.refl wr.heap.size wr).alloc (Nat.le_refl _) (.cells #[.int .i64 X.id.1, .int .i64 X.id.2] 25))
      replace P := Lib.hid (P.out.up BA.out)
      have A0 := heap_alloc_new wr (.cells #[.int .i64 X.id.1, .int .i64 X.id.2] 25)
      obtain ⟨a0, a1, _, _⟩ := blk2 A0
      have hal := lt_of_heap A0
      have hq := hkey.out k hkR
      rw [hX.out] at hq
      have hlook := (hbk.out _ P.out.kp).at Try.underlying62 (Try.zeroValue30 _) hq hv1
      obtain ⟨ua, un, uc, rfl⟩ : ∃ ua un uc, v = .slice ua un uc := by obtain ⟨a, c, e, _⟩ := hv2; exact ⟨a, _, c, e⟩
      have ic := icopy_any X (.slice ua un uc) _ (hv2.up P.out.kp (Nat.le_refl _))
      unfold idv2 at hlook
      have hLq := Lib.hid (fun y (hy : y ∈ L) => (P.out.zr.deps y hy).2.1)
      clear c0 c1 hgl A0 hv1 hv2 hq
      generalize wr.alloc (.cells #[.int .i64 X.id.1, .int .i64 X.id.2] 25) = W at P a0 a1 hal hlook ic hLq ⊢
      unfold env at hlook ic
      go_wp2_with fail
      refine ic.mono ?_
      rintro e w3 ⟨⟨u', rfl, hO⟩, B⟩
      obtain ⟨va, vn, vc, rfl⟩ : ∃ ua un uc, u' = .slice ua un uc := by obtain ⟨a, c, e, _⟩ := hO.read; exact ⟨a, _, c, e⟩
      have hrow := P.out.zr.row
      have hx := Lib.hid (show w.heap.size ≤ W.heap.size ∧ w3.heap.size ≤ w3.heap.size ∧ (∀ b, u3.ownBlock = some b → W.heap.size ≤ b → b < w3.heap.size → False) ∧ OwZ w3 W.heap.size w3.heap.size (.slice va vn vc) X.deps from
        ⟨P.out.kp.size, Nat.le_refl _, fun b e b1 _ => by have := (rowT hrow e).1.lt; omega, hO⟩)
      replace P := Lib.hid (P.out.up B)
      have hPs := P.out.kp.size
      have hPr := Lib.hid P.out.zr.row
      have hLl : L.length = k := by
        have e := congrArg List.length hL.out
        rw [zens_len, List.length_take, hn.out] at e
        omega
      obtain ⟨m, hm'⟩ : ∃ m, Hid (L.length = m) := ⟨_, Lib.hid rfl⟩
      rw [hm'.out] at hPr hLl
      have hW := Lib.hid B.size
      clear hrow hO B ic hlook a0 a1 hal
      go_wp2_with (at_builtin; refine wpList_append_own_at _ rfl _ _ 23 rfl w.heap.size 30 i0 (.agg #[.int .i64 0, .int .i64 0, .int .i64 0, .int .i64 0, .int .i64 0, .int .i64 0, .int .i64 0, .int .i64 0, .slice none 0 0]) 9 88 Try.underlying23 hi hz0 hz1 hz2 rfl (by decide) _ m (flatE (zel L)) rfl (hPr.out.alloc _) ⟨w3.heap.size, 0, none⟩ 1 1 [.int .i64 X.id.1, .int .i64 X.id.2, .int .i64 X.bal, .int .i64 X.st, .int .i64 X.k, .int .i64 X.key, .int .i64 X.v, .int .i64 X.seq, .slice va vn vc] rfl rfl ?fc1 ?fc2 ?fc3 ?fc4 ?fc5 ?_)
      case fc1 => exact nine_srcE _ _ _ _ _ _ _ _ _ _ _ _ (by simp)
      case fc2 => exact nine_oneE _ _ _ _ _ _ _ _ _ _ _
      case fc3 => unfold maxLen; omega
      case fc4 => omega
      case fc5 => first | omega | (simp; omega)
      intro v' w' hown' hgrow hnil hat
      have P5 := Lib.hid (P.out.next (x := ⟨X, .slice va vn vc, W.heap.size, w3.heap.size⟩) (by rw [hm'.out, hLl]; exact hown') hgrow (fun e => hnil e) (hat.imp (fun h => h) (fun h => by simpa using h)) hx.out hLq.out)
      have hL5 := Lib.hid (show zens (L ++ [⟨X, .slice va vn vc, W.heap.size, w3.heap.size⟩]) = R.take (k + 1) from by
        rw [zens_app, hL.out, List.take_add_one, List.getElem?_eq_getElem hkR, ← hX.out, List.getD_eq_getElem?_getD, List.getElem?_eq_getElem hkR]; rfl)
      clear hown' hgrow hnil hat hPr hPs hx hLq hm' P hW hL
      go_wp2_with fail
      go_roundw
      case rel => exact ⟨k + 1, _, by omega, by go_num, hL5, P5⟩
      case measure => simp [intOf]; omega
    · obtain rfl : k = n := by omega
      have e : zens L = R := by rw [hL.out, List.take_of_length_le (by rw [hn.out]; exact Nat.le_refl _)]
      have hO := P.out.zr.log (by rw [← zens_len, e, hn.out]; omega)
      rw [e] at hO
      have hO := Lib.hid hO
      have hB := Lib.hid P.out.kp
      clear P hL e
      go_wp2_with fail
      go_ret
      exact ⟨_, rfl, hO.out, hB.out⟩
end Go.Proofs.Ytlipmjbeiiifkaa

/- A range over a log's book: which entries have come. -/
namespace Go.Proofs.Ytlipmjbeiiifkaa
open Go.RowKit
open Go.Maps (Keyed IsMap)
set_option linter.unusedVariables false
set_option maxRecDepth 100000

/-- A range over the book of E, by the iterator r: the entries at the places V have come. -/
def BkR (w : World) (bb r : Nat) (E : List En) (U : Nat → Value) (V : List Nat) (cnt : Nat) : Prop :=
  ∃ (n : Nat) (D : DataW Value) (left : Lit → Bool), w.ranges Try.prog 25 Rv bb r n D left cnt ∧ (∀ a, inR a → Maps.has D (klP a) = (mapE E U E.length a).isSome ∧ ∀ v, mapE E U E.length a = some v → ∀ zd, D.atKey (klP a) zd = .held v) ∧
    (∀ kl, left kl = true → Maps.has D kl = true) ∧ (∀ k, k < E.length → left (klP (E.getD k en0).id) = !decide (k ∈ V)) ∧ ∀ k ∈ V, k < E.length
theorem BkR.left {w : World} {bb r : Nat} {E : List En} {U : Nat → Value} {V : List Nat} {cnt : Nat} (h : BkR w bb r E U V cnt) : w.rangeLeft bb r = cnt := by
  obtain ⟨_, _, _, h, _⟩ := h; exact h.left_eq
theorem BkR.kept {w w' : World} {bb r : Nat} {E : List En} {U : Nat → Value} {V : List Nat} {cnt : Nat} (h : BkR w bb r E U V cnt) (hb : Below w.heap.size w w') : BkR w' bb r E U V cnt := by
  obtain ⟨n, D, left, h1, h2⟩ := h
  exact ⟨n, D, left, h1.kept (row := none) ⟨hb.os, hb.tape, hb.output, hb.size, fun i hi _ => hb.block i hi⟩ (by simp) (by simp), h2⟩
theorem BkR.lt {w : World} {bb r : Nat} {E : List En} {U : Nat → Value} {V : List Nat} {cnt : Nat} (h : BkR w bb r E U V cnt) : r < w.heap.size ∧ bb < w.heap.size ∧ r ≠ bb := by
  obtain ⟨n, D, left, h1, h2⟩ := h
  exact ⟨h1.lt, h1.owns.lt, h1.ne⟩

theorem below_turned {w0 w w' : World} {r : Nat} (h : Below w0.heap.size w0 w) (hg : w.grownBy w' (some r)) (hr : w0.heap.size ≤ r) : Below w0.heap.size w0 w' :=
  h.trans ⟨hg.os, hg.tape, hg.output, hg.size, fun k hk => hg.block k (Nat.lt_of_lt_of_le hk h.size) (fun e => by injection e with e; omega)⟩
theorem below_fresh {w0 w w' : World} (h : Below w0.heap.size w0 w) (hg : w.grownBy w' none) : Below w0.heap.size w0 w' :=
  h.trans ⟨hg.os, hg.tape, hg.output, hg.size, fun k hk => hg.block k (Nat.lt_of_lt_of_le hk h.size) (by simp)⟩
section
variable {w : World} {ops : Array Oper} {rest : List Oper} {o : Oper} {a : Act} {Q : Exit → Act → World → Prop}
/-- 'range b'. -/
theorem bk_range {w : World} (hg : o.guard = none) (m : Operand) (t : TypeId) (hop : o.op = Op.range t m) (e : TypeId) (ht : Try.prog.underlying t = some (.map 25 e)) {bb : Nat} {E : List En} {U : Nat → Value} (hv : logB E = true)
    (hm : a.eval m = .map (some bb)) (h : Book w bb E.length (mapE E U E.length))
    (hK : ∀ w' cnt, BkR w' bb w.heap.size E U [] cnt → w.grownBy w' none → w'.heap.size = w.heap.size + 1 → wpList Try.prog ops Q rest (a.put o.dst (.pointer (some ⟨w.heap.size, 0, none⟩))) w') :
    wpList Try.prog ops Q (o :: rest) a w := by
  obtain ⟨D, h1, h2⟩ := h
  refine wpList_range_own w hg m t hop 25 e id_law ht Rv bb _ D hm h1 fun w' r1 r2 r3 => hK w' _ ⟨_, D, _, r1, h2, fun _ x => x, fun k hk => ?_, fun _ h => nomatch h⟩ r2 r3
  rw [(h2 _ (inR_ok (log_num hv hk))).1, mapE_some (fun j hj hl => log_inj hv hl hk hj) _ (Nat.le_refl _) hk rfl]
  rfl
/-- The loop's step. -/
theorem bk_next {w : World} (hg : o.guard = none) (it : Operand) (hop : o.op = Op.next it false) {bb r : Nat} {E : List En} {U : Nat → Value} (hv : logB E = true) {V : List Nat} {cnt : Nat} (hit : a.eval it = .pointer (some ⟨r, 0, none⟩)) (h : BkR w bb r E U V cnt)
    (hDone : (∀ k, k < E.length → k ∈ V) → wpList Try.prog ops Q rest (a.put o.dst (.tuple #[.bool false])) w)
    (hMore : ∀ (k : Nat) (w' : World) (cnt' : Nat), k < E.length → BkR w' bb r E U (V ++ [k]) cnt' → cnt' < cnt → w.grownBy w' (some r) → w'.heap.size = w.heap.size →
      (Instr.entry (.pointer (some ⟨r, 0, none⟩))).run Try.prog w' = .ok (.tuple #[idv2 (E.getD k en0).id, env (E.getD k en0) (U k)]) w' → wpList Try.prog ops Q rest (a.put o.dst (.tuple #[.bool true, idv2 (E.getD k en0).id, env (E.getD k en0) (U k)])) w') :
    wpList Try.prog ops Q (o :: rest) a w := by
  obtain ⟨n, D, left, h1, h2, h3, h4, h5⟩ := h
  refine wpList_next_ranges (α := Pid) (β := Value) w hg it hop 25 id_law Rv idv2 id (fun key kl hk => by obtain ⟨x, e, _⟩ := key_inv hk; exact ⟨x, e⟩) (fun v y _ => ⟨v, rfl⟩) bb r n D left cnt hit h1 (fun hc hl => hDone fun k hk => ?_) fun x c kl y w' cnt' hkey hlk hRv hat hrg hlt hgr hsz hen => ?_
  · have := h4 k hk
    rw [hl] at this
    by_cases hin : k ∈ V
    · exact hin
    · simp [hin] at this
  · obtain ⟨x', ex, hx⟩ := key_inv hkey
    have exx : x = x' := by
      unfold idv2 at ex
      injection ex with ex
      have e1 := congrArg (fun x : Array Value => x[0]?) ex
      have e2 := congrArg (fun x : Array Value => x[1]?) ex
      simp at e1 e2
      exact Prod.ext e1 e2
    subst exx
    have hkl : kl = klP x := by have := key_of hx; rw [this] at hkey; injection hkey with e; exact e.symm
    subst hkl
    have hh := h3 _ hlk
    rw [(h2 x hx).1] at hh
    rcases mapE_look hv U x with ⟨k, hk, e1, e2⟩ | ⟨e1, e2⟩
    · subst e1
      have hc : c = env (E.getD k en0) (U k) := by
        have h6 := (h2 _ hx).2 _ e2 (.held c)
        rw [hat] at h6
        unfold Rv at hRv
        injection hRv with hRv
        rw [← hRv] at h6
        injection h6 with h6
      subst hc
      refine hMore k w' cnt' hk ⟨n, D, _, hrg, h2, fun kl' hl' => h3 kl' (by simp at hl'; exact hl'.1), fun j hj => ?_, fun j hj => ?_⟩ hlt hgr hsz hen
      · rw [h4 j hj]
        by_cases e : j = k
        · subst e
          rw [WideAt.sameKey_self (kl_key hx)]
          simp
        · have hne : klP (E.getD j en0).id ≠ klP (E.getD k en0).id := fun h => e (log_inj hv hj hk (kl_inj (inR_ok (log_num hv hj)) hx h))
          have hs : (klP (E.getD j en0).id).sameKey (klP (E.getD k en0).id) = false := by
            cases hs : (klP (E.getD j en0).id).sameKey (klP (E.getD k en0).id) with
            | false => rfl
            | true => exact absurd (WideAt.sameKey_eq hs) hne
          rw [hs]
          simp [e]
      · rcases List.mem_append.1 hj with hj | hj
        · exact h5 j hj
        · rw [List.mem_singleton] at hj; rw [hj]; exact hk
    · rw [e2] at hh; cases hh
end
end Go.Proofs.Ytlipmjbeiiifkaa

/- The program's LogPut. -/
namespace Go.Proofs.Ytlipmjbeiiifkaa
open Go.RowKit
set_option linter.unusedVariables false

/-- What LogPut leaves. -/
def LpZ (E : List En) (X : En) (w : World) (e : Ending) (w' : World) : Prop :=
  (∃ v, e = .returned (.tuple #[v, .bool (lputR E X).2]) ∧ LogO w' w.heap.size w'.heap.size v (lputR E X).1) ∧ Below w.heap.size w w'
theorem lpz_fail {E : List En} {X : En} {w w2 : World} (B : Below w.heap.size w w2) (h : lputR E X = ([], false)) : LpZ E X w (.returned (.tuple #[.slice (some ⟨w2.heap.size, 0, none⟩) 0 0, .bool false])) (w2.alloc (.cells #[] 30)) := by
  unfold LpZ
  rw [h]
  exact ⟨⟨_, rfl, by have := LogO.none w2 w.heap.size B.size; simpa using this⟩, B.alloc B.size _⟩
theorem enB_id {X : En} (h : enB X = true) : okP X.id = true := by
  simp only [enB, ndB, En.nd, Bool.and_eq_true] at h
  exact h.1.1
theorem putE_pos (X : En) (E : List En) : 1 ≤ (putE X E).length := List.length_pos_of_mem (mem_putE.2 (.inl rfl))

set_option maxRecDepth 100000 in
set_option maxHeartbeats 4000000 in
theorem ilput_any (u : Value) (E : List En) (X : En) (v : Value) (w : World) (h : Ens w u E) (hv : Ids w v X.deps) :
    Calls Try.prog 7 #[u, env X v] w (LpZ E X w) := by
  obtain ⟨ua0, un0, uc0, rfl⟩ : ∃ ua un uc, v = .slice ua un uc := by obtain ⟨a, c, e, _⟩ := hv; exact ⟨a, _, c, e⟩
  have A0 := Lib.hid (heap_alloc_new w (.cells #[.int .i64 X.id.1, .int .i64 X.id.2, .int .i64 X.bal, .int .i64 X.st, .int .i64 X.k, .int .i64 X.key, .int .i64 X.v, .int .i64 X.seq, .slice ua0 un0 uc0] 30))
  have B0 := Lib.hid ((Below.refl w.heap.size w).alloc (Nat.le_refl _) (.cells #[.int .i64 X.id.1, .int .i64 X.id.2, .int .i64 X.bal, .int .i64 X.st, .int .i64 X.k, .int .i64 X.key, .int .i64 X.v, .int .i64 X.seq, .slice ua0 un0 uc0] 30))
  obtain ⟨U, hU, bk⟩ := ibook_any u E _ (h.up B0.out (Nat.le_refl _))
  have hU := Lib.hid hU
  have nv := fun W (H : Ids W (.slice ua0 un0 uc0) X.deps) => ievalid_any X (.slice ua0 un0 uc0) W H
  have hI := Lib.hid (fun W (hb : Below w.heap.size w W) => hv.up hb (Nat.le_refl _))
  unfold BkPost at bk
  obtain ⟨q, hq⟩ : ∃ q, Hid (logB E = q) := ⟨_, Lib.hid rfl⟩
  obtain ⟨p, hp⟩ : ∃ q, Hid (enB X = q) := ⟨_, Lib.hid rfl⟩
  rw [hq.out] at bk
  rw [hp.out] at nv
  clear h hv
  unfold env at nv ⊢
  go_enter Try.func7, Try.ntmps7
  go_wp2_with fail
  refine bk.mono ?_
  rintro e w1 ⟨⟨hqt, bb, hbb, rfl, hB⟩ | ⟨hqf, rfl⟩, B⟩
  · subst hqt
    have A1 := Lib.hid (bblk B (lt_of_heap A0.out) A0.out)
    have B1 := Lib.hid (bstep B0.out B)
    have hU1 := Lib.hid (fun k (hk : k < E.length) => (hU.out k hk).up B (Nat.le_refl _))
    have hB := Lib.hid hB
    replace hbb : w.heap.size < bb := by simp at hbb; omega
    clear B A0 B0 bk hU
    obtain ⟨⟨y0, y1, y2, y3, y4, y5, y6, y7, y8⟩, _, ys⟩ := nine_all A1.out
    go_wp2_with fail
    refine (nv _ (hI.out _ B1.out)).mono ?_
    rintro e w2 ⟨rfl, B⟩
    have A2 := Lib.hid (bblk B (lt_of_heap A1.out) A1.out)
    have B2 := Lib.hid (bstep B1.out B)
    have hU2 := Lib.hid (fun k (hk : k < E.length) => (hU1.out k hk).up B (Nat.le_refl _))
    replace hB := Lib.hid (hB.out.up B hB.out.lt)
    clear B A1 B1 nv hU1 y0 y1 y2 y3 y4 y5 y6 y7 y8 ys
    cases p
    · have R := Lib.hid (lpz_fail B2.out (lputR_bad2 (E := E) hp.out))
      go_wp2_with fail
      go_ret2
      exact R.out
    · have hlog := Lib.hid (log_of hq.out)
      have hE12 := hlog.out.1
      obtain ⟨w3, hrun, hB3, hg3⟩ := (bkE_log hq.out hB.out hU2.out).put Try.underlying62 (by unfold maxLen; omega) (enB_id hp.out) (hI.out _ B2.out)
      have B3 := Lib.hid (below_turned B2.out hg3 (by omega))
      have hs3 := B3.out.size
      obtain ⟨D, hD, hsz⟩ := book_len hB3.book hB3.keys
      rw [idsE_len] at hsz
      obtain ⟨m, hm⟩ : ∃ m, Hid ((putE X E).length = m) := ⟨_, Lib.hid rfl⟩
      rw [hm.out] at hsz
      have hm1 : 1 ≤ m := by rw [← hm.out]; exact putE_pos X E
      have ent := ientries_any bb _ _ (putE X E) w3 hB3 (by rw [hm.out]; exact hm1)
      rw [hm.out] at ent
      obtain ⟨⟨y0, y1, y2, y3, y4, y5, y6, y7, y8⟩, _, ys⟩ := nine_all A2.out
      unfold idv2 env at hrun
      clear hB3 hB hU2 hI hg3 A2 hlog
      by_cases h12 : m ≤ 12
      · have R := Lib.hid (lputR_good (E := E) hq.out hp.out (by rw [hm.out]; exact h12))
        have hg : ¬ 12 < m := by omega
        replace ent := ent h12
        go_wp2_with (first | (at_len; refine wpList_len_own _ rfl _ 62 rfl 25 30 Try.underlying62 Rv bb _ D rfl hD ?_; rw [hsz]) | fail)
        refine ent.mono ?_
        rintro e w4 ⟨v4, rfl, O4, B⟩
        have O4 := Lib.hid (O4.wide hs3 (Nat.le_refl _) (Nat.le_refl _))
        have B4 := Lib.hid (bstep B3.out B)
        obtain ⟨g4, c4, hv4, _⟩ := O4.out.shape
        subst hv4
        clear B B3 ent hD hrun y0 y1 y2 y3 y4 y5 y6 y7 y8 ys
        go_wp2_with fail
        go_ret2
        rw [LpZ, R.out]
        exact ⟨⟨_, rfl, O4.out⟩, B4.out⟩
      · have R := Lib.hid (lpz_fail B3.out (lputR_long (E := E) (e := X) (by rw [hm.out]; exact h12)))
        have hg : 12 < m := by omega
        clear ent
        go_wp2_with (first | (at_len; refine wpList_len_own _ rfl _ 62 rfl 25 30 Try.underlying62 Rv bb _ D rfl hD ?_; rw [hsz]) | fail)
        go_ret2
        exact R.out
  · subst hqf
    have B1 := Lib.hid (bstep B0.out B)
    have R := Lib.hid (lpz_fail B1.out (lputR_bad (e := X) hq.out))
    clear bk B A0 B0 nv hU hI
    go_wp2_with fail
    go_ret2
    exact R.out
end Go.Proofs.Ytlipmjbeiiifkaa

/- The program's LogFind. -/
namespace Go.Proofs.Ytlipmjbeiiifkaa
open Go.RowKit
set_option linter.unusedVariables false

theorem en_resIf (tm : Array Value) (w : World) (b : Nat) (x0 x1 x2 x3 x4 x5 x6 x7 x8 : Value) (q : Bool) (t : TypeId) (h2 : tm[4]? = some (.pointer (some ⟨b, 0, none⟩))) (h3 : tm[5]? = some (.bool q)) (h : w.heap[b]? = some (.cells #[x0, x1, x2, x3, x4, x5, x6, x7, x8] t (0, 0))) :
    (results Try.f10 tm).run Try.prog w = .ok (.tuple #[.agg #[x0, x1, x2, x3, x4, x5, x6, x7, x8], .bool q]) w := by
  obtain ⟨t0, t1, t2, t3, t4, t5, t6, t7, t8⟩ := nine_cells h
  simp [results, Try.results10, go_sem, h2, h3, t0, t1, t2, t3, t4, t5, t6, t7, t8]

set_option maxRecDepth 100000 in
set_option maxHeartbeats 4000000 in
theorem ilfind_any (u : Value) (E : List En) (x y : Int) (w : World) (h : Ens w u E) (ha : inR (x, y)) :
    Calls Try.prog 10 #[u, .agg #[.int .i64 x, .int .i64 y]] w (LfP E (x, y) w) := by
  have B0 := Lib.hid (((Below.refl w.heap.size w).alloc (Nat.le_refl _) (.cells #[.int .i64 x, .int .i64 y] 25)).alloc (by simp) (.cells #[.int .i64 0, .int .i64 0, .int .i64 0, .int .i64 0, .int .i64 0, .int .i64 0, .int .i64 0, .int .i64 0, .slice none 0 0] 30))
  have A0 := Lib.hid ((Below.heap_alloc _ (.cells #[.int .i64 0, .int .i64 0, .int .i64 0, .int .i64 0, .int .i64 0, .int .i64 0, .int .i64 0, .int .i64 0, .slice none 0 0] 30) _ (by simp)).trans (heap_alloc_new w (.cells #[.int .i64 x, .int .i64 y] 25)))
  have O0 := Lib.hid (heap_alloc_at (w.alloc (.cells #[.int .i64 x, .int .i64 y] 25)) (.cells #[.int .i64 0, .int .i64 0, .int .i64 0, .int .i64 0, .int .i64 0, .int .i64 0, .int .i64 0, .int .i64 0, .slice none 0 0] 30) (w.heap.size + 1) (by simp))
  obtain ⟨U, hU, bk⟩ := ibook_any u E _ (h.up B0.out (Nat.le_refl _))
  have hU := Lib.hid hU
  have hz := Lib.hid (show ∀ W : World, (zeroValue 30).run Try.prog W = .ok (env en0 (.slice none 0 0)) W from fun W => Try.zeroValue30 W)
  unfold BkPost at bk
  have ic := fun (X : En) (ua : Option Addr) (un uc : Nat) (W : World) (H : Ids W (.slice ua un uc) X.deps) => icopy_any X (.slice ua un uc) W H
  obtain ⟨q, hq⟩ : ∃ q, Hid (logB E = q) := ⟨_, Lib.hid rfl⟩
  rw [hq.out] at bk
  clear h
  unfold LfP
  go_enter Try.func10, Try.ntmps10
  go_wp2_with fail
  refine bk.mono ?_
  rintro e w1 ⟨hcase, B⟩
  have A1 := Lib.hid (bblk B (lt_of_heap A0.out) A0.out)
  have O1 := Lib.hid (bblk B (lt_of_heap O0.out) O0.out)
  have B1 := Lib.hid (bstep B0.out B)
  have hU1 := Lib.hid (fun k (hk : k < E.length) => (hU.out k hk).up B (Nat.le_refl _))
  obtain ⟨a0, a1, _, _⟩ := blk2 A1.out
  have hal := lt_of_heap A1.out
  have hol := lt_of_heap O1.out
  -- the entry that comes: what was found, or none
  have key : ∃ (m : Value) (b : Bool) (X : En) (v : Value), e = .returned (.tuple #[m, .bool q]) ∧ (Instr.lookup 62 m (idv2 (x, y)) true).run Try.prog w1 = .ok (.tuple #[env X v, .bool b]) w1 ∧ lfindR E (x, y) = (X, b) ∧ Ids w1 v X.deps := by
    rcases hcase with ⟨hqt, bb, _, rfl, hB⟩ | ⟨hqf, rfl⟩
    · subst hqt
      have hl := hB.look Try.underlying62 (hz.out w1) ha
      rcases mapE_look hq.out U (x, y) with ⟨k, hk, e1, e2⟩ | ⟨e1, e2⟩
      · rw [e2] at hl
        exact ⟨_, _, _, _, rfl, hl, lfindR_some hq.out hk e1, hU1.out k hk⟩
      · rw [e2] at hl
        exact ⟨_, _, _, _, rfl, hl, lfindR_none e1, none, 0, rfl, Nat.zero_le _, Nat.zero_le _, .inl rfl⟩
    · subst hqf
      exact ⟨_, _, _, _, rfl, book_nil Try.underlying62 (hz.out w1) ha, lfindR_bad hq.out _, none, 0, rfl, Nat.zero_le _, Nat.zero_le _, .inl rfl⟩
  obtain ⟨m, b, X, v, rfl, hl, hR, hI⟩ := key
  obtain ⟨va, vn, vc, rfl⟩ : ∃ ua un uc, v = .slice ua un uc := by obtain ⟨a, c, e, _⟩ := hI; exact ⟨a, _, c, e⟩
  unfold idv2 env at hl
  have hR := Lib.hid hR
  have hl := hl
  have B2 := Lib.hid ((Below.refl w1.heap.size w1).alloc (Nat.le_refl _) (.cells #[.int .i64 X.id.1, .int .i64 X.id.2, .int .i64 X.bal, .int .i64 X.st, .int .i64 X.k, .int .i64 X.key, .int .i64 X.v, .int .i64 X.seq, .slice va vn vc] 30))
  have ic2 := ic X va vn vc _ (hI.up B2.out (Nat.le_refl _))
  clear hcase B hU hU1 bk ic hz hI A0 O0 B0
  unfold env at ic2
  obtain ⟨⟨p, r⟩, bal, st, k, key, s5, s, D⟩ := X
  dsimp only at hl ic2 B2
  go_wp2_with fail
  refine ic2.mono ?_
  rintro e w3 ⟨⟨u', rfl, hO⟩, B⟩
  have O3 := Lib.hid (bblk (B2.out.trans (B.mono B2.out.size)) hol O1.out)
  have B3 := Lib.hid (bstep B1.out (B2.out.trans (B.mono B2.out.size)))
  obtain ⟨wa, wn, wc, rfl⟩ : ∃ ua un uc, u' = .slice ua un uc := by obtain ⟨a, c, e, _⟩ := hO.read; exact ⟨a, _, c, e⟩
  have hO := Lib.hid hO
  clear ic2 B a0 a1 hl A1 O1 B1 B2
  obtain ⟨⟨y0, y1, y2, y3, y4, y5, y6, y7, y8⟩, ⟨g0, g1, g2, g3, g4, g5, g6, g7, g8⟩, s1⟩ := nine_all O3.out
  dsimp only
  go_wp2_with fail
  refine bodyPost_ret (en_resIf _ _ _ _ _ _ _ _ _ _ _ _ _ _ rfl rfl (put9_at _ _ _ _ _ _ _ _ _ O3.out)) rfl ?_
  rw [hR.out]
  refine ⟨_, rfl, ?_, B3.out.trans (put9_below _ _ _ _ _ _ _ _ _ (Nat.le_succ _))⟩
  rcases hO.out with h | ⟨b', h1, h2, h3⟩
  · exact .inl h
  · have hb : w.heap.size + 1 < b' := by simp at h1; omega
    exact .inr ⟨b', by omega, by simpa using h2, h3.same (put9_other _ _ _ _ _ _ _ _ _ (by omega))⟩
end Go.Proofs.Ytlipmjbeiiifkaa

/- Entries in boxes: what was found, in which order its box and its list were made. -/
namespace Go.Proofs.Ytlipmjbeiiifkaa
open Go.RowKit
set_option linter.unusedVariables false

/-- An entry in a box. -/
def BxE (w : World) (xb : Nat) (X : En) (u : Value) : Prop := w.heap[xb]? = some (.cells #[.int .i64 X.id.1, .int .i64 X.id.2, .int .i64 X.bal, .int .i64 X.st, .int .i64 X.k, .int .i64 X.key, .int .i64 X.v, .int .i64 X.seq, u] 30 (0, 0))
theorem BxE.up {w w' : World} {xb : Nat} {X : En} {u : Value} (h : BxE w xb X u) (hb : Below w.heap.size w w') : BxE w' xb X u := (hb.block xb (lt_of_heap h)).trans h
theorem BxE.apart {w w' : World} {P : Nat → Prop} {xb : Nat} {X : En} {u : Value} (h : BxE w xb X u) (he : Exc P w w') (hn : ¬ P xb) : BxE w' xb X u := he.at hn h
theorem BxE.cells {w : World} {xb : Nat} {X : En} {u : Value} (h : BxE w xb X u) : (w.cell? ⟨xb, 0, none⟩ = some (.int .i64 X.id.1) ∧ w.cell? ⟨xb, 1, none⟩ = some (.int .i64 X.id.2) ∧ w.cell? ⟨xb, 2, none⟩ = some (.int .i64 X.bal) ∧ w.cell? ⟨xb, 3, none⟩ = some (.int .i64 X.st) ∧ w.cell? ⟨xb, 4, none⟩ = some (.int .i64 X.k) ∧ w.cell? ⟨xb, 5, none⟩ = some (.int .i64 X.key) ∧ w.cell? ⟨xb, 6, none⟩ = some (.int .i64 X.v) ∧ w.cell? ⟨xb, 7, none⟩ = some (.int .i64 X.seq) ∧ w.cell? ⟨xb, 8, none⟩ = some u) ∧ xb < w.heap.size := ⟨nine_cells h, lt_of_heap h⟩
/-- An entry in a box, with its list: neither is touched where the other is. -/
def FxE (w : World) (xb : Nat) (X : En) (u : Value) (B T : Nat) : Prop := BxE w xb X u ∧ OwZ w B T u X.deps ∧ ¬ (B ≤ xb ∧ xb < T)
theorem FxE.up {w w' : World} {xb B T : Nat} {X : En} {u : Value} (h : FxE w xb X u B T) (hb : Below w.heap.size w w') : FxE w' xb X u B T := ⟨h.1.up hb, h.2.1.up hb, h.2.2⟩
theorem FxE.apart {w w' : World} {P : Nat → Prop} {xb B T : Nat} {X : En} {u : Value} (h : FxE w xb X u B T) (he : Exc P w w') (hx : ¬ P xb) (hn : ∀ b, B ≤ b → b < T → ¬ P b) : FxE w' xb X u B T := ⟨h.1.apart he hx, h.2.1.apart he hn, h.2.2⟩
theorem OwZ.put9 {W : World} {B T xb : Nat} {u : Value} {C : List Pid} (h : OwZ W B T u C) (hn : ¬ (B ≤ xb ∧ xb < T)) (x0 x1 x2 x3 x4 x5 x6 x7 x8 : Value) : OwZ (((((((((W.setCell ⟨xb, 0, none⟩ x0).setCell ⟨xb, 1, none⟩ x1).setCell ⟨xb, 2, none⟩ x2).setCell ⟨xb, 3, none⟩ x3).setCell ⟨xb, 4, none⟩ x4).setCell ⟨xb, 5, none⟩ x5).setCell ⟨xb, 6, none⟩ x6).setCell ⟨xb, 7, none⟩ x7).setCell ⟨xb, 8, none⟩ x8) B T u C := by
  rcases h with h | ⟨b, h1, h2, h3⟩
  · exact .inl h
  · exact .inr ⟨b, h1, h2, h3.same (put9_other _ _ _ _ _ _ _ _ _ (fun e => hn (by subst e; exact ⟨h1, h2⟩)))⟩
/-- What a region that finds an entry leaves. -/
def LfQ (X : En) (q : Bool) (w : World) (s s' : Value) (wx : World) : Prop :=
  ∃ xb u B T, s = .pointer (some ⟨xb, 0, none⟩) ∧ s' = .bool q ∧ FxE wx xb X u B T ∧ w.heap.size ≤ xb ∧ w.heap.size ≤ B ∧ T ≤ wx.heap.size ∧ Below w.heap.size w wx
/-- Within the region: its box. -/
structure FE (w0 W : World) (ox : Option Nat) : Prop where
  kp : Below w0.heap.size w0 W
  bx : ∀ b, ox = some b → w0.heap.size ≤ b ∧ W.heap[b]? = some (.cells #[.int .i64 0, .int .i64 0, .int .i64 0, .int .i64 0, .int .i64 0, .int .i64 0, .int .i64 0, .int .i64 0, .slice none 0 0] 30 (0, 0))
theorem FE.start {w0 : World} : FE w0 w0.drew none := ⟨Below.drew (Below.refl _ _), fun _ h => nomatch h⟩
theorem FE.low {w0 W W' : World} {ox : Option Nat} (h : FE w0 W ox) (B : Below W.heap.size W W') : FE w0 W' ox :=
  ⟨bstep h.kp B, fun b e => ⟨(h.bx b e).1, (B.block b (lt_of_heap (h.bx b e).2)).trans (h.bx b e).2⟩⟩
theorem FE.box {w0 W : World} {ox : Option Nat} (h : FE w0 W ox) : FE w0 (W.alloc (.cells #[.int .i64 0, .int .i64 0, .int .i64 0, .int .i64 0, .int .i64 0, .int .i64 0, .int .i64 0, .int .i64 0, .slice none 0 0] 30)) (some W.heap.size) :=
  ⟨h.kp.alloc h.kp.size _, fun b e => by injection e with e; subst e; exact ⟨h.kp.size, heap_alloc_new W _⟩⟩
theorem FE.done {w0 W : World} {xb B T : Nat} {X : En} {q : Bool} {u : Value} (h : FE w0 W (some xb)) (hO : OwZ W B T u X.deps) (h1 : w0.heap.size ≤ B) (h2 : T ≤ W.heap.size) (h3 : ¬ (B ≤ xb ∧ xb < T)) :
    LfQ X q w0 (.pointer (some ⟨xb, 0, none⟩)) (.bool q) (((((((((W.setCell ⟨xb, 0, none⟩ (.int .i64 X.id.1)).setCell ⟨xb, 1, none⟩ (.int .i64 X.id.2)).setCell ⟨xb, 2, none⟩ (.int .i64 X.bal)).setCell ⟨xb, 3, none⟩ (.int .i64 X.st)).setCell ⟨xb, 4, none⟩ (.int .i64 X.k)).setCell ⟨xb, 5, none⟩ (.int .i64 X.key)).setCell ⟨xb, 6, none⟩ (.int .i64 X.v)).setCell ⟨xb, 7, none⟩ (.int .i64 X.seq)).setCell ⟨xb, 8, none⟩ u) := by
  obtain ⟨g1, g2⟩ := h.bx xb rfl
  exact ⟨xb, u, B, T, rfl, rfl, ⟨put9_at _ _ _ _ _ _ _ _ _ g2, hO.put9 h3 _ _ _ _ _ _ _ _ _, h3⟩, g1, h1, by simpa using h2, h.kp.trans (put9_below _ _ _ _ _ _ _ _ _ g1)⟩
end Go.Proofs.Ytlipmjbeiiifkaa

/- A result's marks: plain facts, and what a mark leaves in memory. -/
namespace Go.Proofs.Ytlipmjbeiiifkaa
open Go.RowKit
set_option linter.unusedVariables false

/-- Which mark an entry begins with. -/
def ks (X : Nat → En) (z0 : Int) : Nat → Int
  | 0 => z0
  | k + 1 => ks X z0 k + 8 + 2 * ((X k).deps.length : Int)
theorem ks_range (X : Nat → En) (z0 : Int) : ∀ k, (∀ i, i < k → (X i).deps.length ≤ 12) → z0 ≤ ks X z0 k ∧ ks X z0 k ≤ z0 + 32 * k
  | 0, _ => by simp [ks]
  | k + 1, h => by
    have h1 := ks_range X z0 k (fun i hi => h i (by omega))
    have h2 := h k (Nat.lt_succ_self k)
    simp only [ks]
    omega
/-- An entry that is marked from z on. -/
def MkE1 (z : Int) (x : En) : Prop := x.id = (z, z + 1) ∧ x.bal = z + 1 + 1 ∧ x.st = z + 1 + 1 + 1 ∧ x.k = z + 1 + 1 + 1 + 1 ∧ x.key = z + 1 + 1 + 1 + 1 + 1 ∧ x.v = z + 1 + 1 + 1 + 1 + 1 + 1 ∧ x.seq = z + 1 + 1 + 1 + 1 + 1 + 1 + 1 ∧ MarkedP (z + 1 + 1 + 1 + 1 + 1 + 1 + 1 + 1) x.deps
/-- One entry in place of another. -/
def upX (X : Nat → En) (k : Nat) (x : En) : Nat → En := fun i => if i = k then x else X i
theorem upX_at (X : Nat → En) (k : Nat) (x : En) : upX X k x k = x := if_pos rfl
theorem upX_ne (X : Nat → En) {k i : Nat} (x : En) (h : i ≠ k) : upX X k x i = X i := if_neg h
/-- One number of an entry. -/
def fldX (x : En) (j : Nat) (z : Int) : En :=
  match j with
  | 0 => { x with id := (z, x.id.2) }
  | 1 => { x with id := (x.id.1, z) }
  | 2 => { x with bal := z }
  | 3 => { x with st := z }
  | 4 => { x with k := z }
  | 5 => { x with key := z }
  | 6 => { x with v := z }
  | 7 => { x with seq := z }
  | _ => x
theorem fldX_deps (x : En) (j : Nat) (z : Int) : (fldX x j z).deps = x.deps := by unfold fldX; split <;> rfl
theorem fldX_cells (x : En) (u : Value) {j : Nat} (hj : j < 8) (z : Int) {i : Nat} (hi : i < 9) : (enc9 (fldX x j z) u)[i]? = if i = j then some (.int .i64 z) else (enc9 x u)[i]? := by
  rcases (show j = 0 ∨ j = 1 ∨ j = 2 ∨ j = 3 ∨ j = 4 ∨ j = 5 ∨ j = 6 ∨ j = 7 by omega) with rfl | rfl | rfl | rfl | rfl | rfl | rfl | rfl <;>
  rcases (show i = 0 ∨ i = 1 ∨ i = 2 ∨ i = 3 ∨ i = 4 ∨ i = 5 ∨ i = 6 ∨ i = 7 ∨ i = 8 by omega) with rfl | rfl | rfl | rfl | rfl | rfl | rfl | rfl | rfl <;> rfl
section
variable {w w' : World} {B T g n : Nat} {X : Nat → En} {U : Nat → Value} {P Q : Nat → Nat}
theorem LgAt.set1 (h : LgAt w B T g n X U P Q) {k : Nat} (hk : k < n) {j : Nat} (hj : j < 8) (z : Int) : LgAt (w.setCell ⟨g, k * 9 + j, none⟩ (.int .i64 z)) B T g n (upX X k (fldX (X k) j z)) U P Q := by
  obtain ⟨cur, t, h1, h2, h3⟩ := h.blk
  refine ⟨⟨_, t, heap_setCell_same w g (k * 9 + j) cur t _ h1, by simpa using h2, fun i hi j' hj' => ?_⟩, h.g0, h.g1, by rw [World.size_setCell]; exact h.top, fun i hi => ?_, h.ord⟩
  · rw [Array.getElem?_setIfInBounds]
    by_cases e : i = k
    · subst e
      rw [upX_at, fldX_cells _ _ hj _ hj']
      by_cases e : j' = j
      · subst e
        rw [if_pos rfl, if_pos rfl, if_pos (by omega)]
      · rw [if_neg (by omega), if_neg e]; exact h3 i hi j' hj'
    · rw [upX_ne _ _ e, if_neg (by omega)]; exact h3 i hi j' hj'
  · obtain ⟨a1, a2, a3, a4⟩ := h.deps i hi
    have e : (upX X k (fldX (X k) j z) i).deps = (X i).deps := by
      by_cases e : i = k
      · subst e; rw [upX_at, fldX_deps]
      · rw [upX_ne _ _ e]
    rw [e]
    exact ⟨a1.keep (fun b b1 b2 _ => heap_setCell_other w ⟨g, k * 9 + j, none⟩ b _ (fun e => by subst e; exact a4 b1 b2)), a2, a3, a4⟩
theorem LgAt.congr {X' : Nat → En} (h : LgAt w B T g n X U P Q) (e : ∀ i, X i = X' i) : LgAt w B T g n X' U P Q := by
  have : X = X' := funext e
  rw [← this]; exact h
theorem LgAt.mark8 (h : LgAt w B T g n X U P Q) {k : Nat} (hk : k < n) (z0 z1 z2 z3 z4 z5 z6 z7 : Int) :
    LgAt ((((((((w.setCell ⟨g, k * 9, none⟩ (.int .i64 z0)).setCell ⟨g, k * 9 + 1, none⟩ (.int .i64 z1)).setCell ⟨g, k * 9 + 2, none⟩ (.int .i64 z2)).setCell ⟨g, k * 9 + 3, none⟩ (.int .i64 z3)).setCell ⟨g, k * 9 + 4, none⟩ (.int .i64 z4)).setCell ⟨g, k * 9 + 5, none⟩ (.int .i64 z5)).setCell ⟨g, k * 9 + 6, none⟩ (.int .i64 z6)).setCell ⟨g, k * 9 + 7, none⟩ (.int .i64 z7)) B T g n (upX X k ⟨(z0, z1), z2, z3, z4, z5, z6, z7, (X k).deps⟩) U P Q := by
  have a := (((((((h.set1 hk (j := 0) (by omega) z0).set1 hk (j := 1) (by omega) z1).set1 hk (j := 2) (by omega) z2).set1 hk (j := 3) (by omega) z3).set1 hk (j := 4) (by omega) z4).set1 hk (j := 5) (by omega) z5).set1 hk (j := 6) (by omega) z6).set1 hk (j := 7) (by omega) z7
  rw [Nat.add_zero] at a
  refine a.congr fun i => ?_
  by_cases e : i = k
  · subst e; simp only [upX_at]; rfl
  · simp only [upX_ne _ _ e]
theorem LgAt.markD (h : LgAt w B T g n X U P Q) {k : Nat} (hk : k < n) {M : List Pid} (hM : OwZ w' (P k) (Q k) (U k) M) (he : Exc (fun c => P k ≤ c ∧ c < Q k) w w') : LgAt w' B T g n (upX X k { X k with deps := M }) U P Q := by
  obtain ⟨cur, t, h1, h2, h3⟩ := h.blk
  obtain ⟨_, b2, b3, b4⟩ := h.deps k hk
  refine ⟨⟨cur, t, he.at (fun e => b4 e.1 e.2) h1, h2, fun i hi j hj => ?_⟩, h.g0, h.g1, Nat.le_trans h.top he.size, fun i hi => ?_, h.ord⟩
  · by_cases e : i = k
    · subst e; rw [upX_at]; exact h3 i hi j hj
    · rw [upX_ne _ _ e]; exact h3 i hi j hj
  · obtain ⟨a1, a2, a3, a4⟩ := h.deps i hi
    by_cases e : i = k
    · subst e; rw [upX_at]; exact ⟨hM, a2, a3, a4⟩
    · rw [upX_ne _ _ e]
      refine ⟨a1.apart he (fun b c1 c2 => fun c => ?_), a2, a3, a4⟩
      rcases Nat.lt_or_gt_of_ne e with hl | hl
      · have := h.ord i k hl hk; omega
      · have := h.ord k i hl hi; omega
theorem LgAt.cells (h : LgAt w B T g n X U P Q) {k : Nat} (hk : k < n) :
    (w.cell? ⟨g, k * 9, none⟩ = some (.int .i64 (X k).id.1) ∧ w.cell? ⟨g, k * 9 + 1, none⟩ = some (.int .i64 (X k).id.2) ∧ w.cell? ⟨g, k * 9 + 2, none⟩ = some (.int .i64 (X k).bal) ∧ w.cell? ⟨g, k * 9 + 3, none⟩ = some (.int .i64 (X k).st) ∧ w.cell? ⟨g, k * 9 + 4, none⟩ = some (.int .i64 (X k).k) ∧ w.cell? ⟨g, k * 9 + 5, none⟩ = some (.int .i64 (X k).key) ∧ w.cell? ⟨g, k * 9 + 6, none⟩ = some (.int .i64 (X k).v) ∧ w.cell? ⟨g, k * 9 + 7, none⟩ = some (.int .i64 (X k).seq) ∧ w.cell? ⟨g, k * 9 + 8, none⟩ = some (U k)) ∧ ∀ m, w.frozen? ⟨g, m, none⟩ = false := by
  obtain ⟨cur, t, h1, h2, h3⟩ := h.blk
  have c := h3 k hk
  refine ⟨⟨?_, ?_, ?_, ?_, ?_, ?_, ?_, ?_, ?_⟩, fun m => by simp [World.frozen?, h1]⟩ <;> rw [cell_of_cells h1]
  · exact c 0 (by omega)
  · exact c 1 (by omega)
  · exact c 2 (by omega)
  · exact c 3 (by omega)
  · exact c 4 (by omega)
  · exact c 5 (by omega)
  · exact c 6 (by omega)
  · exact c 7 (by omega)
  · exact c 8 (by omega)
theorem LgAt.lt (h : LgAt w B T g n X U P Q) : g < w.heap.size := Nat.lt_of_lt_of_le h.g1 h.top
end
/-- A result that is marked from z0 on. -/
def LgM (w : World) (B T : Nat) (v : Value) (N : List En) (z0 : Int) : Prop := ∃ g cap U P Q X, v = .slice (some ⟨g, 0, none⟩) N.length cap ∧ N.length ≤ cap ∧ LgAt w B T g N.length X U P Q ∧
  ∀ j, j < N.length → (X j).deps.length = (N.getD j en0).deps.length ∧ MkE1 (ks (fun i => N.getD i en0) z0 j) (X j)
theorem LgM.apart {w w' : World} {B T : Nat} {v : Value} {N : List En} {z0 : Int} {D : Nat → Prop} (h : LgM w B T v N z0) (he : Exc D w w') (hn : ∀ b, B ≤ b → b < T → ¬ D b) : LgM w' B T v N z0 := by
  obtain ⟨g, cap, U, P, Q, X, h1, h2, h3, h4⟩ := h
  exact ⟨g, cap, U, P, Q, X, h1, h2, h3.apart he hn, h4⟩
theorem LgM.up {w w' : World} {B T : Nat} {v : Value} {N : List En} {z0 : Int} (h : LgM w B T v N z0) (hb : Below w.heap.size w w') : LgM w' B T v N z0 := h.apart (D := fun _ => False) (Exc.of hb) (fun _ _ _ h => h)
/-- The mark behind a result. -/
def kN (N : List En) (z0 : Int) : Int := ks (fun i => N.getD i en0) z0 N.length
end Go.Proofs.Ytlipmjbeiiifkaa
