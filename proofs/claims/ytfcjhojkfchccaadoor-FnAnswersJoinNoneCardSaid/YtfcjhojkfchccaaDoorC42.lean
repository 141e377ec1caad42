/- Texts laid together. -/
import Derived.Test.YtfcjhojkfchccaaDoorC16
import Derived.Test.YtfcjhojkfchccaaDoorC08
import Derived.Test.YtfcjhojkfchccaaDoorC29
import Derived.Test.YtfcjhojkfchccaaDoorC09
import Derived.Maps.AppendAt
/- Plain facts: the greatest number among some entries of a log. -/
namespace Go.Proofs.YtfcjhojkfchccaaDoor
set_option linter.unusedVariables false

/-- The greatest value of the entries that count, or 0. -/
def topF (f : En → Bool) (v : En → Int) : List En → Int
  | [] => 0
  | x :: r => if f x then max (v x) (topF f v r) else topF f v r
/-- g is the greatest value of the entries that count and have been seen, or 0. -/
structure TopP (E : List En) (S : Nat → Prop) (f : En → Bool) (v : En → Int) (g : Int) : Prop where
  nn : 0 ≤ g
  le : ∀ k, k < E.length → S k → f (E.getD k en0) = true → v (E.getD k en0) ≤ g
  is : g = 0 ∨ ∃ k, k < E.length ∧ S k ∧ f (E.getD k en0) = true ∧ v (E.getD k en0) = g
theorem topF_nn (f : En → Bool) (v : En → Int) : ∀ E : List En, 0 ≤ topF f v E
  | [] => Int.le_refl _
  | x :: r => by have := topF_nn f v r; unfold topF; split <;> omega
theorem topF_le {f : En → Bool} {v : En → Int} : ∀ {E : List En} {x : En}, x ∈ E → f x = true → v x ≤ topF f v E
  | y :: r, x, h, hf => by
    unfold topF
    rcases List.mem_cons.1 h with rfl | h
    · rw [if_pos hf]; omega
    · have := topF_le (v := v) h hf
      split <;> omega
theorem topF_is {f : En → Bool} {v : En → Int} : ∀ {E : List En}, topF f v E = 0 ∨ ∃ x, x ∈ E ∧ f x = true ∧ v x = topF f v E
  | [] => .inl rfl
  | y :: r => by
    unfold topF
    by_cases hf : f y = true
    · rw [if_pos hf]
      by_cases hv : topF f v r ≤ v y
      · exact .inr ⟨y, List.mem_cons_self, hf, by omega⟩
      · rcases topF_is (f := f) (v := v) (E := r) with h | ⟨x, h1, h2, h3⟩
        · left; omega
        · exact .inr ⟨x, List.mem_cons_of_mem _ h1, h2, by omega⟩
    · rw [if_neg hf]
      rcases topF_is (f := f) (v := v) (E := r) with h | ⟨x, h1, h2, h3⟩
      · exact .inl h
      · exact .inr ⟨x, List.mem_cons_of_mem _ h1, h2, h3⟩
theorem TopP.start (E : List En) (S : Nat → Prop) (h : ∀ k, ¬ S k) (f : En → Bool) (v : En → Int) : TopP E S f v 0 := ⟨Int.le_refl _, fun k _ hs => absurd hs (h k), .inl rfl⟩
theorem TopP.hit {E : List En} {S S' : Nat → Prop} {f : En → Bool} {v : En → Int} {g : Int} (h : TopP E S f v g) {k : Nat} (hk : k < E.length) (hS : ∀ j, S' j ↔ S j ∨ j = k) (hf : f (E.getD k en0) = true) : TopP E S' f v (max g (v (E.getD k en0))) := by
  refine ⟨by have := h.nn; omega, fun j hj hs hfj => ?_, ?_⟩
  · rcases (hS j).1 hs with hs | rfl
    · have := h.le j hj hs hfj; omega
    · omega
  · by_cases hv : v (E.getD k en0) ≤ g
    · rw [Int.max_eq_left hv]
      rcases h.is with h | ⟨j, h1, h2, h3⟩
      · exact .inl h
      · exact .inr ⟨j, h1, (hS j).2 (.inl h2), h3⟩
    · rw [Int.max_eq_right (by omega)]
      exact .inr ⟨k, hk, (hS k).2 (.inr rfl), hf, rfl⟩
theorem TopP.miss {E : List En} {S S' : Nat → Prop} {f : En → Bool} {v : En → Int} {g : Int} (h : TopP E S f v g) {k : Nat} (hS : ∀ j, S' j ↔ S j ∨ j = k) (hf : f (E.getD k en0) = false) : TopP E S' f v g := by
  refine ⟨h.nn, fun j hj hs hfj => ?_, ?_⟩
  · rcases (hS j).1 hs with hs | rfl
    · exact h.le j hj hs hfj
    · rw [hf] at hfj; cases hfj
  · rcases h.is with h | ⟨j, h1, h2, h3⟩
    · exact .inl h
    · exact .inr ⟨j, h1, (hS j).2 (.inl h2), h3⟩
theorem TopP.done {E : List En} {S : Nat → Prop} {f : En → Bool} {v : En → Int} {g : Int} (h : TopP E S f v g) (hS : ∀ k, k < E.length → S k) : g = topF f v E := by
  have h0 := topF_nn f v E
  have h1 : g ≤ topF f v E := by
    rcases h.is with h | ⟨k, h1, h2, h3, h4⟩
    · omega
    · rw [← h4]; exact topF_le (enD_mem h1) h3
  have h2 : topF f v E ≤ g := by
    rcases topF_is (f := f) (v := v) (E := E) with e | ⟨x, e1, e2, e3⟩
    · have := h.nn; omega
    · obtain ⟨k, hk, rfl⟩ := mem_enD e1
      rw [← e3]; exact h.le k hk (hS k hk) e2
  omega
theorem TopP.bound {E : List En} {S : Nat → Prop} {f : En → Bool} {v : En → Int} {g : Int} (h : TopP E S f v g) {N : Int} (h0 : 0 ≤ N) (hN : ∀ k, k < E.length → v (E.getD k en0) ≤ N) : g ≤ N := by
  rcases h.is with h | ⟨k, h1, _, _, h4⟩
  · omega
  · rw [← h4]; exact hN k h1
/-- The entries of a replica. -/
def ofR (p : Int) (x : En) : Bool := decide (x.id.1 = p)
/-- What NextNumber answers. -/
def nextR (E : List En) (p : Int) : Int := if logB E = true ∧ (0 ≤ p ∧ p ≤ 4) ∧ topF (ofR p) (fun x => x.id.2) E + 1 ≤ 50 then topF (ofR p) (fun x => x.id.2) E + 1 else -1
theorem nextR_bad {E : List En} {p : Int} (h : logB E = false) : nextR E p = -1 := by unfold nextR; rw [h, if_neg (by simp)]
theorem nextR_bad2 {E : List En} {p : Int} (h : ¬ (0 ≤ p ∧ p ≤ 4)) : nextR E p = -1 := by unfold nextR; rw [if_neg (fun x => h x.2.1)]
theorem nextR_full {E : List En} {p : Int} (h : ¬ topF (ofR p) (fun x => x.id.2) E + 1 ≤ 50) : nextR E p = -1 := by unfold nextR; rw [if_neg (fun x => h x.2.2)]
theorem nextR_good {E : List En} {p : Int} (h1 : logB E = true) (h2 : 0 ≤ p ∧ p ≤ 4) (h3 : topF (ofR p) (fun x => x.id.2) E + 1 ≤ 50) : nextR E p = topF (ofR p) (fun x => x.id.2) E + 1 := by unfold nextR; rw [if_pos ⟨h1, h2, h3⟩]
theorem log_num {E : List En} (h : logB E = true) {k : Nat} (hk : k < E.length) : okP (E.getD k en0).id = true := by
  have := (log_of h).2.1 _ (enD_mem hk)
  simp only [enB, ndB, En.nd, Bool.and_eq_true] at this
  exact this.1.1
theorem log_rank {E : List En} (h : logB E = true) {k : Nat} (hk : k < E.length) : 1 ≤ (E.getD k en0).seq ∧ (E.getD k en0).seq ≤ 99 := by
  have := (log_of h).2.1 _ (enD_mem hk)
  simp only [enB, ndB, En.nd, Bool.and_eq_true, decide_eq_true_eq] at this
  exact of_decide_eq_true (by simpa using this.1.2.1)
end Go.Proofs.YtfcjhojkfchccaaDoor

/- Rows of entries that were copied: parts of a log, side by side. -/
namespace Go.Proofs.YtfcjhojkfchccaaDoor
open Go.RowKit
set_option linter.unusedVariables false

/-- Some entries side by side, with their lists. -/
def elr (E : List En) (U : Nat → Value) (a m : Nat) : EL := (List.range' a m).map fun i => (E.getD i en0, U i)
theorem elr_len (E : List En) (U : Nat → Value) (a m : Nat) : (elr E U a m).length = m := by simp [elr]
theorem elr_get {E : List En} {U : Nat → Value} {a m i : Nat} (hi : i < m) : (elr E U a m).getD i ez = (E.getD (a + i) en0, U (a + i)) := by
  unfold elr
  rw [List.getD_eq_getElem?_getD, List.getElem?_map, List.getElem?_eq_getElem (by simpa using hi), List.getElem_range']
  simp
theorem elr_fst {E : List En} {U : Nat → Value} {a m : Nat} (h : a + m ≤ E.length) : (elr E U a m).map Prod.fst = (E.drop a).take m := by
  refine List.ext_getElem (by simp [elr]; omega) fun i h1 h2 => ?_
  simp only [List.length_map, elr_len] at h1
  have hl : i < (elr E U a m).length := by rw [elr_len]; exact h1
  have e := elr_get (E := E) (U := U) (a := a) h1
  rw [List.getD_eq_getElem?_getD, List.getElem?_eq_getElem hl] at e
  simp only [Option.getD_some] at e
  rw [List.getElem_map, e, List.getElem_take, List.getElem_drop, List.getD_eq_getElem?_getD, List.getElem?_eq_getElem (by omega)]
  rfl
theorem elr_src {w : World} {g off : Nat} {E : List En} {U : Nat → Value} (h : EnsAt w g off E U) (a m : Nat) (ham : a + m ≤ E.length) : ∀ j u, (flatE (elr E U a m))[j]? = some u → w.cell? ((⟨g, off + a * 9, none⟩ : Addr).add j) = some u := by
  intro j u hu
  have hj : j < m * 9 := by
    have := (List.getElem?_eq_some_iff.1 hu).1
    rw [flatE_len, elr_len] at this; exact this
  have e : j / 9 * 9 + j % 9 = j := by omega
  have hi : j / 9 < (elr E U a m).length := by rw [elr_len]; omega
  have hg := flatE_get (elr E U a m) (j / 9) (j % 9) hi (by omega)
  rw [e, hu, elr_get (by omega)] at hg
  have hP := h.at_ (a + j / 9) (by omega)
  rw [Addr.add_lit]
  have key : ∀ r, j % 9 = r → off + a * 9 + j = off + (a + j / 9) * 9 + r := fun r hr => by omega
  rcases (show j % 9 = 0 ∨ j % 9 = 1 ∨ j % 9 = 2 ∨ j % 9 = 3 ∨ j % 9 = 4 ∨ j % 9 = 5 ∨ j % 9 = 6 ∨ j % 9 = 7 ∨ j % 9 = 8 by omega) with r | r | r | r | r | r | r | r | r <;> rw [key _ r] <;> rw [r] at hg <;> simp only [ecell, enc9, List.getElem?_cons_zero, List.getElem?_cons_succ] at hg <;> rw [hg]
  · exact hP.c0
  · exact hP.c1
  · exact hP.c2
  · exact hP.c3
  · exact hP.c4
  · exact hP.c5
  · exact hP.c6
  · exact hP.c7
  · exact hP.c8
theorem flatE_one : ∀ (L : EL), (∀ x ∈ L, ∃ a n c, x.2 = .slice a n c) → ∀ u ∈ flatE L, u.oneCell' = true
  | [], _, u, hu => by simp [flatE] at hu
  | x :: r, h, u, hu => by
    rw [flatE, List.mem_append] at hu
    rcases hu with hu | hu
    · obtain ⟨a, n, c, e⟩ := h x List.mem_cons_self
      simp only [ecell, enc9, e, List.mem_cons, List.not_mem_nil, or_false] at hu
      rcases hu with rfl | rfl | rfl | rfl | rfl | rfl | rfl | rfl | rfl <;> rfl
    · exact flatE_one r (fun y hy => h y (List.mem_cons_of_mem _ hy)) u hu
theorem elr_mem {E : List En} {U : Nat → Value} {a m : Nat} {x : En × Value} (h : x ∈ elr E U a m) : ∃ i, a ≤ i ∧ i < a + m ∧ x = (E.getD i en0, U i) := by
  unfold elr at h
  rw [List.mem_map] at h
  obtain ⟨i, hi, rfl⟩ := h
  rw [List.mem_range'] at hi
  obtain ⟨j, h1, h2⟩ := hi
  exact ⟨i, by omega, by omega, rfl⟩
theorem elr_one {w : World} {g off : Nat} {E : List En} {U : Nat → Value} (h : EnsAt w g off E U) (a m : Nat) (ham : a + m ≤ E.length) : ∀ u ∈ flatE (elr E U a m), u.oneCell' = true :=
  flatE_one _ fun x hx => by
    obtain ⟨i, _, hi, rfl⟩ := elr_mem hx
    obtain ⟨a', c, e, _⟩ := (h.at_ i (by omega)).ids
    exact ⟨a', _, c, e⟩
/-- Such a row, read as entries. -/
theorem ens_row {w : World} {B : Nat} {v : Value} {L : EL} (h : w.ownsRow B 29 9 v L.length (flatE L)) (hn : v ≠ .slice none 0 0) (hI : ∀ x ∈ L, Ids w x.2 x.1.deps) (hl : L.length ≤ 2000000) : Ens w v (L.map Prod.fst) := by
  rcases h.2 with ⟨rfl, _⟩ | ⟨g, cap, cur, rfl, hb, hg, hc, hm, hs, ht⟩
  · exact absurd rfl hn
  · refine ⟨_, cap, by rw [List.length_map], by rw [List.length_map]; exact hc, by rw [List.length_map]; exact hl, .inr ⟨g, 0, fun i => (L.getD i ez).2, rfl, lt_of_heap hg, fun i hi => ?_⟩⟩
    rw [List.length_map] at hi
    rw [fstE_getD hi]
    have hx : L.getD i ez ∈ L := by rw [List.getD_eq_getElem?_getD, List.getElem?_eq_getElem hi]; exact List.getElem_mem hi
    exact enc_at hg (fun j hj => by rw [show (enc9 (L.getD i ez).1 (L.getD i ez).2)[j]? = (ecell (L.getD i ez))[j]? from rfl, ← flatE_get L i j hi hj, ← ht, List.getElem?_take, if_pos (by omega)]; simp) (hI _ hx)
theorem grown_of {w w' : World} {B : Nat} {e : TypeId} {size : Nat} {v : Value} {n : Nat} {xs : List Value} (h : w.ownsRow B e size v n xs) (hg : w.grownBy w' (Value.ownBlock v)) (hB : B ≤ w.heap.size) : Below B w w' :=
  ⟨hg.os, hg.tape, hg.output, hg.size, fun k hk => hg.block k (by omega) (fun e => absurd (rowT h e.symm).2 (by omega))⟩
/-- Two parts of a log. -/
theorem ens_two {w : World} {B g off : Nat} {v : Value} {E : List En} {U : Nat → Value} {a m b k : Nat} (hA : EnsAt w g off E U) (h1 : a + m ≤ E.length) (h2 : b + k ≤ E.length) (h : w.ownsRow B 29 9 v (m + k) (flatE (elr E U a m) ++ flatE (elr E U b k))) (hn : v ≠ .slice none 0 0) (hl : m + k ≤ 2000000) :
    Ens w v ((E.drop a).take m ++ (E.drop b).take k) := by
  rw [← elr_fst (U := U) h1, ← elr_fst (U := U) h2, ← List.map_append]
  refine ens_row (B := B) (by rw [List.length_append, elr_len, elr_len, flatE_app]; exact h) hn (fun x hx => ?_) (by rw [List.length_append, elr_len, elr_len]; exact hl)
  rcases List.mem_append.1 hx with hx | hx
  · obtain ⟨i, _, hi, rfl⟩ := elr_mem hx
    exact (hA.at_ i (by omega)).ids
  · obtain ⟨i, _, hi, rfl⟩ := elr_mem hx
    exact (hA.at_ i (by omega)).ids
theorem log_cut {E : List En} (h : logB E = true) (k : Nat) : logB ((E.drop 0).take k ++ (E.drop (k + 1)).take (E.length - (k + 1))) = true := by
  have e : (E.drop 0).take k ++ (E.drop (k + 1)).take (E.length - (k + 1)) = E.eraseIdx k := by
    rw [List.drop_zero, List.take_of_length_le (l := E.drop (k + 1)) (by rw [List.length_drop]; exact Nat.le_refl _), List.eraseIdx_eq_take_drop_succ]
  rw [e]
  obtain ⟨h1, h2, h3⟩ := log_of h
  have hs := List.eraseIdx_sublist E k
  exact log_to (Nat.le_trans hs.length_le h1) (fun x hx => h2 x (hs.subset hx)) (List.Pairwise.sublist (hs.map En.id) h3)
theorem log_dup {E : List En} {k : Nat} (hk : k < E.length) : logB ((E.drop 0).take (k + 1) ++ (E.drop k).take (E.length - k)) = false := by
  rw [List.drop_zero, List.take_of_length_le (l := E.drop k) (by rw [List.length_drop]; exact Nat.le_refl _)]
  have l1 : (E.take (k + 1)).length = k + 1 := by rw [List.length_take]; omega
  have g1 : (E.take (k + 1) ++ E.drop k).getD k en0 = E.getD k en0 := by
    rw [List.getD_eq_getElem?_getD, List.getElem?_append_left (by omega), List.getElem?_take, if_pos (by omega), ← List.getD_eq_getElem?_getD]
  have g2 : (E.take (k + 1) ++ E.drop k).getD (k + 1) en0 = E.getD k en0 := by
    rw [List.getD_eq_getElem?_getD, List.getElem?_append_right (by omega), l1, Nat.sub_self, List.getElem?_drop, Nat.add_zero, ← List.getD_eq_getElem?_getD]
  exact log_turn (k := k) (by rw [List.length_append, l1, List.length_drop]; omega) (by rw [g1, g2, ltP_irr])
end Go.Proofs.YtfcjhojkfchccaaDoor

/- A row of entries, a copy of one and a box, made in any order. -/
namespace Go.Proofs.YtfcjhojkfchccaaDoor
open Go.RowKit
set_option linter.unusedVariables false

/-- An append, where its arguments stand, and whose block it is. -/
theorem wp_append_atJ {P : Program} {w : World} {o : Oper} {a : Act} {K : Act → World → Prop} {Q : Exit → Act → World → Prop} (s x : Operand) (t : TypeId)
    (ho : o.op = .call { callee := .builtin .append, args := #[s, x], argTypes := #[t, t] })
    (base : Nat) (e : TypeId) (i : TypeInfo) (z : Value) (size bytes : Nat) (ht : P.underlying t = some (.slice e)) (hi : P.info? e = some i) (hz : i.zero = some z)
    (hsize : i.size = size) (hby : i.bytes = bytes) (hzs : z.cells.size = size) (hsz : 0 < size)
    (v : Value) (n : Nat) (xs : List Value) (hs : a.eval s = v) (hown : w.ownsRow base e size v n xs)
    (ad : Addr) (m c : Nat) (news : List Value) (hx : a.eval x = .slice (some ad) m c) (hl : news.length = m * size) (hnews : ∀ j u, news[j]? = some u → w.cell? (ad.add j) = some u) (h1 : ∀ u ∈ news, u.oneCell' = true)
    (h63 : n + m ≤ maxLen) (hbytes : (n + m) * bytes ≤ 140737488355328) (hbase : base ≤ w.heap.size)
    (h : ∀ v' w', w'.ownsRow base e size v' (n + m) (xs ++ news) → w.grownBy w' v.ownBlock → (v' = .slice none 0 0 ↔ v = .slice none 0 0 ∧ m = 0) → (v'.ownBlock = v.ownBlock ∨ v'.ownBlock = some w.heap.size) → K (a.put o.dst v') w') : o.wp P a w K Q := by
  obtain ⟨v', w', hr, h2, h3, h4, h5⟩ := run_append_own_at (P := P) w base t o.type e i z size bytes ht hi hz hsize hby hzs hsz v n xs hown ad m c news hl hnews h1 h63 hbytes hbase
  unfold Oper.wp execOp
  simp only [ho, resolve, invoke, builtin, Sem.run_bind, Sem.run_pure, Result.andThen_ok, List.map_toArray, List.map_cons, List.map_nil, hs, hx, hr]
  exact h v' w' h2 h3 h4 h5
/-- What has been made so far: a copy of an entry, a box of nothing, a row. -/
structure NnS (w W : World) (Y : En) (u : Value) (o5 o11 : Option Nat) (ov : Option (Value × EL)) : Prop where
  kp : Below w.heap.size w W
  five : ∀ g, o5 = some g → W.heap[g]? = some (.cells #[.int .i64 Y.id.1, .int .i64 Y.id.2, .int .i64 Y.bal, .int .i64 Y.st, .int .i64 Y.k, .int .i64 Y.key, .int .i64 Y.v, .int .i64 Y.seq, u] 29 (0, 0)) ∧ w.heap.size ≤ g
  elev : ∀ g, o11 = some g → W.heap[g]? = some (.cells #[.int .i64 0, .int .i64 0, .int .i64 0, .int .i64 0, .int .i64 0, .int .i64 0, .int .i64 0, .int .i64 0, .slice none 0 0] 29 (0, 0)) ∧ w.heap.size ≤ g
  row : ∀ v L, ov = some (v, L) → W.ownsRow w.heap.size 29 9 v L.length (flatE L) ∧ v ≠ .slice none 0 0 ∧ (∀ g, o5 = some g → v.ownBlock ≠ some g) ∧ (∀ g, o11 = some g → v.ownBlock ≠ some g)
section
variable {w W W' : World} {Y : En} {u : Value} {o5 o11 : Option Nat} {ov : Option (Value × EL)}
theorem NnS.start (w : World) (Y : En) (u : Value) : NnS w w Y u none none none := ⟨Below.refl _ _, (fun _ h => nomatch h), (fun _ h => nomatch h), (fun _ _ h => nomatch h)⟩
theorem NnS.low (h : NnS w W Y u o5 o11 ov) (hb : Below W.heap.size W W') : NnS w W' Y u o5 o11 ov :=
  ⟨bstep h.kp hb, fun g e => ⟨(hb.block g (lt_of_heap (h.five g e).1)).trans (h.five g e).1, (h.five g e).2⟩, fun g e => ⟨(hb.block g (lt_of_heap (h.elev g e).1)).trans (h.elev g e).1, (h.elev g e).2⟩, fun v L e => ⟨rowSame (h.row v L e).1 fun k hk => hb.block k (rowT (h.row v L e).1 hk).1.lt, (h.row v L e).2⟩⟩
theorem NnS.list (h : NnS w W Y u o5 o11 none) : NnS w (W.alloc (.cells #[] 29)) Y u o5 o11 (some (.slice (some ⟨W.heap.size, 0, none⟩) 0 0, [])) := by
  have h2 := h.low ((Below.refl W.heap.size W).alloc (Nat.le_refl _) (.cells #[] 29))
  refine ⟨h2.kp, h2.five, h2.elev, fun v L e => ?_⟩
  injection e with e
  injection e with e1 e2
  subst e1 e2
  refine ⟨(er_new W w.heap.size h.kp.size).row, by simp, fun g e g2 => ?_, fun g e g2 => ?_⟩
  · have := lt_of_heap (h.five g e).1; have g3 : W.heap.size = g := by simpa [Value.ownBlock] using g2
    omega
  · have := lt_of_heap (h.elev g e).1; have g3 : W.heap.size = g := by simpa [Value.ownBlock] using g2
    omega
theorem NnS.copy (h : NnS w W Y u none o11 ov) : NnS w (W.alloc (.cells #[.int .i64 Y.id.1, .int .i64 Y.id.2, .int .i64 Y.bal, .int .i64 Y.st, .int .i64 Y.k, .int .i64 Y.key, .int .i64 Y.v, .int .i64 Y.seq, u] 29)) Y u (some W.heap.size) o11 ov := by
  have h2 := h.low ((Below.refl W.heap.size W).alloc (Nat.le_refl _) (.cells #[.int .i64 Y.id.1, .int .i64 Y.id.2, .int .i64 Y.bal, .int .i64 Y.st, .int .i64 Y.k, .int .i64 Y.key, .int .i64 Y.v, .int .i64 Y.seq, u] 29))
  refine ⟨h2.kp, fun g e => ?_, h2.elev, fun v L e => ⟨(h2.row v L e).1, (h2.row v L e).2.1, fun g e2 g2 => ?_, (h2.row v L e).2.2.2⟩⟩
  · injection e with e; subst e; exact ⟨heap_alloc_new _ _, h.kp.size⟩
  · injection e2 with e2; subst e2; have := (rowT (h.row v L e).1 g2).1.lt; omega
theorem NnS.box (h : NnS w W Y u o5 none ov) : NnS w (W.alloc (.cells #[.int .i64 0, .int .i64 0, .int .i64 0, .int .i64 0, .int .i64 0, .int .i64 0, .int .i64 0, .int .i64 0, .slice none 0 0] 29)) Y u o5 (some W.heap.size) ov := by
  have h2 := h.low ((Below.refl W.heap.size W).alloc (Nat.le_refl _) (.cells #[.int .i64 0, .int .i64 0, .int .i64 0, .int .i64 0, .int .i64 0, .int .i64 0, .int .i64 0, .int .i64 0, .slice none 0 0] 29))
  refine ⟨h2.kp, h2.five, fun g e => ?_, fun v L e => ⟨(h2.row v L e).1, (h2.row v L e).2.1, (h2.row v L e).2.2.1, fun g e2 g2 => ?_⟩⟩
  · injection e with e; subst e; exact ⟨heap_alloc_new _ _, h.kp.size⟩
  · injection e2 with e2; subst e2; have := (rowT (h.row v L e).1 g2).1.lt; omega
theorem NnS.app {v v' : Value} {L L2 : EL} {m : Nat} (h : NnS w W Y u o5 o11 (some (v, L))) (hm : L2.length = m) (hown : W'.ownsRow w.heap.size 29 9 v' (L.length + m) (flatE L ++ flatE L2)) (hg : W.grownBy W' (Value.ownBlock v)) (hn : v' = .slice none 0 0 ↔ v = .slice none 0 0 ∧ m = 0)
    (hat : v'.ownBlock = v.ownBlock ∨ v'.ownBlock = some W.heap.size) : NnS w W' Y u o5 o11 (some (v', L ++ L2)) := by
  obtain ⟨r1, r2, r3, r4⟩ := h.row v L rfl
  refine ⟨h.kp.trans (grown_of r1 hg h.kp.size), fun g e => ⟨(hg.block g (lt_of_heap (h.five g e).1) (fun x => r3 g e x.symm)).trans (h.five g e).1, (h.five g e).2⟩, fun g e => ⟨(hg.block g (lt_of_heap (h.elev g e).1) (fun x => r4 g e x.symm)).trans (h.elev g e).1, (h.elev g e).2⟩, fun v2 L3 e => ?_⟩
  injection e with e
  injection e with e1 e2
  subst e1 e2
  refine ⟨by rw [flatE_app, List.length_append, hm]; exact hown, fun x => r2 (hn.1 x).1, fun g e x => ?_, fun g e x => ?_⟩
  · rcases hat with hat | hat
    · exact r3 g e (hat ▸ x)
    · rw [hat] at x; injection x with x; have := lt_of_heap (h.five g e).1; omega
  · rcases hat with hat | hat
    · exact r4 g e (hat ▸ x)
    · rw [hat] at x; injection x with x; have := lt_of_heap (h.elev g e).1; omega
end
theorem nn_src {w : World} {g : Nat} {t : TypeId} {x0 x1 x2 x3 x4 x5 x6 x7 x8 : Value} (h : w.heap[g]? = some (.cells #[x0, x1, x2, x3, x4, x5, x6, x7, x8] t (0, 0))) : ∀ j v, [x0, x1, x2, x3, x4, x5, x6, x7, x8][j]? = some v → w.cell? ((⟨g, 0, none⟩ : Addr).add j) = some v := by
  intro j v hj
  rw [Addr.add_lit, Nat.zero_add, cell_of_cells h]
  simpa using hj
theorem nn_slice {w : World} {B : Nat} {v : Value} {n : Nat} {xs : List Value} (h : w.ownsRow B 29 9 v n xs) (hn : v ≠ .slice none 0 0) : ∃ g c, v = .slice (some ⟨g, 0, none⟩) n c := by
  rcases h.2 with ⟨rfl, _⟩ | ⟨g, cap, cur, rfl, _⟩
  · exact absurd rfl hn
  · exact ⟨g, cap, rfl⟩
theorem nn_ens {w W : World} {g l : Nat} {E : List En} {U : Nat → Value} {Y : En} {u v : Value} {o5 o11 : Option Nat} (hA : EnsAt w g 0 E U) (hI : Ids w u Y.deps) (h : NnS w W Y u o5 o11 (some (v, ([] ++ elr E U 0 l) ++ [(Y, u)]))) (hl : E.length = l) (hl2 : l ≤ 1000) : Ens W v (E ++ [Y]) := by
  obtain ⟨r1, r2, _⟩ := h.row _ _ rfl
  have hL : (([] ++ elr E U 0 l) ++ [(Y, u)]).map Prod.fst = E ++ [Y] := by
    rw [List.map_append, List.nil_append, elr_fst (by omega), List.drop_zero, List.take_of_length_le (by omega)]; rfl
  rw [← hL]
  refine ens_row r1 r2 (fun x hx => ?_) (by rw [List.length_append, List.nil_append, elr_len]; simp; omega)
  rcases List.mem_append.1 hx with hx | hx
  · rw [List.nil_append] at hx
    obtain ⟨i, _, hi, rfl⟩ := elr_mem hx
    exact ((hA.up h.kp (Nat.le_refl _)).at_ i (by omega)).ids
  · rw [List.mem_singleton] at hx
    rw [hx]
    exact hI.up h.kp (Nat.le_refl _)
theorem nn_put9 {w : World} {B T xb : Nat} {u : Value} {C : List Pid} (x0 x1 x2 x3 x4 x5 x6 x7 x8 : Value) (h : OwZ w B T u C) (hx : ¬ (B ≤ xb ∧ xb < T)) : Ids (((((((((w.setCell ⟨xb, 0, none⟩ x0).setCell ⟨xb, 1, none⟩ x1).setCell ⟨xb, 2, none⟩ x2).setCell ⟨xb, 3, none⟩ x3).setCell ⟨xb, 4, none⟩ x4).setCell ⟨xb, 5, none⟩ x5).setCell ⟨xb, 6, none⟩ x6).setCell ⟨xb, 7, none⟩ x7).setCell ⟨xb, 8, none⟩ x8) u C := by
  rcases h with ⟨rfl, a, c, rfl⟩ | ⟨b, h1, h2, h3⟩
  · exact ⟨a, c, rfl, Nat.zero_le _, Nat.zero_le _, .inl rfl⟩
  · exact (h3.same (put9_other _ _ _ _ _ _ _ _ _ (fun e => hx (by omega)))).read
end Go.Proofs.YtfcjhojkfchccaaDoor
