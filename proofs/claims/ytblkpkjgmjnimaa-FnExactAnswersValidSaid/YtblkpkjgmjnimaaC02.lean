/- Texts laid together. -/
import Derived.Test.YtblkpkjgmjnimaaC01
import Derived.Test.YtblkpkjgmjnimaaC03
import Derived.Test.YtblkpkjgmjnimaaC09
import Derived.Test.YtblkpkjgmjnimaaC05
/- Slices of nodes: read. -/
namespace Go.Proofs.Ytblkpkjgmjnimaa
open Go.RowKit
set_option linter.unusedVariables false

theorem four_cells {w : World} {b : Nat} {x y z u : Value} {t : TypeId} (h : w.heap[b]? = some (.cells #[x, y, z, u] t (0, 0))) :
    w.cell? ⟨b, 0, none⟩ = some x ∧ w.cell? ⟨b, 1, none⟩ = some y ∧ w.cell? ⟨b, 2, none⟩ = some z ∧ w.cell? ⟨b, 3, none⟩ = some u := by
  simp [World.cell?, h]

/-- A node as a value. -/
def ndv (x : Nd) (u : Value) : Value := .agg #[.int .i64 x.id.1, .int .i64 x.id.2, .int .i64 x.seq, u]
/-- A node in memory, from a cell on. -/
def NdIn (w : World) (b o : Nat) (x : Nd) : Prop := ∃ (ua : Option Addr) (un uc : Nat), w.cell? ⟨b, o, none⟩ = some (.int .i64 x.id.1) ∧ w.cell? ⟨b, o + 1, none⟩ = some (.int .i64 x.id.2) ∧ w.cell? ⟨b, o + 2, none⟩ = some (.int .i64 x.seq) ∧ w.cell? ⟨b, o + 3, none⟩ = some (.slice ua un uc) ∧ Ids w (.slice ua un uc) x.deps
theorem NdIn.up {w w' : World} {b o B : Nat} {x : Nd} (h : NdIn w b o x) (hb : Below B w w') (hB : w.heap.size ≤ B) (hl : b < w.heap.size) : NdIn w' b o x := by
  obtain ⟨ua, un, uc, h0, h1, h2, h3, h4⟩ := h
  have hc : ∀ o, w'.cell? ⟨b, o, none⟩ = w.cell? ⟨b, o, none⟩ := fun o => hb.cell (p := ⟨b, o, none⟩) (Nat.lt_of_lt_of_le hl hB)
  exact ⟨ua, un, uc, by rw [hc]; exact h0, by rw [hc]; exact h1, by rw [hc]; exact h2, by rw [hc]; exact h3, h4.up hb hB⟩
/-- A slice of nodes, readable. -/
def Nds (w : World) (v : Value) (N : List Nd) : Prop :=
  ∃ a cap, v = .slice a N.length cap ∧ N.length ≤ cap ∧ N.length ≤ 2000000 ∧ (N.length = 0 ∨ ∃ b off, a = some ⟨b, off, none⟩ ∧ b < w.heap.size ∧ ∀ i, i < N.length → NdIn w b (off + i * 4) (N.getD i nd0))
theorem Nds.up {w w' : World} {B : Nat} {v : Value} {N : List Nd} (h : Nds w v N) (hb : Below B w w') (hB : w.heap.size ≤ B) : Nds w' v N := by
  obtain ⟨a, cap, rfl, h1, h2, h3⟩ := h
  refine ⟨a, cap, rfl, h1, h2, ?_⟩
  rcases h3 with h3 | ⟨b, off, rfl, h4, h5⟩
  · exact .inl h3
  · exact .inr ⟨b, off, rfl, Nat.lt_of_lt_of_le h4 hb.size, fun i hi => (h5 i hi).up hb hB h4⟩
end Go.Proofs.Ytblkpkjgmjnimaa

/- Entries and logs: plain facts, and how they lie in memory. -/
namespace Go.Proofs.Ytblkpkjgmjnimaa
open Go.RowKit
set_option linter.unusedVariables false

/-- An entry. -/
structure En where
  id : Pid
  bal : Int
  st : Int
  k : Int
  key : Int
  v : Int
  seq : Int
  deps : List Pid
def en0 : En := ⟨nop, 0, 0, 0, 0, 0, 0, []⟩
def En.nd (e : En) : Nd := ⟨e.id, e.seq, e.deps⟩
def idsE (E : List En) : List Pid := E.map En.id
/-- What a valid entry is. -/
def enB (e : En) : Bool := ndB e.nd && (decide (0 ≤ e.bal ∧ e.bal ≤ 999) && (decide (1 ≤ e.st ∧ e.st ≤ 3) && cvB e.k e.key e.v))
/-- What a valid log is. -/
def logB (E : List En) : Bool := decide (E.length ≤ 12) && (E.all enB && ascB (idsE E))
theorem log_of {E : List En} (h : logB E = true) : E.length ≤ 12 ∧ (∀ x ∈ E, enB x = true) ∧ Asc (idsE E) := by
  simp only [logB, Bool.and_eq_true, decide_eq_true_eq] at h
  exact ⟨h.1, List.all_eq_true.1 h.2.1, ascB_asc h.2.2⟩
theorem log_to {E : List En} (h1 : E.length ≤ 12) (h2 : ∀ x ∈ E, enB x = true) (h3 : Asc (idsE E)) : logB E = true := by
  simp only [logB, Bool.and_eq_true, decide_eq_true_eq]
  exact ⟨h1, List.all_eq_true.2 h2, asc_ascB h3⟩
theorem log_no {E : List En} (h : ¬ (E.length ≤ 12 ∧ (∀ x ∈ E, enB x = true) ∧ Asc (idsE E))) : logB E = false := by
  cases e : logB E with
  | false => rfl
  | true => exact absurd (log_of e) h
theorem enD_mem {E : List En} {k : Nat} (hk : k < E.length) : E.getD k en0 ∈ E := by
  rw [List.getD_eq_getElem?_getD, List.getElem?_eq_getElem hk]; exact List.getElem_mem hk
theorem mem_enD {E : List En} {x : En} (h : x ∈ E) : ∃ k, k < E.length ∧ E.getD k en0 = x := by
  obtain ⟨k, hk, e⟩ := List.getElem_of_mem h
  exact ⟨k, hk, by rw [List.getD_eq_getElem?_getD, List.getElem?_eq_getElem hk]; exact e⟩
theorem idsE_len (E : List En) : (idsE E).length = E.length := List.length_map _
theorem idsE_get {E : List En} {k : Nat} (hk : k < E.length) : (idsE E).getD k nop = (E.getD k en0).id := by
  unfold idsE
  rw [List.getD_eq_getElem?_getD, List.getD_eq_getElem?_getD, List.getElem?_map, List.getElem?_eq_getElem hk]; rfl
theorem mem_idsE {E : List En} {a : Pid} : a ∈ idsE E ↔ ∃ k, k < E.length ∧ (E.getD k en0).id = a := by
  unfold idsE
  rw [List.mem_map]
  constructor
  · rintro ⟨x, hx, rfl⟩
    obtain ⟨k, hk, rfl⟩ := mem_enD hx
    exact ⟨k, hk, rfl⟩
  · rintro ⟨k, hk, rfl⟩; exact ⟨_, enD_mem hk, rfl⟩
theorem log_bad {E : List En} {k : Nat} (hk : k < E.length) (h : enB (E.getD k en0) = false) : logB E = false := log_no fun x => by
  have := x.2.1 _ (enD_mem hk); rw [h] at this; cases this
theorem log_turn {E : List En} {k : Nat} (hk : k + 1 < E.length) (h : ltP (E.getD k en0).id (E.getD (k + 1) en0).id = false) : logB E = false := log_no fun x => by
  have := asc_lt x.2.2 (Nat.lt_succ_self k) (by rw [idsE_len]; exact hk)
  rw [idsE_get hk, idsE_get (by omega), h] at this; cases this
theorem log_long {E : List En} (h : ¬ E.length ≤ 12) : logB E = false := log_no fun x => h x.1
theorem log_good {E : List En} (h1 : E.length ≤ 12) (h2 : ∀ k, k < E.length → enB (E.getD k en0) = true) (h3 : ∀ k, k + 1 < E.length → ltP (E.getD k en0).id (E.getD (k + 1) en0).id = true) : logB E = true := by
  refine log_to h1 (fun x hx => ?_) (asc_adj fun i hi => ?_)
  · obtain ⟨k, hk, rfl⟩ := mem_enD hx
    exact h2 k hk
  · rw [idsE_len] at hi
    rw [idsE_get hi, idsE_get (by omega)]; exact h3 i hi
theorem log_inj {E : List En} (h : logB E = true) {i j : Nat} (hi : i < E.length) (hj : j < E.length) (e : (E.getD i en0).id = (E.getD j en0).id) : i = j := by
  have ha := (log_of h).2.2
  rcases Nat.lt_trichotomy i j with hl | hl | hl
  · have := asc_lt ha hl (by rw [idsE_len]; exact hj)
    rw [idsE_get hi, idsE_get hj, e, ltP_irr] at this; cases this
  · exact hl
  · have := asc_lt ha hl (by rw [idsE_len]; exact hi)
    rw [idsE_get hi, idsE_get hj, e, ltP_irr] at this; cases this

theorem nine_cells {w : World} {b : Nat} {x0 x1 x2 x3 x4 x5 x6 x7 x8 : Value} {t : TypeId} (h : w.heap[b]? = some (.cells #[x0, x1, x2, x3, x4, x5, x6, x7, x8] t (0, 0))) :
    w.cell? ⟨b, 0, none⟩ = some x0 ∧ w.cell? ⟨b, 1, none⟩ = some x1 ∧ w.cell? ⟨b, 2, none⟩ = some x2 ∧ w.cell? ⟨b, 3, none⟩ = some x3 ∧ w.cell? ⟨b, 4, none⟩ = some x4 ∧ w.cell? ⟨b, 5, none⟩ = some x5 ∧ w.cell? ⟨b, 6, none⟩ = some x6 ∧ w.cell? ⟨b, 7, none⟩ = some x7 ∧ w.cell? ⟨b, 8, none⟩ = some x8 := by
  simp [World.cell?, h]
theorem nine_free {w : World} {b : Nat} {cur : Array Value} {t : TypeId} (h : w.heap[b]? = some (.cells cur t (0, 0))) (m : Nat) : w.frozen? ⟨b, m, none⟩ = false := by
  simp [World.frozen?, h]

/-- An entry as a value. -/
def env (e : En) (u : Value) : Value := .agg #[.int .i64 e.id.1, .int .i64 e.id.2, .int .i64 e.bal, .int .i64 e.st, .int .i64 e.k, .int .i64 e.key, .int .i64 e.v, .int .i64 e.seq, u]
/-- Its cells. -/
def enc9 (e : En) (u : Value) : List Value := [.int .i64 e.id.1, .int .i64 e.id.2, .int .i64 e.bal, .int .i64 e.st, .int .i64 e.k, .int .i64 e.key, .int .i64 e.v, .int .i64 e.seq, u]
/-- An entry in memory, from a cell on. -/
structure EnAt (w : World) (b o : Nat) (e : En) (u : Value) : Prop where
  c0 : w.cell? ⟨b, o, none⟩ = some (.int .i64 e.id.1)
  c1 : w.cell? ⟨b, o + 1, none⟩ = some (.int .i64 e.id.2)
  c2 : w.cell? ⟨b, o + 2, none⟩ = some (.int .i64 e.bal)
  c3 : w.cell? ⟨b, o + 3, none⟩ = some (.int .i64 e.st)
  c4 : w.cell? ⟨b, o + 4, none⟩ = some (.int .i64 e.k)
  c5 : w.cell? ⟨b, o + 5, none⟩ = some (.int .i64 e.key)
  c6 : w.cell? ⟨b, o + 6, none⟩ = some (.int .i64 e.v)
  c7 : w.cell? ⟨b, o + 7, none⟩ = some (.int .i64 e.seq)
  c8 : w.cell? ⟨b, o + 8, none⟩ = some u
  ids : Ids w u e.deps
theorem EnAt.up {w w' : World} {b o B : Nat} {e : En} {u : Value} (h : EnAt w b o e u) (hb : Below B w w') (hB : w.heap.size ≤ B) (hl : b < w.heap.size) : EnAt w' b o e u := by
  have hc : ∀ o, w'.cell? ⟨b, o, none⟩ = w.cell? ⟨b, o, none⟩ := fun o => hb.cell (p := ⟨b, o, none⟩) (Nat.lt_of_lt_of_le hl hB)
  exact ⟨by rw [hc]; exact h.c0, by rw [hc]; exact h.c1, by rw [hc]; exact h.c2, by rw [hc]; exact h.c3, by rw [hc]; exact h.c4, by rw [hc]; exact h.c5, by rw [hc]; exact h.c6, by rw [hc]; exact h.c7, by rw [hc]; exact h.c8, h.ids.up hb hB⟩
/-- A slice of entries, readable; U: where their lists lie. -/
structure EnsAt (w : World) (g off : Nat) (E : List En) (U : Nat → Value) : Prop where
  lt : g < w.heap.size
  at_ : ∀ i, i < E.length → EnAt w g (off + i * 9) (E.getD i en0) (U i)
theorem EnsAt.up {w w' : World} {g off B : Nat} {E : List En} {U : Nat → Value} (h : EnsAt w g off E U) (hb : Below B w w') (hB : w.heap.size ≤ B) : EnsAt w' g off E U :=
  ⟨Nat.lt_of_lt_of_le h.lt hb.size, fun i hi => (h.at_ i hi).up hb hB h.lt⟩
def Ens (w : World) (v : Value) (E : List En) : Prop :=
  ∃ a cap, v = .slice a E.length cap ∧ E.length ≤ cap ∧ E.length ≤ 2000000 ∧ (E.length = 0 ∨ ∃ b off U, a = some ⟨b, off, none⟩ ∧ EnsAt w b off E U)
theorem Ens.up {w w' : World} {B : Nat} {v : Value} {E : List En} (h : Ens w v E) (hb : Below B w w') (hB : w.heap.size ≤ B) : Ens w' v E := by
  obtain ⟨a, cap, rfl, h1, h2, h3⟩ := h
  refine ⟨a, cap, rfl, h1, h2, ?_⟩
  rcases h3 with h3 | ⟨b, off, U, rfl, h4⟩
  · exact .inl h3
  · exact .inr ⟨b, off, U, rfl, h4.up hb hB⟩
end Go.Proofs.Ytblkpkjgmjnimaa

/- What actOf answers, by kinds. -/
namespace Go.Proofs.Ytblkpkjgmjnimaa
open Go.RowKit
set_option linter.unusedVariables false

theorem cv_r {key : Int} (h1 : 0 ≤ key) (h2 : key ≤ 5) : cvB 0 key 0 = true := by simp [cvB]; omega
theorem cv_p {key v : Int} (h1 : 0 ≤ key) (h2 : key ≤ 5) (h3 : 0 ≤ v) (h4 : v ≤ 99) : cvB 1 key v = true := by simp [cvB]; omega
theorem cv_a {key v : Int} (h1 : 0 ≤ key) (h2 : key ≤ 5) (h3 : 0 ≤ v) (h4 : v ≤ 99) : cvB 2 key v = true := by simp [cvB]; omega
theorem cv_n : cvB 3 0 0 = true := by simp [cvB]
theorem act_r (key : Int) (w : World) (h1 : 0 ≤ key) (h2 : key ≤ 5) :
    Calls Try.prog 51 #[.agg #[.int .i64 0, .int .i64 key, .int .i64 0]] w fun e w' => e = .returned (.tuple #[.iface 98 (.agg #[.int .i64 key]), .bool true]) ∧ Below w.heap.size w w' := by
  have h := act_yes 0 key 0 w (cv_r h1 h2)
  unfold actV at h
  rw [if_pos (cv_r h1 h2), cv_r h1 h2] at h
  exact h
theorem act_p (key v : Int) (w : World) (h1 : 0 ≤ key) (h2 : key ≤ 5) (h3 : 0 ≤ v) (h4 : v ≤ 99) :
    Calls Try.prog 51 #[.agg #[.int .i64 1, .int .i64 key, .int .i64 v]] w fun e w' => e = .returned (.tuple #[.iface 100 (.agg #[.int .i64 key, .int .i64 v]), .bool true]) ∧ Below w.heap.size w w' := by
  have h := act_yes 1 key v w (cv_p h1 h2 h3 h4)
  unfold actV at h
  rw [if_pos (cv_p h1 h2 h3 h4), cv_p h1 h2 h3 h4] at h
  exact h
theorem act_a (key v : Int) (w : World) (h1 : 0 ≤ key) (h2 : key ≤ 5) (h3 : 0 ≤ v) (h4 : v ≤ 99) :
    Calls Try.prog 51 #[.agg #[.int .i64 2, .int .i64 key, .int .i64 v]] w fun e w' => e = .returned (.tuple #[.iface 101 (.agg #[.int .i64 key, .int .i64 v]), .bool true]) ∧ Below w.heap.size w w' := by
  have h := act_yes 2 key v w (cv_a h1 h2 h3 h4)
  unfold actV at h
  rw [if_pos (cv_a h1 h2 h3 h4), cv_a h1 h2 h3 h4] at h
  exact h
theorem act_n (w : World)  :
    Calls Try.prog 51 #[.agg #[.int .i64 3, .int .i64 0, .int .i64 0]] w fun e w' => e = .returned (.tuple #[.iface 103 (.agg #[]), .bool true]) ∧ Below w.heap.size w w' := by
  have h := act_yes 3 0 0 w (cv_n )
  unfold actV at h
  rw [if_pos (cv_n ), cv_n ] at h
  exact h

theorem act_any (k key v : Int) (w : World) :
    Calls Try.prog 51 #[.agg #[.int .i64 k, .int .i64 key, .int .i64 v]] w fun e w' => e = .returned (.tuple #[actV k key v, .bool (cvB k key v)]) ∧ Below w.heap.size w w' := by
  by_cases h : cvB k key v = true
  · exact act_yes k key v w h
  · exact act_no k key v w (by simpa using h)

theorem cv_of {k key v : Int} (h : cvB k key v = true) : (k = 0 ∧ 0 ≤ key ∧ key ≤ 5 ∧ v = 0) ∨ (k = 1 ∧ 0 ≤ key ∧ key ≤ 5 ∧ 0 ≤ v ∧ v ≤ 99) ∨ (k = 2 ∧ 0 ≤ key ∧ key ≤ 5 ∧ 0 ≤ v ∧ v ≤ 99) ∨ (k = 3 ∧ key = 0 ∧ v = 0) := by
  unfold cvB at h; exact of_decide_eq_true h
end Go.Proofs.Ytblkpkjgmjnimaa

/- Which commands clash, as a sum of tests; two boxes of a call with two commands. -/
namespace Go.Proofs.Ytblkpkjgmjnimaa
open Go.RowKit
set_option linter.unusedVariables false

def kcB (k key k' key' : Int) : Bool := decide (k ≠ 3 ∧ k' ≠ 3 ∧ key = key' ∧ (k ≠ k' ∨ k = 1))
theorem kc1 {k key k' key' : Int} (h : k = 3) : false = kcB k key k' key' := by rw [Bool.eq_iff_iff]; simp [kcB] at *; omega
theorem kc2 {k key k' key' : Int} (h : k' = 3) : false = kcB k key k' key' := by rw [Bool.eq_iff_iff]; simp [kcB] at *; omega
theorem kc3 {k key k' key' : Int} (h : ((k == 3) = true ∨ (k' == 3) = true) ∨ (key != key') = true) : false = kcB k key k' key' := by rw [Bool.eq_iff_iff]; simp [kcB] at *; omega
theorem kc4 {k key k' key' : Int} (h : ((k == 3) = false ∧ (k' == 3) = false) ∧ (key != key') = false) (h2 : k = k') : (k' == 1) = kcB k key k' key' := by rw [Bool.eq_iff_iff]; simp [kcB] at *; omega
theorem kc5 {k key k' key' : Int} (h : ((k == 3) = false ∧ (k' == 3) = false) ∧ (key != key') = false) (h2 : ¬k = k') : true = kcB k key k' key' := by rw [Bool.eq_iff_iff]; simp [kcB] at *; omega
/-- What CommandsClash answers. -/
def clB (k key v k' key' v' : Int) : Bool := cvB k key v && cvB k' key' v' && kcB k key k' key'
/-- The two boxes of a call with two commands, behind a callee that only makes memory. -/
theorem boxes2 {w w1 : World} {xs ys : Array Value} {t u : TypeId} (hb : Below ((w.alloc (.cells xs t)).alloc (.cells ys u)).heap.size ((w.alloc (.cells xs t)).alloc (.cells ys u)) w1) :
    w1.heap[w.heap.size]? = some (.cells xs t (0, 0)) ∧ w1.heap[w.heap.size + 1]? = some (.cells ys u (0, 0)) ∧ w.heap.size + 2 ≤ w1.heap.size ∧ Below w.heap.size w w1 :=
  ⟨(hb.block _ (by simp; omega)).trans ((Below.heap_alloc _ _ _ (by simp)).trans (heap_alloc_new w _)), (hb.block _ (by simp)).trans (heap_alloc_at _ _ _ (by simp)), by simpa using hb.size, (((Below.refl _ _).alloc (Nat.le_refl _) _).alloc (by simp) _).trans (hb.mono (by simp; omega))⟩
end Go.Proofs.Ytblkpkjgmjnimaa

/- Plain facts: an entry put into a log, found there, and what a command depends on by a log. -/
namespace Go.Proofs.Ytblkpkjgmjnimaa
set_option linter.unusedVariables false

theorem pw_ext {α : Type} {R : α → α → Prop} (hsy : ∀ a b, R a b → ¬ R b a) : ∀ {A B : List α}, A.Pairwise R → B.Pairwise R → (∀ x, x ∈ A ↔ x ∈ B) → A = B
  | [], [], _, _, _ => rfl
  | [], b :: s, _, _, h => absurd ((h b).2 List.mem_cons_self) (by simp)
  | a :: r, [], _, _, h => absurd ((h a).1 List.mem_cons_self) (by simp)
  | a :: r, b :: s, hA, hB, h => by
    have hA' := List.pairwise_cons.1 hA
    have hB' := List.pairwise_cons.1 hB
    have e : a = b := by
      rcases List.mem_cons.1 ((h a).1 List.mem_cons_self) with e | ha
      · exact e
      · rcases List.mem_cons.1 ((h b).2 List.mem_cons_self) with e | hb
        · exact e.symm
        · exact absurd (hB'.1 a ha) (hsy _ _ (hA'.1 b hb))
    subst e
    have nr : ¬ a ∈ r := fun hx => hsy _ _ (hA'.1 a hx) (hA'.1 a hx)
    have ns : ¬ a ∈ s := fun hx => hsy _ _ (hB'.1 a hx) (hB'.1 a hx)
    rw [pw_ext hsy hA'.2 hB'.2 (fun x => ?_)]
    constructor
    · intro hx
      rcases List.mem_cons.1 ((h x).1 (List.mem_cons_of_mem _ hx)) with e | hx'
      · subst e; exact absurd hx nr
      · exact hx'
    · intro hx
      rcases List.mem_cons.1 ((h x).2 (List.mem_cons_of_mem _ hx)) with e | hx'
      · subst e; exact absurd hx ns
      · exact hx'
/-- Entries with ascending ids. -/
theorem ascE_iff {E : List En} : Asc (idsE E) ↔ E.Pairwise fun x y => ltP x.id y.id = true := by unfold Asc idsE; exact List.pairwise_map
theorem ens_ext {A B : List En} (hA : Asc (idsE A)) (hB : Asc (idsE B)) (h : ∀ x, x ∈ A ↔ x ∈ B) : A = B :=
  pw_ext (R := fun x y : En => ltP x.id y.id = true) (fun a b h g => by rw [ltP_asym h] at g; cases g) (ascE_iff.1 hA) (ascE_iff.1 hB) h

/-- An entry put at its place, instead of the one with its id. -/
def putE (e : En) (E : List En) : List En := E.filter (fun x => ltP x.id e.id) ++ e :: E.filter (fun x => ltP e.id x.id)
theorem mem_putE {e x : En} {E : List En} : x ∈ putE e E ↔ x = e ∨ x ∈ E ∧ ¬ x.id = e.id := by
  unfold putE
  rw [List.mem_append, List.mem_cons, List.mem_filter, List.mem_filter]
  constructor
  · rintro (⟨h1, h2⟩ | h | ⟨h1, h2⟩)
    · exact .inr ⟨h1, fun e' => by rw [e', ltP_irr] at h2; cases h2⟩
    · exact .inl h
    · exact .inr ⟨h1, fun e' => by rw [e', ltP_irr] at h2; cases h2⟩
  · rintro (h | ⟨h1, h2⟩)
    · exact .inr (.inl h)
    · cases h3 : ltP x.id e.id with
      | true => exact .inl ⟨h1, rfl⟩
      | false =>
        cases h4 : ltP e.id x.id with
        | true => exact .inr (.inr ⟨h1, rfl⟩)
        | false => exact absurd (ltP_tri h3 h4) h2
theorem putE_asc {e : En} {E : List En} (h : Asc (idsE E)) : Asc (idsE (putE e E)) := by
  rw [ascE_iff] at h ⊢
  unfold putE
  refine List.pairwise_append.2 ⟨h.filter _, List.pairwise_cons.2 ⟨fun y hy => (List.mem_filter.1 hy).2, h.filter _⟩, fun x hx y hy => ?_⟩
  have hx2 := (List.mem_filter.1 hx).2
  rcases List.mem_cons.1 hy with rfl | hy
  · exact hx2
  · exact ltP_trans hx2 (List.mem_filter.1 hy).2
theorem putE_len {e : En} {E : List En} (h : Asc (idsE E)) : (putE e E).length = if e.id ∈ idsE E then E.length else E.length + 1 := by
  have hN : ∀ {A : List En}, Asc (idsE A) → (idsE A).Nodup := fun {A} hA => List.Pairwise.imp (fun {a b} hab e => by subst e; rw [ltP_irr] at hab; cases hab) hA
  have key : ∀ {A B : List Pid}, A.Nodup → (∀ x ∈ A, x ∈ B) → A.length ≤ B.length := by
    intro A
    induction A with
    | nil => intro B _ _; exact Nat.zero_le _
    | cons a r ih =>
      intro B hA hB
      obtain ⟨h1, h2⟩ := List.nodup_cons.1 hA
      have hb := hB a List.mem_cons_self
      have := ih (B := B.erase a) h2 (fun x hx => (List.mem_erase_of_ne (fun e : x = a => h1 (by rw [← e]; exact hx))).2 (hB x (List.mem_cons_of_mem _ hx)))
      rw [List.length_erase_of_mem hb] at this
      have : 0 < B.length := List.length_pos_of_mem hb
      simp only [List.length_cons]; omega
  have hm : ∀ a, a ∈ idsE (putE e E) ↔ a = e.id ∨ a ∈ idsE E := by
    intro a
    unfold idsE
    simp only [List.mem_map, mem_putE]
    constructor
    · rintro ⟨x, rfl | ⟨h1, h2⟩, rfl⟩
      · exact .inl rfl
      · exact .inr ⟨x, h1, rfl⟩
    · rintro (rfl | ⟨x, h1, rfl⟩)
      · exact ⟨e, .inl rfl, rfl⟩
      · by_cases h2 : x.id = e.id
        · exact ⟨e, .inl rfl, h2.symm⟩
        · exact ⟨x, .inr ⟨h1, h2⟩, rfl⟩
  have n1 := hN (putE_asc (e := e) h)
  have n2 := hN h
  rw [← idsE_len (putE e E), ← idsE_len E]
  split
  · rename_i hin
    refine Nat.le_antisymm (key n1 fun x hx => ?_) (key n2 fun x hx => (hm x).2 (.inr hx))
    rcases (hm x).1 hx with rfl | hx
    · exact hin
    · exact hx
  · rename_i hin
    have n3 : (e.id :: idsE E).Nodup := List.nodup_cons.2 ⟨hin, n2⟩
    exact Nat.le_antisymm (key (B := e.id :: idsE E) n1 fun x hx => List.mem_cons.2 ((hm x).1 hx)) (key (A := e.id :: idsE E) n3 fun x hx => (hm x).2 (List.mem_cons.1 hx))
theorem putE_valid {e : En} {E : List En} (hv : logB E = true) (he : enB e = true) (hl : (putE e E).length ≤ 12) : logB (putE e E) = true := by
  obtain ⟨_, h2, h3⟩ := log_of hv
  refine log_to hl (fun x hx => ?_) (putE_asc h3)
  rcases mem_putE.1 hx with rfl | ⟨hx, _⟩
  · exact he
  · exact h2 x hx
/-- What LogPut answers. -/
def lputR (E : List En) (e : En) : List En × Bool := if logB E = true ∧ enB e = true ∧ (putE e E).length ≤ 12 then (putE e E, true) else ([], false)
/-- What LogFind answers. -/
def lfindR (E : List En) (a : Pid) : En × Bool := if logB E = true then (match E.find? fun x => decide (x.id = a) with | some x => (x, true) | none => (en0, false)) else (en0, false)
/-- What a command clashes with, by a log. -/
def clsE (E : List En) (a : Pid) (k key : Int) : List En := E.filter fun x => !decide (x.id = a) && kcB x.k x.key k key
/-- The greatest rank. -/
def topE : List En → Int
  | [] => 0
  | x :: r => max x.seq (topE r)
/-- What LogAttrs answers. -/
def lattR (E : List En) (a : Pid) (k key v : Int) : Int × List Pid × Bool :=
  if logB E = true ∧ okP a = true ∧ cvB k key v = true ∧ topE (clsE E a k key) + 1 ≤ 99 then (topE (clsE E a k key) + 1, idsE (clsE E a k key), true) else (0, [], false)
theorem clsE_asc {E : List En} (h : Asc (idsE E)) (a : Pid) (k key : Int) : Asc (idsE (clsE E a k key)) := by
  rw [ascE_iff] at h ⊢; exact h.filter _
end Go.Proofs.Ytblkpkjgmjnimaa

/- Plain facts: entries found in a log and in a book; an entry put at its place by going through the log; what a command clashes with, entry by entry. -/
namespace Go.Proofs.Ytblkpkjgmjnimaa
set_option linter.unusedVariables false

theorem lfindR_bad {E : List En} (h : logB E = false) (a : Pid) : lfindR E a = (en0, false) := by
  unfold lfindR; rw [h, if_neg (by simp)]
theorem lfindR_none {E : List En} {a : Pid} (h : ∀ k, k < E.length → ¬ (E.getD k en0).id = a) : lfindR E a = (en0, false) := by
  unfold lfindR
  split
  · have e : E.find? (fun x => decide (x.id = a)) = none := by
      rw [List.find?_eq_none]
      intro x hx
      obtain ⟨k, hk, rfl⟩ := mem_enD hx
      simpa using h k hk
    rw [e]
  · rfl
theorem lfindR_some {E : List En} {a : Pid} (hv : logB E = true) {k : Nat} (hk : k < E.length) (e : (E.getD k en0).id = a) : lfindR E a = (E.getD k en0, true) := by
  unfold lfindR
  rw [if_pos hv]
  cases hf : E.find? (fun x => decide (x.id = a)) with
  | none =>
    rw [List.find?_eq_none] at hf
    have := hf _ (enD_mem hk)
    rw [e] at this; simp at this
  | some x =>
    have h1 := List.find?_some hf
    obtain ⟨j, hj, rfl⟩ := mem_enD (List.mem_of_find?_eq_some hf)
    have h1 : (E.getD j en0).id = a := by simpa using h1
    rw [log_inj hv hj hk (h1.trans e.symm)]

/-- One step of putting: what is there so far, and whether the entry is among it. -/
def stpE (e : En) (s : List En × Bool) (x : En) : List En × Bool :=
  let t := if s.2 = false ∧ ltP x.id e.id = false then (s.1 ++ [e], true) else s
  if x.id = e.id then t else (t.1 ++ [x], t.2)
def runE (e : En) (E : List En) : List En × Bool := E.foldl (stpE e) ([], false)
theorem runE_next (e : En) {E : List En} {k : Nat} (hk : k < E.length) : runE e (E.take (k + 1)) = stpE e (runE e (E.take k)) (E.getD k en0) := by
  unfold runE
  have : E.take (k + 1) = E.take k ++ [E.getD k en0] := by
    rw [List.take_add_one, List.getElem?_eq_getElem hk, List.getD_eq_getElem?_getD, List.getElem?_eq_getElem hk]; rfl
  rw [this, List.foldl_append]; rfl
def endE (e : En) (s : List En × Bool) : List En := if s.2 = true then s.1 else s.1 ++ [e]
theorem runE_at (e : En) : ∀ (R A : List En), Asc (idsE (A ++ R)) → (∀ x ∈ A, ltP x.id e.id = true) → endE e (R.foldl (stpE e) (A, false)) = A ++ putE e R := by
  intro R
  induction R with
  | nil => intro A _ _; simp [endE, putE]
  | cons x r ih =>
    intro A hA hl
    rw [ascE_iff] at hA
    have hA2 := (List.pairwise_append.1 hA).2.1
    have hx := List.pairwise_cons.1 hA2
    cases h : ltP x.id e.id with
    | true =>
      have hne : ¬ x.id = e.id := fun e' => by rw [e', ltP_irr] at h; cases h
      have s1 : stpE e (A, false) x = (A ++ [x], false) := by unfold stpE; simp [h, hne]
      rw [List.foldl_cons, s1, ih (A ++ [x]) (by rw [ascE_iff]; simpa using hA) (fun y hy => by
        rcases List.mem_append.1 hy with hy | hy
        · exact hl y hy
        · rw [List.mem_singleton] at hy; rw [hy]; exact h)]
      have hf : ltP e.id x.id = false := ltP_asym h
      simp [putE, h, hf]
    | false =>
      have rest : ∀ (B : List En), (∀ y ∈ r, ltP e.id y.id = true) → r.foldl (stpE e) (B, true) = (B ++ r, true) := by
        intro B
        clear ih hA hA2 hx
        induction r generalizing B with
        | nil => intro _; simp
        | cons y s ih =>
          intro hy
          have h1 := hy y List.mem_cons_self
          have hne : ¬ y.id = e.id := fun e' => by rw [e', ltP_irr] at h1; cases h1
          have s1 : stpE e (B, true) y = (B ++ [y], true) := by unfold stpE; simp [hne]
          rw [List.foldl_cons, s1, ih _ (fun z hz => hy z (List.mem_cons_of_mem _ hz))]
          simp
      have low : ∀ y ∈ r, ltP e.id y.id = true := fun y hy => by
        have g := hx.1 y hy
        cases h2 : ltP e.id x.id with
        | true => exact ltP_trans h2 g
        | false => rw [← ltP_tri h h2]; exact g
      have f1 : r.filter (fun y => ltP y.id e.id) = [] := List.filter_eq_nil_iff.2 fun y hy => by rw [ltP_asym (low y hy)]; simp
      have f2 : r.filter (fun y => ltP e.id y.id) = r := List.filter_eq_self.2 low
      by_cases hid : x.id = e.id
      · have s1 : stpE e (A, false) x = (A ++ [e], true) := by unfold stpE; simp [hid, ltP_irr]
        have h2 : ltP e.id x.id = false := by rw [hid]; exact ltP_irr _
        rw [List.foldl_cons, s1, rest _ low]
        simp [endE, putE, f1, f2, hid, ltP_irr]
      · have s1 : stpE e (A, false) x = (A ++ [e] ++ [x], true) := by unfold stpE; simp [h, hid]
        have h2 : ltP e.id x.id = true := by
          cases h2 : ltP e.id x.id with
          | true => rfl
          | false => exact absurd (ltP_tri h h2) hid
        rw [List.foldl_cons, s1, rest _ low]
        simp [endE, putE, h, h2, f1, f2]
/-- Going through the log puts the entry at its place. -/
theorem runE_put {e : En} {E : List En} (h : Asc (idsE E)) : endE e (runE e E) = putE e E := by
  have := runE_at e E [] (by simpa using h) (fun _ hx => nomatch hx)
  simpa [runE] using this
theorem runE_len (e : En) : ∀ (R : List En) (s : List En × Bool), (R.foldl (stpE e) s).1.length ≤ s.1.length + 2 * R.length := by
  intro R
  induction R with
  | nil => intro s; simp
  | cons x r ih =>
    intro s
    rw [List.foldl_cons]
    refine Nat.le_trans (ih _) ?_
    have : (stpE e s x).1.length ≤ s.1.length + 2 := by
      unfold stpE
      dsimp only
      split <;> split <;> simp <;> omega
    simp only [List.length_cons]; omega

theorem lputR_bad {E : List En} {e : En} (h : logB E = false) : lputR E e = ([], false) := by unfold lputR; rw [h, if_neg (by simp)]
theorem lputR_bad2 {E : List En} {e : En} (h : enB e = false) : lputR E e = ([], false) := by unfold lputR; rw [h, if_neg (by simp)]
theorem lputR_long {E : List En} {e : En} (h : ¬ (putE e E).length ≤ 12) : lputR E e = ([], false) := by unfold lputR; rw [if_neg (fun x => h x.2.2)]
theorem lputR_good {E : List En} {e : En} (h1 : logB E = true) (h2 : enB e = true) (h3 : (putE e E).length ≤ 12) : lputR E e = (putE e E, true) := by unfold lputR; rw [if_pos ⟨h1, h2, h3⟩]
theorem lputR_len (E : List En) (e : En) : (lputR E e).1.length ≤ 12 := by
  unfold lputR; split
  · rename_i h; exact h.2.2
  · exact Nat.zero_le _
theorem lputR_log {E : List En} {e : En} (h : (lputR E e).2 = true) : logB (lputR E e).1 = true := by
  unfold lputR at h ⊢
  split at h
  · rename_i g; rw [if_pos g]; exact putE_valid g.1 g.2.1 g.2.2
  · cases h

/-- What is gathered so far: 1 more than the greatest rank, and the ids. -/
def attE (E : List En) (a : Pid) (k key : Int) : Int × List Pid := (topE (clsE E a k key) + 1, idsE (clsE E a k key))
theorem topE_app : ∀ (A : List En) (x : En), topE (A ++ [x]) = max (topE A) (max x.seq 0)
  | [], x => by simp [topE]; omega
  | y :: r, x => by simp only [List.cons_append, topE, topE_app r x]; omega
theorem topE_nn : ∀ A : List En, 0 ≤ topE A
  | [] => Int.le_refl _
  | x :: r => by have := topE_nn r; simp only [topE]; omega
theorem clsE_next {E : List En} {n : Nat} (hn : n < E.length) (a : Pid) (k key : Int) : clsE (E.take (n + 1)) a k key = clsE (E.take n) a k key ++ (if ¬ (E.getD n en0).id = a ∧ kcB (E.getD n en0).k (E.getD n en0).key k key = true then [E.getD n en0] else []) := by
  have : E.take (n + 1) = E.take n ++ [E.getD n en0] := by
    rw [List.take_add_one, List.getElem?_eq_getElem hn, List.getD_eq_getElem?_getD, List.getElem?_eq_getElem hn]; rfl
  unfold clsE
  rw [this, List.filter_append]
  congr 1
  generalize E.getD n en0 = x
  by_cases h1 : x.id = a <;> cases h2 : kcB x.k x.key k key <;> simp [h1, h2]
end Go.Proofs.Ytblkpkjgmjnimaa

/- What a valid entry is, part by part. -/
namespace Go.Proofs.Ytblkpkjgmjnimaa
set_option linter.unusedVariables false

theorem enB_of {X : En} (h : enB X = true) : okP X.id = true ∧ (1 ≤ X.seq ∧ X.seq ≤ 99) ∧ srtB X.deps = true ∧ hasP X.deps X.id = false ∧ (0 ≤ X.bal ∧ X.bal ≤ 999) ∧ (1 ≤ X.st ∧ X.st ≤ 3) ∧ cvB X.k X.key X.v = true := by
  simp only [enB, ndB, En.nd, Bool.and_eq_true, decide_eq_true_eq, Bool.not_eq_true'] at h
  exact ⟨h.1.1, of_decide_eq_true h.1.2.1, h.1.2.2.1, h.1.2.2.2, by simpa using h.2.1, by simpa using h.2.2.1, h.2.2.2⟩
theorem enB_to {X : En} (h1 : okP X.id = true) (h2 : 1 ≤ X.seq ∧ X.seq ≤ 99) (h3 : srtB X.deps = true) (h4 : hasP X.deps X.id = false) (h5 : 0 ≤ X.bal ∧ X.bal ≤ 999) (h6 : 1 ≤ X.st ∧ X.st ≤ 3) (h7 : cvB X.k X.key X.v = true) : enB X = true := by
  simp only [enB, ndB, En.nd, Bool.and_eq_true, decide_eq_true_eq, Bool.not_eq_true']
  exact ⟨⟨h1, decide_eq_true h2, h3, h4⟩, by simpa using h5, by simpa using h6, h7⟩
end Go.Proofs.Ytblkpkjgmjnimaa

/- What AnswersJoin and PathOf answer: plain facts. -/
namespace Go.Proofs.Ytblkpkjgmjnimaa
set_option linter.unusedVariables false

/-- An answer is joined. -/
def ansS (o x : En) : En := { o with seq := max o.seq x.seq, deps := joinP o.deps x.deps }
/-- All answers are joined. -/
def ansE (own : En) (A : List En) : En := A.foldl ansS own
/-- An answer is about the same. -/
def oneB (own x : En) : Bool := enB x && decide (x.id = own.id ∧ (x.k = own.k ∧ x.key = own.key ∧ x.v = own.v) ∧ x.st = 1)
/-- What valid answers are. -/
def answB (own : En) (A : List En) : Bool := A.all (oneB own) && (enB own && (decide (own.st = 1) && decide (A.length < 5)))
/-- What AnswersJoin answers. -/
def ansR (own : En) (A : List En) : En × Bool := if answB own A = true ∧ enB (ansE own A) = true then (ansE own A, true) else (en0, false)
/-- An answer has the same rank and the same ids. -/
def likeB (own x : En) : Bool := decide (x.seq = own.seq ∧ x.deps = own.deps)
theorem take_nextE {A : List En} {k : Nat} (hk : k < A.length) : A.take (k + 1) = A.take k ++ [A.getD k en0] := by
  rw [List.take_add_one, List.getElem?_eq_getElem hk, List.getD_eq_getElem?_getD, List.getElem?_eq_getElem hk]; rfl
theorem ansE_next {own : En} {A : List En} {k : Nat} (hk : k < A.length) : ansE own (A.take (k + 1)) = ansS (ansE own (A.take k)) (A.getD k en0) := by
  rw [take_nextE hk]; unfold ansE; rw [List.foldl_append]; rfl
theorem ansE_keep : ∀ (A : List En) (own : En), (ansE own A).id = own.id ∧ (ansE own A).bal = own.bal ∧ (ansE own A).st = own.st ∧ (ansE own A).k = own.k ∧ (ansE own A).key = own.key ∧ (ansE own A).v = own.v
  | [], own => ⟨rfl, rfl, rfl, rfl, rfl, rfl⟩
  | x :: A, own => by
    obtain ⟨h1, h2, h3, h4, h5, h6⟩ := ansE_keep A (ansS own x)
    exact ⟨h1, h2, h3, h4, h5, h6⟩
theorem ansE_mem : ∀ (A : List En) (own : En) (a : Pid), a ∈ (ansE own A).deps ↔ a ∈ own.deps ∨ ∃ x ∈ A, a ∈ x.deps
  | [], own, a => by simp [ansE]
  | x :: A, own, a => by
    have h := ansE_mem A (ansS own x) a
    show a ∈ (ansE (ansS own x) A).deps ↔ _
    rw [h]
    have e : a ∈ (ansS own x).deps ↔ a ∈ own.deps ∨ a ∈ x.deps := joinP_mem
    rw [e]
    constructor
    · rintro ((h | h) | ⟨y, hy, h⟩)
      · exact .inl h
      · exact .inr ⟨x, List.mem_cons_self .., h⟩
      · exact .inr ⟨y, List.mem_cons_of_mem _ hy, h⟩
    · rintro (h | ⟨y, hy, h⟩)
      · exact .inl (.inl h)
      · rcases List.mem_cons.1 hy with e | hy
        · exact .inl (.inr (by rw [← e]; exact h))
        · exact .inr ⟨y, hy, h⟩
theorem ansE_asc : ∀ (A : List En) (own : En), Asc own.deps → Asc (ansE own A).deps
  | [], own, h => h
  | x :: A, own, h => ansE_asc A (ansS own x) (joinP_asc h)
/-- The greatest rank. -/
def mostS (s : Int) (A : List En) : Int := A.foldl (fun m x => max m x.seq) s
theorem ansE_seq : ∀ (A : List En) (own : En), (ansE own A).seq = mostS own.seq A
  | [], own => rfl
  | x :: A, own => ansE_seq A (ansS own x)
theorem mostS_next {s : Int} {A : List En} {k : Nat} (hk : k < A.length) : mostS s (A.take (k + 1)) = max (mostS s (A.take k)) (A.getD k en0).seq := by
  rw [take_nextE hk]; unfold mostS; rw [List.foldl_append]; rfl
theorem mostS_ge : ∀ (A : List En) (s : Int), s ≤ mostS s A
  | [], s => Int.le_refl _
  | x :: A, s => Int.le_trans (Int.le_max_left _ _) (mostS_ge A (max s x.seq))
theorem mostS_mem : ∀ (A : List En) (s : Int) (x : En), x ∈ A → x.seq ≤ mostS s A
  | [], s, x, h => nomatch h
  | y :: A, s, x, h => by
    rcases List.mem_cons.1 h with e | h
    · rw [e]; exact Int.le_trans (Int.le_max_right _ _) (mostS_ge A (max s y.seq))
    · exact mostS_mem A _ x h
theorem one_of {own x : En} (h : oneB own x = true) : enB x = true ∧ x.id = own.id ∧ (x.k = own.k ∧ x.key = own.key ∧ x.v = own.v) ∧ x.st = 1 := by
  unfold oneB at h
  rw [Bool.and_eq_true, decide_eq_true_eq] at h
  exact ⟨h.1, h.2⟩
theorem answ_of {own : En} {A : List En} (h : answB own A = true) : (∀ x ∈ A, oneB own x = true) ∧ enB own = true ∧ own.st = 1 ∧ A.length < 5 := by
  unfold answB at h
  simp only [Bool.and_eq_true, decide_eq_true_eq, List.all_eq_true] at h
  exact ⟨h.1, h.2.1, h.2.2.1, h.2.2.2⟩
theorem answ_to {own : En} {A : List En} (h1 : ∀ x ∈ A, oneB own x = true) (h2 : enB own = true) (h3 : own.st = 1) (h4 : A.length < 5) : answB own A = true := by
  unfold answB
  simp only [Bool.and_eq_true, decide_eq_true_eq, List.all_eq_true]
  exact ⟨h1, h2, h3, h4⟩
theorem ans_is {own : En} {A : List En} (h : (ansR own A).2 = true) : answB own A = true ∧ enB (ansE own A) = true ∧ ansR own A = (ansE own A, true) := by
  unfold ansR at h ⊢
  split at h
  · rename_i g; exact ⟨g.1, g.2, if_pos g⟩
  · cases h
theorem ans_within {own : En} {A : List En} (h : (ansR own A).2 = true) : (∀ x ∈ A, withinB x.deps (ansE own A).deps = true) ∧ withinB own.deps (ansE own A).deps = true := by
  obtain ⟨h1, h2, _⟩ := ans_is h
  obtain ⟨g1, g2, _⟩ := answ_of h1
  have hs := (enB_of h2).2.2.1
  constructor
  · intro x hx
    unfold withinB
    rw [(enB_of (one_of (g1 x hx)).1).2.2.1, hs]
    simp only [Bool.true_and]
    exact inP_iff.2 fun a ha => (ansE_mem A own a).2 (.inr ⟨x, hx, ha⟩)
  · unfold withinB
    rw [(enB_of g2).2.2.1, hs]
    simp only [Bool.true_and]
    exact inP_iff.2 fun a ha => (ansE_mem A own a).2 (.inl ha)
theorem ans_none {own : En} {A : List En} (h : (ansR own A).2 = true) : ansR own [] = (own, true) := by
  obtain ⟨h1, h2, _⟩ := ans_is h
  obtain ⟨g1, g2, g3, _⟩ := answ_of h1
  have e : answB own [] = true := answ_to (fun _ h => nomatch h) g2 g3 (by decide)
  unfold ansR
  rw [if_pos ⟨e, g2⟩]; rfl
theorem ansS_self {o x : En} (hs : x.seq ≤ o.seq) (ha : Asc o.deps) (hd : ∀ a ∈ x.deps, a ∈ o.deps) : ansS o x = o := by
  have e1 : max o.seq x.seq = o.seq := by omega
  have e2 : joinP o.deps x.deps = o.deps := asc_ext (joinP_asc ha) ha fun a => by
    rw [joinP_mem]
    exact ⟨fun h => h.elim id (hd a), .inl⟩
  unfold ansS
  rw [e1, e2]
theorem ans_more {own : En} {A : List En} (h : (ansR own A).2 = true) (h5 : A.length + 1 < 5) : ansR own (A ++ [(ansR own A).1]) = ansR own A := by
  obtain ⟨h1, h2, h3⟩ := ans_is h
  obtain ⟨g1, g2, g3, g4⟩ := answ_of h1
  rw [h3]
  have e : ansE own (A ++ [ansE own A]) = ansE own A := by
    unfold ansE
    rw [List.foldl_append]
    show ansS (ansE own A) (ansE own A) = ansE own A
    exact ansS_self (Int.le_refl _) (srt_of (enB_of h2).2.2.1).2.2 (fun a ha => ha)
  obtain ⟨k1, _, k3, k4, k5, k6⟩ := ansE_keep A own
  have e2 : answB own (A ++ [ansE own A]) = true := by
    refine answ_to (fun x hx => ?_) g2 g3 (by rw [List.length_append]; simpa using h5)
    rcases List.mem_append.1 hx with hx | hx
    · exact g1 x hx
    · rw [List.mem_singleton] at hx
      rw [hx]
      unfold oneB
      rw [Bool.and_eq_true, decide_eq_true_eq]
      exact ⟨h2, k1, ⟨k4, k5, k6⟩, k3.trans g3⟩
  show ansR own (A ++ [ansE own A]) = _
  unfold ansR
  rw [e, if_pos ⟨e2, h2⟩]
theorem ansE_same : ∀ (A : List En) (own : En), Asc own.deps → (∀ x ∈ A, likeB own x = true) → ansE own A = own
  | [], own, _, _ => rfl
  | x :: A, own, ha, h => by
    have hx := h x (List.mem_cons_self ..)
    unfold likeB at hx
    rw [decide_eq_true_eq] at hx
    have e : ansS own x = own := ansS_self (by omega) ha (fun a h => by rw [hx.2] at h; exact h)
    show ansE (ansS own x) A = own
    rw [e]
    exact ansE_same A own ha fun y hy => h y (List.mem_cons_of_mem _ hy)
end Go.Proofs.Ytblkpkjgmjnimaa

/- Answers of a recovery: plain facts of places, counts and joins. -/
namespace Go.Proofs.Ytblkpkjgmjnimaa
set_option linter.unusedVariables false

/-- An answer. -/
structure An where
  fr : Int
  kn : Bool
  en : En
def an0 : An := ⟨0, false, en0⟩
/-- An answer that knows an entry with a status. -/
def isS (s : Int) (x : An) : Bool := x.kn && (x.en.st == s)
/-- A round of l15Best. -/
def bestS (s : Int) (L : List An) (o : Int) (i : Nat) : Int := if isS s (L.getD i an0) = true ∧ (o < 0 ∨ (L.getD o.toNat an0).en.bal < (L.getD i an0).en.bal) then i else o
/-- l15Best's place behind k rounds. -/
def bestI (s : Int) (L : List An) : Nat → Int
  | 0 => -1
  | k + 1 => bestS s L (bestI s L k) k
theorem best_next (s : Int) (L : List An) (k : Nat) : bestI s L (k + 1) = bestS s L (bestI s L k) k := rfl
theorem best_range (s : Int) (L : List An) : ∀ k, (bestI s L k = -1 ∧ ∀ j, j < k → isS s (L.getD j an0) = false) ∨ ∃ j : Nat, j < k ∧ bestI s L k = j ∧ isS s (L.getD j an0) = true ∧ ∀ i, i < k → isS s (L.getD i an0) = true → (L.getD i an0).en.bal ≤ (L.getD j an0).en.bal
  | 0 => .inl ⟨rfl, fun _ h => absurd h (Nat.not_lt_zero _)⟩
  | k + 1 => by
    rw [best_next]
    unfold bestS
    rcases best_range s L k with ⟨h1, h2⟩ | ⟨j, h1, h2, h3, h4⟩
    · rw [h1]
      cases hk : isS s (L.getD k an0) with
      | true =>
        rw [if_pos ⟨rfl, .inl (by decide)⟩]
        refine .inr ⟨k, Nat.lt_succ_self k, rfl, hk, fun i hi hs => ?_⟩
        rcases Nat.lt_succ_iff_lt_or_eq.1 hi with g | g
        · rw [h2 i g] at hs; cases hs
        · rw [g]; exact Int.le_refl _
      | false =>
        rw [if_neg (fun g => by cases g.1)]
        refine .inl ⟨rfl, fun j hj => ?_⟩
        rcases Nat.lt_succ_iff_lt_or_eq.1 hj with g | g
        · exact h2 j g
        · rw [g]; exact hk
    · rw [h2]
      by_cases g : isS s (L.getD k an0) = true ∧ (L.getD j an0).en.bal < (L.getD k an0).en.bal
      · rw [if_pos ⟨g.1, .inr (by rw [Int.toNat_natCast]; exact g.2)⟩]
        refine .inr ⟨k, Nat.lt_succ_self k, rfl, g.1, fun i hi hs => ?_⟩
        rcases Nat.lt_succ_iff_lt_or_eq.1 hi with e | e
        · have := h4 i e hs; omega
        · rw [e]; exact Int.le_refl _
      · rw [if_neg (fun x => g ⟨x.1, by rcases x.2 with y | y; omega; rw [Int.toNat_natCast] at y; exact y⟩)]
        refine .inr ⟨j, Nat.lt_succ_of_lt h1, rfl, h3, fun i hi hs => ?_⟩
        rcases Nat.lt_succ_iff_lt_or_eq.1 hi with e | e
        · exact h4 i e hs
        · subst e
          by_cases g2 : (L.getD j an0).en.bal < (L.getD i an0).en.bal
          · exact absurd ⟨hs, g2⟩ g
          · omega
/-- How many of the first k answers are proposed, and alike to one. -/
def cntI (L : List An) (x : En) : Nat → Nat
  | 0 => 0
  | k + 1 => if isS 1 (L.getD k an0) = true ∧ likeB x (L.getD k an0).en = true then cntI L x k + 1 else cntI L x k
theorem cnt_le (L : List An) (x : En) : ∀ k, cntI L x k ≤ k
  | 0 => Nat.le_refl _
  | k + 1 => by have := cnt_le L x k; unfold cntI; split <;> omega
theorem like_symm {x y : En} : likeB x y = likeB y x := by
  unfold likeB
  rw [Bool.eq_iff_iff, decide_eq_true_eq, decide_eq_true_eq]
  exact ⟨fun h => ⟨h.1.symm, h.2.symm⟩, fun h => ⟨h.1.symm, h.2.symm⟩⟩
theorem cnt_like {x y : En} (h : x.seq = y.seq ∧ x.deps = y.deps) (L : List An) : ∀ k, cntI L x k = cntI L y k
  | 0 => rfl
  | k + 1 => by
    unfold cntI
    rw [cnt_like h L k]
    have e : likeB x (L.getD k an0).en = likeB y (L.getD k an0).en := by unfold likeB; rw [h.1, h.2]
    rw [e]
/-- The first of the first k answers that is proposed and alike to enough. -/
def fastI (L : List An) (m : Int) : Nat → Int
  | 0 => -1
  | k + 1 => if fastI L m k < 0 ∧ isS 1 (L.getD k an0) = true ∧ m ≤ cntI L (L.getD k an0).en L.length then k else fastI L m k
theorem fast_range (L : List An) (m : Int) : ∀ k, fastI L m k = -1 ∨ ∃ j : Nat, j < k ∧ fastI L m k = j ∧ isS 1 (L.getD j an0) = true ∧ m ≤ cntI L (L.getD j an0).en L.length
  | 0 => .inl rfl
  | k + 1 => by
    unfold fastI
    split
    · rename_i g; exact .inr ⟨k, Nat.lt_succ_self k, rfl, g.2.1, g.2.2⟩
    · rcases fast_range L m k with h | ⟨j, h1, h2, h3, h4⟩
      · exact .inl h
      · exact .inr ⟨j, Nat.lt_succ_of_lt h1, h2, h3, h4⟩
/-- The entries that are known. -/
def knownL (L : List An) : List En := (L.filter fun x => x.kn).map An.en
theorem mem_known {L : List An} {x : En} : x ∈ knownL L ↔ ∃ a ∈ L, a.kn = true ∧ a.en = x := by
  unfold knownL
  simp only [List.mem_map, List.mem_filter]
  constructor
  · rintro ⟨a, ⟨h1, h2⟩, h3⟩; exact ⟨a, h1, h2, h3⟩
  · rintro ⟨a, h1, h2, h3⟩; exact ⟨a, ⟨h1, h2⟩, h3⟩
/-- What is picked, made into what is taken. -/
def pickE (x : En) : En := { x with bal := 0, st := 2 }
end Go.Proofs.Ytblkpkjgmjnimaa

/- Answers in memory, and slices of them; when answers are valid. -/
namespace Go.Proofs.Ytblkpkjgmjnimaa
open Go.RowKit
set_option linter.unusedVariables false

/-- An answer as a value. -/
def anv (x : An) (u : Value) : Value := .agg #[.int .i64 x.fr, .bool x.kn, .int .i64 x.en.id.1, .int .i64 x.en.id.2, .int .i64 x.en.bal, .int .i64 x.en.st, .int .i64 x.en.k, .int .i64 x.en.key, .int .i64 x.en.v, .int .i64 x.en.seq, u]
/-- An answer in memory, from a cell on. -/
structure AnAt (w : World) (b o : Nat) (x : An) (u : Value) : Prop where
  c0 : w.cell? ⟨b, o, none⟩ = some (.int .i64 x.fr)
  c1 : w.cell? ⟨b, o + 1, none⟩ = some (.bool x.kn)
  c2 : w.cell? ⟨b, o + 2, none⟩ = some (.int .i64 x.en.id.1)
  c3 : w.cell? ⟨b, o + 3, none⟩ = some (.int .i64 x.en.id.2)
  c4 : w.cell? ⟨b, o + 4, none⟩ = some (.int .i64 x.en.bal)
  c5 : w.cell? ⟨b, o + 5, none⟩ = some (.int .i64 x.en.st)
  c6 : w.cell? ⟨b, o + 6, none⟩ = some (.int .i64 x.en.k)
  c7 : w.cell? ⟨b, o + 7, none⟩ = some (.int .i64 x.en.key)
  c8 : w.cell? ⟨b, o + 8, none⟩ = some (.int .i64 x.en.v)
  c9 : w.cell? ⟨b, o + 9, none⟩ = some (.int .i64 x.en.seq)
  c10 : w.cell? ⟨b, o + 10, none⟩ = some (u)
  ids : Ids w u x.en.deps
theorem AnAt.up {w w' : World} {b o B : Nat} {x : An} {u : Value} (h : AnAt w b o x u) (hb : Below B w w') (hB : w.heap.size ≤ B) (hl : b < w.heap.size) : AnAt w' b o x u := by
  have hc : ∀ o, w'.cell? ⟨b, o, none⟩ = w.cell? ⟨b, o, none⟩ := fun o => hb.cell (p := ⟨b, o, none⟩) (Nat.lt_of_lt_of_le hl hB)
  exact ⟨by rw [hc]; exact h.c0, by rw [hc]; exact h.c1, by rw [hc]; exact h.c2, by rw [hc]; exact h.c3, by rw [hc]; exact h.c4, by rw [hc]; exact h.c5, by rw [hc]; exact h.c6, by rw [hc]; exact h.c7, by rw [hc]; exact h.c8, by rw [hc]; exact h.c9, by rw [hc]; exact h.c10, h.ids.up hb hB⟩
/-- A slice of answers, readable. -/
structure AnsAt (w : World) (b off : Nat) (L : List An) (U : Nat → Value) : Prop where
  lt : b < w.heap.size
  at_ : ∀ i, i < L.length → AnAt w b (off + i * 11) (L.getD i an0) (U i)
theorem AnsAt.up {w w' : World} {b off B : Nat} {L : List An} {U : Nat → Value} (h : AnsAt w b off L U) (hb : Below B w w') (hB : w.heap.size ≤ B) : AnsAt w' b off L U :=
  ⟨Nat.lt_of_lt_of_le h.lt hb.size, fun i hi => (h.at_ i hi).up hb hB h.lt⟩
def Ans (w : World) (v : Value) (L : List An) : Prop :=
  ∃ a cap, v = .slice a L.length cap ∧ L.length ≤ cap ∧ L.length ≤ 2000000 ∧ (L.length = 0 ∨ ∃ b off U, a = some ⟨b, off, none⟩ ∧ AnsAt w b off L U)
theorem Ans.up {w w' : World} {B : Nat} {v : Value} {L : List An} (h : Ans w v L) (hb : Below B w w') (hB : w.heap.size ≤ B) : Ans w' v L := by
  obtain ⟨a, cap, rfl, h1, h2, h3⟩ := h
  refine ⟨a, cap, rfl, h1, h2, ?_⟩
  rcases h3 with h3 | ⟨b, off, U, rfl, h4⟩
  · exact .inl h3
  · exact .inr ⟨b, off, U, rfl, h4.up hb hB⟩
/-- Nothing is told. -/
def unB (e : En) : Bool := decide (e.id.1 = 0 ∧ e.id.2 = 0 ∧ e.bal = 0 ∧ e.st = 0 ∧ e.k = 0 ∧ e.key = 0 ∧ e.v = 0 ∧ e.seq = 0 ∧ e.deps.length = 0)
/-- An answer is of one of some replicas, and fits an id. -/
def anB (n : Int) (a : Pid) (x : An) : Bool := decide (0 ≤ x.fr ∧ x.fr < n) && (if x.kn = true then enB x.en && decide (x.en.id = a) else unB x.en)
/-- Two commands are the same. -/
def cmS (x y : En) : Prop := x.k = y.k ∧ x.key = y.key ∧ x.v = y.v
instance (x y : En) : Decidable (cmS x y) := inferInstanceAs (Decidable (_ ∧ _ ∧ _))
/-- The first k answers are valid one by one, and in order. -/
def okI (n : Int) (a : Pid) (L : List An) (k : Nat) : Prop := ∀ i, i < k → anB n a (L.getD i an0) = true ∧ (0 < i → (L.getD (i - 1) an0).fr < (L.getD i an0).fr)
/-- All that the first k know has the same command. -/
def cmI (L : List An) (k : Nat) : Prop := ∀ i j, i < k → j < k → (L.getD i an0).kn = true → (L.getD j an0).kn = true → cmS (L.getD i an0).en (L.getD j an0).en
/-- Answers are valid. -/
def avP (n : Int) (a : Pid) (L : List An) : Prop := (1 ≤ n ∧ n ≤ 5) ∧ okP a = true ∧ okI n a L L.length ∧ cmI L L.length
theorem okI_next {n : Int} {a : Pid} {L : List An} {k : Nat} (h : okI n a L k) (h1 : anB n a (L.getD k an0) = true) (h2 : 0 < k → (L.getD (k - 1) an0).fr < (L.getD k an0).fr) : okI n a L (k + 1) := fun i hi => by
  rcases Nat.lt_succ_iff_lt_or_eq.1 hi with g | g
  · exact h i g
  · rw [g]; exact ⟨h1, h2⟩
/-- The first place of what is known among the first k. -/
def fsI (L : List An) (k : Nat) (f : Int) : Prop := (f = -1 ∧ ∀ i, i < k → (L.getD i an0).kn = false) ∨ ∃ j : Nat, j < k ∧ f = j ∧ (L.getD j an0).kn = true
theorem fsI_no {L : List An} {k : Nat} {f : Int} (h : fsI L k f) (hk : (L.getD k an0).kn = false) : fsI L (k + 1) f := by
  rcases h with ⟨h1, h2⟩ | ⟨j, h1, h2, h3⟩
  · refine .inl ⟨h1, fun i hi => ?_⟩
    rcases Nat.lt_succ_iff_lt_or_eq.1 hi with g | g
    · exact h2 i g
    · rw [g]; exact hk
  · exact .inr ⟨j, by omega, h2, h3⟩
theorem cmI_no {L : List An} {k : Nat} (h : cmI L k) (hk : (L.getD k an0).kn = false) : cmI L (k + 1) := fun i j hi hj h1 h2 => by
  rcases Nat.lt_succ_iff_lt_or_eq.1 hi with g | g
  · rcases Nat.lt_succ_iff_lt_or_eq.1 hj with g' | g'
    · exact h i j g g' h1 h2
    · rw [g', hk] at h2; cases h2
  · rw [g, hk] at h1; cases h1
theorem cmI_first {L : List An} {k : Nat} (hn : ∀ i, i < k → (L.getD i an0).kn = false) : cmI L (k + 1) := fun i j hi hj h1 h2 => by
  have e : ∀ i, i < k + 1 → (L.getD i an0).kn = true → i = k := fun i hi h => by
    rcases Nat.lt_succ_iff_lt_or_eq.1 hi with g | g
    · rw [hn i g] at h; cases h
    · exact g
  rw [e i hi h1, e j hj h2]
  exact ⟨rfl, rfl, rfl⟩
theorem cmI_more {L : List An} {k f : Nat} (h : cmI L k) (hf : f < k) (hk : (L.getD f an0).kn = true) (hc : cmS (L.getD f an0).en (L.getD k an0).en) : cmI L (k + 1) := fun i j hi hj h1 h2 => by
  have e : ∀ i, i < k + 1 → (L.getD i an0).kn = true → cmS (L.getD f an0).en (L.getD i an0).en := fun i hi hh => by
    rcases Nat.lt_succ_iff_lt_or_eq.1 hi with g | g
    · exact h f i hf g hk hh
    · rw [g]; exact hc
  have a := e i hi h1
  have b := e j hj h2
  exact ⟨a.1.symm.trans b.1, a.2.1.symm.trans b.2.1, a.2.2.symm.trans b.2.2⟩
theorem avP_bad1 {n : Int} {a : Pid} {L : List An} {k : Nat} (hk : k < L.length) (h : anB n a (L.getD k an0) = false) : ¬ avP n a L := fun g => by
  have := (g.2.2.1 k hk).1
  rw [h] at this; cases this
theorem avP_bad2 {n : Int} {a : Pid} {L : List An} {k : Nat} (hk : k < L.length) (h0 : 0 < k) (h : ¬ (L.getD (k - 1) an0).fr < (L.getD k an0).fr) : ¬ avP n a L := fun g => h ((g.2.2.1 k hk).2 h0)
theorem avP_bad3 {n : Int} {a : Pid} {L : List An} {i j : Nat} (hi : i < L.length) (hj : j < L.length) (h1 : (L.getD i an0).kn = true) (h2 : (L.getD j an0).kn = true) (h : ¬ cmS (L.getD i an0).en (L.getD j an0).en) : ¬ avP n a L := fun g => h (g.2.2.2 i j hi hj h1 h2)
/-- Whether answers are valid. -/
noncomputable def avB (n : Int) (a : Pid) (L : List An) : Bool := @decide (avP n a L) (Classical.propDecidable _)
theorem avB_yes {n : Int} {a : Pid} {L : List An} (h : avP n a L) : avB n a L = true := @decide_eq_true _ (Classical.propDecidable _) h
theorem avB_no {n : Int} {a : Pid} {L : List An} (h : ¬ avP n a L) : avB n a L = false := @decide_eq_false _ (Classical.propDecidable _) h
theorem avB_of {n : Int} {a : Pid} {L : List An} (h : avB n a L = true) : avP n a L := @of_decide_eq_true _ (Classical.propDecidable _) h
/-- Valid answers are at most five. -/
theorem avP_len {n : Int} {a : Pid} {L : List An} (h : avP n a L) : L.length ≤ 5 := by
  have key : ∀ k, k < L.length → (k : Int) ≤ (L.getD k an0).fr := by
    intro k
    induction k with
    | zero =>
      intro hk
      have := (h.2.2.1 0 hk).1
      simp only [anB, Bool.and_eq_true, decide_eq_true_eq] at this
      simpa using this.1.1
    | succ k ih =>
      intro hk
      have h1 := ih (by omega)
      have h2 := (h.2.2.1 (k + 1) hk).2 (by omega)
      rw [Nat.add_sub_cancel] at h2
      omega
  by_cases g : L.length ≤ 5
  · exact g
  · have h1 := key (L.length - 1) (by omega)
    have h2 := (h.2.2.1 (L.length - 1) (by omega)).1
    simp only [anB, Bool.and_eq_true, decide_eq_true_eq] at h2
    have h3 := h2.1.2
    have h4 := h.1.2
    omega
end Go.Proofs.Ytblkpkjgmjnimaa

/- The laws' copies of slices of entries. -/
namespace Go.Proofs.Ytblkpkjgmjnimaa
open Go.RowKit
set_option linter.unusedVariables false

/-- The cells of one entry in a row. -/
def EnC (cur : Array Value) (i : Nat) (e : En) (u : Value) : Prop := ∀ j, j < 9 → cur[i * 9 + j]? = (enc9 e u)[j]?
/-- A slice of entries in a block of its own, with lists in blocks of their own, all from B on. -/
def EnO (w : World) (B : Nat) (v : Value) (E : List En) : Prop :=
  ∃ g cap cur t, v = .slice (some ⟨g, 0, none⟩) E.length cap ∧ B ≤ g ∧ w.heap[g]? = some (.cells cur t (0, 0)) ∧ E.length ≤ cap ∧ E.length ≤ 2000000 ∧
    ∀ i, i < E.length → ∃ b u, B ≤ b ∧ b ≠ g ∧ EnC cur i (E.getD i en0) u ∧ OwnP w b u (E.getD i en0).deps
theorem enc_at {w : World} {g : Nat} {cur : Array Value} {t : TypeId} {i : Nat} {e : En} {u : Value} (hg : w.heap[g]? = some (.cells cur t (0, 0))) (hc : EnC cur i e u) (hI : Ids w u e.deps) : EnAt w g (0 + i * 9) e u := by
  have c := fun j hj => hc j hj
  rw [Nat.zero_add]
  refine ⟨?_, ?_, ?_, ?_, ?_, ?_, ?_, ?_, ?_, hI⟩ <;> rw [cell_of_cells hg]
  · exact c 0 (by omega)
  · exact c 1 (by omega)
  · exact c 2 (by omega)
  · exact c 3 (by omega)
  · exact c 4 (by omega)
  · exact c 5 (by omega)
  · exact c 6 (by omega)
  · exact c 7 (by omega)
  · exact c 8 (by omega)
theorem EnO.read {w : World} {B : Nat} {v : Value} {E : List En} (h : EnO w B v E) : Ens w v E := by
  obtain ⟨g, cap, cur, t, rfl, _, hg, h1, h2, h3⟩ := h
  have h' : ∀ i, ∃ u, i < E.length → EnC cur i (E.getD i en0) u ∧ Ids w u (E.getD i en0).deps := fun i => by
    by_cases hi : i < E.length
    · obtain ⟨b, u, _, _, hc, hO⟩ := h3 i hi
      exact ⟨u, fun _ => ⟨hc, hO.read⟩⟩
    · exact ⟨.slice none 0 0, fun hh => absurd hh hi⟩
  refine ⟨_, cap, rfl, h1, h2, .inr ⟨g, 0, fun i => Classical.choose (h' i), rfl, lt_of_heap hg, fun i hi => ?_⟩⟩
  obtain ⟨hc, hI⟩ := Classical.choose_spec (h' i) hi
  exact enc_at hg hc hI
theorem EnO.up {w w' : World} {B : Nat} {v : Value} {E : List En} (h : EnO w B v E) (hb : Below w.heap.size w w') : EnO w' B v E := by
  obtain ⟨g, cap, cur, t, rfl, h0, hg, h1, h2, h3⟩ := h
  refine ⟨g, cap, cur, t, rfl, h0, (hb.block g (lt_of_heap hg)).trans hg, h1, h2, fun i hi => ?_⟩
  obtain ⟨b, u, q1, q2, hc, ho⟩ := h3 i hi
  exact ⟨b, u, q1, q2, hc, ho.up hb ho.lt⟩

theorem info_en : (Try.prog.info? 46).map (fun i => (i.zero, i.size, i.bytes)) = some (some (.agg #[.int .i64 0, .int .i64 0, .int .i64 0, .int .i64 0, .int .i64 0, .int .i64 0, .int .i64 0, .int .i64 0, .slice none 0 0]), 9, 88) := by kernel_rfl
theorem made_ens (n : Nat) (hn : n ≤ 2000000) (w : World) : (Instr.makeSlice 50 (.int .i64 n) (.int .i64 n)).run Try.prog w = .ok (.slice (some ⟨w.heap.size, 0, none⟩) n n) (w.alloc (.cells (madeCells #[.int .i64 0, .int .i64 0, .int .i64 0, .int .i64 0, .int .i64 0, .int .i64 0, .int .i64 0, .int .i64 0, .slice none 0 0] (n * 9)) 46)) := by
  obtain ⟨i, hi, hz, hs, hb⟩ := info_parts info_en
  have hr := run_make (P := Try.prog) w 50 46 i _ Try.underlying50 hi hz .i64 .i64 n n (by omega) (Int.le_refl _) (by rw [hb]; omega) (by omega)
  simp only [Int.toNat_natCast, hs] at hr
  exact hr

/-- Copies so far. -/
def EnK (w : World) (B g n k : Nat) (E : List En) : Prop :=
  ∃ cur t, w.heap[g]? = some (.cells cur t (0, 0)) ∧ cur.size = n * 9 ∧ ∀ i, i < k → ∃ b u, B ≤ b ∧ b ≠ g ∧ EnC cur i (E.getD i en0) u ∧ OwnP w b u (E.getD i en0).deps
theorem EnK.lt {w : World} {B g n k : Nat} {E : List En} (h : EnK w B g n k E) : g < w.heap.size := by obtain ⟨cur, t, h, _⟩ := h; exact lt_of_heap h
theorem EnK.up {w w' : World} {B g n k : Nat} {E : List En} (h : EnK w B g n k E) (hb : Below w.heap.size w w') : EnK w' B g n k E := by
  obtain ⟨cur, t, h1, h2, h3⟩ := h
  refine ⟨cur, t, (hb.block g (lt_of_heap h1)).trans h1, h2, fun i hi => ?_⟩
  obtain ⟨b, u, q1, q2, hc, ho⟩ := h3 i hi
  exact ⟨b, u, q1, q2, hc, ho.up hb ho.lt⟩
theorem EnK.old {w : World} {B g n k : Nat} {E : List En} (h : EnK w B g n k E) {j : Nat} (hj : j < n * 9) : (∃ y, w.cell? ⟨g, j, none⟩ = some y) ∧ w.frozen? ⟨g, j, none⟩ = false := by
  obtain ⟨cur, t, h1, h2, _⟩ := h
  exact ⟨⟨cur[j]'(by omega), by rw [cell_of_cells h1]; simp [show j < cur.size by omega]⟩, by simp [World.frozen?, h1]⟩
theorem EnK.put {w : World} {B g n k : Nat} {E : List En} (h : EnK w B g n k E) (hk : k < n) {b : Nat} {u : Value} {e : En} (he : E.getD k en0 = e) (hB : B ≤ b) (hbg : b ≠ g) (ho : OwnP w b u e.deps) :
    EnK (((((((((w.setCell ⟨g, k * 9, none⟩ (.int .i64 e.id.1)).setCell ⟨g, k * 9 + 1, none⟩ (.int .i64 e.id.2)).setCell ⟨g, k * 9 + 2, none⟩ (.int .i64 e.bal)).setCell ⟨g, k * 9 + 3, none⟩ (.int .i64 e.st)).setCell ⟨g, k * 9 + 4, none⟩ (.int .i64 e.k)).setCell ⟨g, k * 9 + 5, none⟩ (.int .i64 e.key)).setCell ⟨g, k * 9 + 6, none⟩ (.int .i64 e.v)).setCell ⟨g, k * 9 + 7, none⟩ (.int .i64 e.seq)).setCell ⟨g, k * 9 + 8, none⟩ (u)) B g n (k + 1) E := by
  obtain ⟨cur, t, h1, h2, h3⟩ := h
  have oth : ∀ c, c ≠ g → (((((((((w.setCell ⟨g, k * 9, none⟩ (.int .i64 e.id.1)).setCell ⟨g, k * 9 + 1, none⟩ (.int .i64 e.id.2)).setCell ⟨g, k * 9 + 2, none⟩ (.int .i64 e.bal)).setCell ⟨g, k * 9 + 3, none⟩ (.int .i64 e.st)).setCell ⟨g, k * 9 + 4, none⟩ (.int .i64 e.k)).setCell ⟨g, k * 9 + 5, none⟩ (.int .i64 e.key)).setCell ⟨g, k * 9 + 6, none⟩ (.int .i64 e.v)).setCell ⟨g, k * 9 + 7, none⟩ (.int .i64 e.seq)).setCell ⟨g, k * 9 + 8, none⟩ (u)).heap[c]? = w.heap[c]? := fun c hc => by
    rw [heap_setCell_other _ _ _ _ hc, heap_setCell_other _ _ _ _ hc, heap_setCell_other _ _ _ _ hc, heap_setCell_other _ _ _ _ hc, heap_setCell_other _ _ _ _ hc, heap_setCell_other _ _ _ _ hc, heap_setCell_other _ _ _ _ hc, heap_setCell_other _ _ _ _ hc, heap_setCell_other _ _ _ _ hc]
  have e0 := heap_setCell_same _ g (k * 9 + 8) _ _ (u) (heap_setCell_same _ g (k * 9 + 7) _ _ (.int .i64 e.seq) (heap_setCell_same _ g (k * 9 + 6) _ _ (.int .i64 e.v) (heap_setCell_same _ g (k * 9 + 5) _ _ (.int .i64 e.key) (heap_setCell_same _ g (k * 9 + 4) _ _ (.int .i64 e.k) (heap_setCell_same _ g (k * 9 + 3) _ _ (.int .i64 e.st) (heap_setCell_same _ g (k * 9 + 2) _ _ (.int .i64 e.bal) (heap_setCell_same _ g (k * 9 + 1) _ _ (.int .i64 e.id.2) (heap_setCell_same _ g (k * 9) _ _ (.int .i64 e.id.1) (h1)))))))))
  refine ⟨_, t, e0, by simpa using h2, fun i hi => ?_⟩
  rcases Nat.lt_or_ge i k with hlt | hge
  · obtain ⟨b', u', q1, q2, hc, hO⟩ := h3 i hlt
    refine ⟨b', u', q1, q2, fun j hj => ?_, hO.same (oth b' q2)⟩
    rw [← hc j hj]
    repeat rw [Array.getElem?_setIfInBounds_ne (by omega)]
  · obtain rfl : i = k := by omega
    rw [he]
    refine ⟨b, u, hB, hbg, fun j hj => ?_, ho.same (oth b hbg)⟩
    have hsz : i * 9 + 8 < cur.size := by omega
    rcases (show j = 0 ∨ j = 1 ∨ j = 2 ∨ j = 3 ∨ j = 4 ∨ j = 5 ∨ j = 6 ∨ j = 7 ∨ j = 8 by omega) with rfl | rfl | rfl | rfl | rfl | rfl | rfl | rfl | rfl <;> simp [Array.getElem?_setIfInBounds, enc9] <;> omega
theorem enK_made (w : World) (n : Nat) (E : List En) (t : TypeId) : EnK (w.alloc (.cells (madeCells #[.int .i64 0, .int .i64 0, .int .i64 0, .int .i64 0, .int .i64 0, .int .i64 0, .int .i64 0, .int .i64 0, .slice none 0 0] (n * 9)) t)) w.heap.size w.heap.size n 0 E :=
  ⟨_, t, heap_alloc_new w _, by simp [madeCells], fun i hi => absurd hi (Nat.not_lt_zero _)⟩
end Go.Proofs.Ytblkpkjgmjnimaa

/- Rows of entries that are being built. -/
namespace Go.Proofs.Ytblkpkjgmjnimaa
open Go.RowKit
set_option linter.unusedVariables false

/-- A block's kind. -/
def BkT (w : World) (b : Nat) (t : TypeId) : Prop := ∃ cur, w.heap[b]? = some (.cells cur t (0, 0))
theorem BkT.ne {w : World} {b c : Nat} {t u : TypeId} (h : BkT w b t) (g : BkT w c u) (hn : t ≠ u) : b ≠ c := fun e => by
  obtain ⟨_, h⟩ := h; obtain ⟨_, g⟩ := g; subst e; rw [h] at g; simp at g; exact hn g.2
theorem BkT.lt {w : World} {b : Nat} {t : TypeId} (h : BkT w b t) : b < w.heap.size := by obtain ⟨_, h⟩ := h; exact lt_of_heap h
theorem rowT {w : World} {B : Nat} {e : TypeId} {size : Nat} {v : Value} {n : Nat} {xs : List Value} (h : w.ownsRow B e size v n xs) {k : Nat} (hk : v.ownBlock = some k) : BkT w k e ∧ B ≤ k := by
  rcases h.2 with ⟨rfl, _⟩ | ⟨g, cap, cur, rfl, hb, hg, _⟩
  · simp [Value.ownBlock] at hk
  · simp [Value.ownBlock] at hk; subst hk; exact ⟨⟨cur, hg⟩, hb⟩
theorem rowSame {w w' : World} {B : Nat} {e : TypeId} {size : Nat} {v : Value} {n : Nat} {xs : List Value} (h : w.ownsRow B e size v n xs) (hs : ∀ k, v.ownBlock = some k → w'.heap[k]? = w.heap[k]?) : w'.ownsRow B e size v n xs := by
  refine ⟨h.1, ?_⟩
  rcases h.2 with hn | ⟨g, cap, cur, rfl, hb, hg, rest⟩
  · exact .inl hn
  · exact .inr ⟨g, cap, cur, rfl, hb, (hs g rfl).trans hg, rest⟩
theorem Row.ownE {w : World} {B : Nat} {v : Value} {O : List Pid} (h : Row w B v O) (hl : O.length ≤ 2000000) : ∃ b, B ≤ b ∧ BkT w b 24 ∧ OwnP w b v O := by
  obtain ⟨b, hb, hO⟩ := h.own hl
  have e : v.ownBlock = some b := by obtain ⟨c, rfl, _⟩ := hO.shape; rfl
  exact ⟨b, hb, (rowT h.1 e).1, hO⟩

/-- Entries with the values of their lists. -/
abbrev EL : Type := List (En × Value)
def ecell (x : En × Value) : List Value := enc9 x.1 x.2
def flatE : EL → List Value
  | [] => []
  | x :: r => ecell x ++ flatE r
theorem ecell_len (x : En × Value) : (ecell x).length = 9 := rfl
theorem flatE_app : ∀ (A B : EL), flatE (A ++ B) = flatE A ++ flatE B
  | [], B => rfl
  | c :: r, B => by simp [flatE, flatE_app r B]
theorem flatE_len : ∀ L : EL, (flatE L).length = L.length * 9
  | [] => rfl
  | c :: r => by simp [flatE, ecell_len, flatE_len r]; omega
def ez : En × Value := (en0, .slice none 0 0)
theorem flatE_get : ∀ (L : EL) (i j : Nat), i < L.length → j < 9 → (flatE L)[i * 9 + j]? = (ecell (L.getD i ez))[j]?
  | [], i, j, h, _ => absurd h (by simp)
  | x :: r, 0, j, _, hj => by
    rw [flatE, Nat.zero_mul, Nat.zero_add, List.getElem?_append_left (by rw [ecell_len]; exact hj)]; rfl
  | x :: r, i + 1, j, h, hj => by
    have ih := flatE_get r i j (by simpa using h) hj
    rw [flatE, List.getElem?_append_right (by rw [ecell_len]; omega)]
    have e : (i + 1) * 9 + j - (ecell x).length = i * 9 + j := by rw [ecell_len]; omega
    rw [e, ih]; rfl

/-- A slice of entries that is being built. -/
structure ER (w : World) (B : Nat) (v : Value) (L : EL) : Prop where
  row : w.ownsRow B 46 9 v L.length (flatE L)
  nn : v ≠ .slice none 0 0
  deps : ∀ x ∈ L, ∃ b, B ≤ b ∧ v.ownBlock ≠ some b ∧ OwnP w b x.2 x.1.deps
theorem er_new (w : World) (B : Nat) (hB : B ≤ w.heap.size) : ER (w.alloc (.cells #[] 46)) B (.slice (some ⟨w.heap.size, 0, none⟩) 0 0) [] :=
  ⟨World.ownsRow_made _ #[] 0 hB (Nat.zero_le _) rfl, by simp, fun _ h => nomatch h⟩
section
variable {w w' : World} {B : Nat} {v : Value} {L : EL}
theorem ER.same (h : ER w B v L) (hk : ∀ b, B ≤ b → b < w.heap.size → w'.heap[b]? = w.heap[b]?) : ER w' B v L := by
  refine ⟨rowSame h.row fun k hk' => hk k (rowT h.row hk').2 (rowT h.row hk').1.lt, h.nn, fun x hx => ?_⟩
  obtain ⟨b, h1, h2, h3⟩ := h.deps x hx
  exact ⟨b, h1, h2, h3.same (hk b h1 h3.lt)⟩
theorem ER.up (h : ER w B v L) (hb : Below w.heap.size w w') : ER w' B v L := h.same fun b _ hl => hb.block b hl
theorem ER.put (h : ER w B v L) {o : Obj} {v' : Value} {x : En × Value} (hown : w'.ownsRow B 46 9 v' (L.length + 1) (flatE L ++ ecell x)) (hg : (w.alloc o).grownBy w' (Value.ownBlock v)) (hn : v' ≠ .slice none 0 0)
    (hat : v'.ownBlock = v.ownBlock ∨ v'.ownBlock = some (w.heap.size + 1)) (hx : ∃ b, B ≤ b ∧ v.ownBlock ≠ some b ∧ OwnP w b x.2 x.1.deps) : ER w' B v' (L ++ [x]) := by
  have keep : ∀ b, b < w.heap.size → v.ownBlock ≠ some b → w'.heap[b]? = w.heap[b]? := fun b hl hne =>
    (hg.block b (by simp; omega) (fun e => hne e.symm)).trans (Below.heap_alloc _ _ _ hl)
  refine ⟨by rw [flatE_app, List.length_append]; simpa [flatE] using hown, hn, fun y hy => ?_⟩
  have hh : ∃ b, B ≤ b ∧ v.ownBlock ≠ some b ∧ OwnP w b y.2 y.1.deps := by
    rcases List.mem_append.1 hy with hy | hy
    · exact h.deps y hy
    · rw [List.mem_singleton] at hy; rw [hy]; exact hx
  obtain ⟨b, h1, h2, h3⟩ := hh
  refine ⟨b, h1, ?_, h3.same (keep b h3.lt h2)⟩
  rcases hat with e | e
  · rw [e]; exact h2
  · rw [e]; intro e'; injection e' with e'; have := h3.lt; omega
/-- What an append leaves of other blocks. -/
theorem ER.grown (h : ER w B v L) {o : Obj} (hg : (w.alloc o).grownBy w' (Value.ownBlock v)) (hB : B ≤ w.heap.size) : Below B w w' := by
  have a := (Below.refl B w).alloc hB o
  exact a.trans ⟨hg.os, hg.tape, hg.output, hg.size, fun k hk => hg.block k (by have := a.size; omega) (fun e => absurd (rowT h.row e.symm).2 (by omega))⟩
theorem ER.shape (h : ER w B v L) : ∃ g cap, v = .slice (some ⟨g, 0, none⟩) L.length cap ∧ B ≤ g ∧ g < w.heap.size ∧ L.length ≤ cap ∧ cap ≤ maxLen := by
  rcases h.row.2 with ⟨rfl, _⟩ | ⟨g, cap, cur, rfl, hb, hg, hc, hm, _⟩
  · exact absurd rfl h.nn
  · exact ⟨g, cap, rfl, hb, lt_of_heap hg, hc, hm⟩
theorem fstE_getD {L : EL} {i : Nat} (hi : i < L.length) : (L.map Prod.fst).getD i en0 = (L.getD i ez).1 := by
  rw [List.getD_eq_getElem?_getD, List.getD_eq_getElem?_getD, List.getElem?_map, List.getElem?_eq_getElem hi]; rfl
theorem ER.eno (h : ER w B v L) (hl : L.length ≤ 2000000) : EnO w B v (L.map Prod.fst) := by
  rcases h.row.2 with ⟨rfl, _⟩ | ⟨g, cap, cur, rfl, hb, hg, hc, hm, hs, ht⟩
  · exact absurd rfl h.nn
  · refine ⟨g, cap, cur, _, by rw [List.length_map], hb, hg, by rw [List.length_map]; exact hc, by rw [List.length_map]; exact hl, fun i hi => ?_⟩
    rw [List.length_map] at hi
    rw [fstE_getD hi]
    have hx : L.getD i ez ∈ L := by rw [List.getD_eq_getElem?_getD, List.getElem?_eq_getElem hi]; exact List.getElem_mem hi
    have hk : ∀ j, j < 9 → cur[i * 9 + j]? = (ecell (L.getD i ez))[j]? := fun j hj => by
      rw [← flatE_get L i j hi hj, ← ht, List.getElem?_take, if_pos (by omega)]; simp
    obtain ⟨b, h1, h2, h3⟩ := h.deps _ hx
    exact ⟨b, _, h1, fun e => h2 (by rw [e]; rfl), hk, h3⟩
end
theorem nine_srcE (w : World) (t : TypeId) (x0 x1 x2 x3 x4 x5 x6 x7 x8 : Value) (n : Nat) (hn : n = w.heap.size) : ∀ j v, [x0, x1, x2, x3, x4, x5, x6, x7, x8][j]? = some v → (w.alloc (.cells #[x0, x1, x2, x3, x4, x5, x6, x7, x8] t)).cell? ((⟨n, 0, none⟩ : Addr).add j) = some v := by
  subst hn
  intro j v hj
  have h := heap_alloc_new w (.cells #[x0, x1, x2, x3, x4, x5, x6, x7, x8] t)
  rw [Addr.add_lit, Nat.zero_add, cell_of_cells h]
  simpa using hj
theorem nine_oneE (x0 x1 x2 x3 x4 x5 x6 x7 : Int) (a : Option Addr) (n c : Nat) : ∀ u ∈ [Value.int .i64 x0, .int .i64 x1, .int .i64 x2, .int .i64 x3, .int .i64 x4, .int .i64 x5, .int .i64 x6, .int .i64 x7, .slice a n c], u.oneCell' = true := by
  intro u hu
  simp at hu
  rcases hu with rfl | rfl | rfl | rfl | rfl | rfl | rfl | rfl | rfl <;> rfl
end Go.Proofs.Ytblkpkjgmjnimaa

/- Rows of answers that are being built. -/
namespace Go.Proofs.Ytblkpkjgmjnimaa
open Go.RowKit
set_option linter.unusedVariables false

/-- Answers with the values of their lists. -/
abbrev AL : Type := List (An × Value)
def acell (x : An × Value) : List Value := [.int .i64 x.1.fr, .bool x.1.kn, .int .i64 x.1.en.id.1, .int .i64 x.1.en.id.2, .int .i64 x.1.en.bal, .int .i64 x.1.en.st, .int .i64 x.1.en.k, .int .i64 x.1.en.key, .int .i64 x.1.en.v, .int .i64 x.1.en.seq, x.2]
def flatA : AL → List Value
  | [] => []
  | x :: r => acell x ++ flatA r
theorem acell_len (x : An × Value) : (acell x).length = 11 := rfl
theorem flatA_app : ∀ (A B : AL), flatA (A ++ B) = flatA A ++ flatA B
  | [], B => rfl
  | c :: r, B => by simp [flatA, flatA_app r B]
theorem flatA_len : ∀ L : AL, (flatA L).length = L.length * 11
  | [] => rfl
  | c :: r => by simp [flatA, acell_len, flatA_len r]; omega
def az : An × Value := (an0, .slice none 0 0)
theorem flatA_get : ∀ (L : AL) (i j : Nat), i < L.length → j < 11 → (flatA L)[i * 11 + j]? = (acell (L.getD i az))[j]?
  | [], i, j, h, _ => absurd h (by simp)
  | x :: r, 0, j, _, hj => by
    rw [flatA, Nat.zero_mul, Nat.zero_add, List.getElem?_append_left (by rw [acell_len]; exact hj)]; rfl
  | x :: r, i + 1, j, h, hj => by
    have ih := flatA_get r i j (by simpa using h) hj
    rw [flatA, List.getElem?_append_right (by rw [acell_len]; omega)]
    have e : (i + 1) * 11 + j - (acell x).length = i * 11 + j := by rw [acell_len]; omega
    rw [e, ih]; rfl
theorem flatA_one : ∀ (L : AL), (∀ x ∈ L, ∃ a n c, x.2 = .slice a n c) → ∀ u ∈ flatA L, u.oneCell' = true
  | [], _, u, hu => by simp [flatA] at hu
  | x :: r, h, u, hu => by
    rw [flatA, List.mem_append] at hu
    rcases hu with hu | hu
    · obtain ⟨a, n, c, e⟩ := h x List.mem_cons_self
      simp only [acell, e, List.mem_cons, List.not_mem_nil, or_false] at hu
      rcases hu with rfl | rfl | rfl | rfl | rfl | rfl | rfl | rfl | rfl | rfl | rfl <;> rfl
    · exact flatA_one r (fun y hy => h y (List.mem_cons_of_mem _ hy)) u hu

/-- An answer's list: none, or in a block of its own. -/
def DpO (w : World) (B : Nat) (v u : Value) (C : List Pid) : Prop := (u = .slice none 0 0 ∧ C = []) ∨ ∃ b, B ≤ b ∧ v.ownBlock ≠ some b ∧ OwnP w b u C
theorem DpO.ids {w : World} {B : Nat} {v u : Value} {C : List Pid} (h : DpO w B v u C) : Ids w u C := by
  rcases h with ⟨rfl, rfl⟩ | ⟨b, _, _, h⟩
  · exact ⟨none, 0, rfl, Nat.le_refl _, Nat.zero_le _, .inl rfl⟩
  · exact h.read
/-- A slice of answers that is being built. -/
structure AR (w : World) (B : Nat) (v : Value) (L : AL) : Prop where
  row : w.ownsRow B 48 11 v L.length (flatA L)
  nn : v ≠ .slice none 0 0
  deps : ∀ x ∈ L, DpO w B v x.2 x.1.en.deps
theorem ar_new (w : World) (B : Nat) (hB : B ≤ w.heap.size) : AR (w.alloc (.cells #[] 48)) B (.slice (some ⟨w.heap.size, 0, none⟩) 0 0) [] :=
  ⟨World.ownsRow_made _ #[] 0 hB (Nat.zero_le _) rfl, by simp, fun _ h => nomatch h⟩
section
variable {w w' : World} {B : Nat} {v : Value} {L : AL}
theorem AR.same (h : AR w B v L) (hk : ∀ b, B ≤ b → b < w.heap.size → w'.heap[b]? = w.heap[b]?) : AR w' B v L := by
  refine ⟨rowSame h.row fun k hk' => hk k (rowT h.row hk').2 (rowT h.row hk').1.lt, h.nn, fun x hx => ?_⟩
  rcases h.deps x hx with g | ⟨b, h1, h2, h3⟩
  · exact .inl g
  · exact .inr ⟨b, h1, h2, h3.same (hk b h1 h3.lt)⟩
theorem AR.up (h : AR w B v L) (hb : Below w.heap.size w w') : AR w' B v L := h.same fun b _ hl => hb.block b hl
theorem AR.put (h : AR w B v L) {o : Obj} {v' : Value} {x : An × Value} (hown : w'.ownsRow B 48 11 v' (L.length + 1) (flatA L ++ acell x)) (hg : (w.alloc o).grownBy w' (Value.ownBlock v)) (hn : v' ≠ .slice none 0 0)
    (hat : v'.ownBlock = v.ownBlock ∨ v'.ownBlock = some (w.heap.size + 1)) (hx : DpO w B v x.2 x.1.en.deps) : AR w' B v' (L ++ [x]) := by
  have keep : ∀ b, b < w.heap.size → v.ownBlock ≠ some b → w'.heap[b]? = w.heap[b]? := fun b hl hne =>
    (hg.block b (by simp; omega) (fun e => hne e.symm)).trans (Below.heap_alloc _ _ _ hl)
  refine ⟨by rw [flatA_app, List.length_append]; simpa [flatA] using hown, hn, fun y hy => ?_⟩
  have hh : DpO w B v y.2 y.1.en.deps := by
    rcases List.mem_append.1 hy with hy | hy
    · exact h.deps y hy
    · rw [List.mem_singleton] at hy; rw [hy]; exact hx
  rcases hh with g | ⟨b, h1, h2, h3⟩
  · exact .inl g
  · refine .inr ⟨b, h1, ?_, h3.same (keep b h3.lt h2)⟩
    rcases hat with e | e
    · rw [e]; exact h2
    · rw [e]; intro e'; injection e' with e'; have := h3.lt; omega
/-- What an append leaves of other blocks. -/
theorem AR.grown (h : AR w B v L) {o : Obj} (hg : (w.alloc o).grownBy w' (Value.ownBlock v)) (hB : B ≤ w.heap.size) : Below B w w' := by
  have a := (Below.refl B w).alloc hB o
  exact a.trans ⟨hg.os, hg.tape, hg.output, hg.size, fun k hk => hg.block k (by have := a.size; omega) (fun e => absurd (rowT h.row e.symm).2 (by omega))⟩
theorem AR.shape (h : AR w B v L) : ∃ g cap, v = .slice (some ⟨g, 0, none⟩) L.length cap ∧ B ≤ g ∧ g < w.heap.size ∧ L.length ≤ cap ∧ cap ≤ maxLen := by
  rcases h.row.2 with ⟨rfl, _⟩ | ⟨g, cap, cur, rfl, hb, hg, hc, hm, _⟩
  · exact absurd rfl h.nn
  · exact ⟨g, cap, rfl, hb, lt_of_heap hg, hc, hm⟩
theorem fstA_getD {L : AL} {i : Nat} (hi : i < L.length) : (L.map Prod.fst).getD i an0 = (L.getD i az).1 := by
  rw [List.getD_eq_getElem?_getD, List.getD_eq_getElem?_getD, List.getElem?_map, List.getElem?_eq_getElem hi]; rfl
end
/-- Cells of an answer in a block. -/
theorem anc_at {w : World} {g i : Nat} {cur : Array Value} {t : TypeId} {x : An} {u : Value} (hg : w.heap[g]? = some (.cells cur t (0, 0))) (hc : ∀ j, j < 11 → cur[i * 11 + j]? = (acell (x, u))[j]?) (hI : Ids w u x.en.deps) : AnAt w g (0 + i * 11) x u := by
  rw [Nat.zero_add]
  refine ⟨?_, ?_, ?_, ?_, ?_, ?_, ?_, ?_, ?_, ?_, ?_, hI⟩ <;> rw [cell_of_cells hg]
  · exact hc 0 (by omega)
  · exact hc 1 (by omega)
  · exact hc 2 (by omega)
  · exact hc 3 (by omega)
  · exact hc 4 (by omega)
  · exact hc 5 (by omega)
  · exact hc 6 (by omega)
  · exact hc 7 (by omega)
  · exact hc 8 (by omega)
  · exact hc 9 (by omega)
  · exact hc 10 (by omega)
/-- Such a row, read as answers. -/
theorem ans_rowAt {w : World} {B : Nat} {v : Value} {L : AL} (h : w.ownsRow B 48 11 v L.length (flatA L)) (hn : v ≠ .slice none 0 0) (hI : ∀ x ∈ L, Ids w x.2 x.1.en.deps) :
    ∃ g cap, v = .slice (some ⟨g, 0, none⟩) L.length cap ∧ L.length ≤ cap ∧ AnsAt w g 0 (L.map Prod.fst) (fun i => (L.getD i az).2) := by
  rcases h.2 with ⟨rfl, _⟩ | ⟨g, cap, cur, rfl, hb, hg, hc, hm, hs, ht⟩
  · exact absurd rfl hn
  · refine ⟨g, cap, rfl, hc, lt_of_heap hg, fun i hi => ?_⟩
    rw [List.length_map] at hi
    rw [fstA_getD hi]
    have hx : L.getD i az ∈ L := by rw [List.getD_eq_getElem?_getD, List.getElem?_eq_getElem hi]; exact List.getElem_mem hi
    exact anc_at hg (fun j hj => by rw [show acell ((L.getD i az).1, (L.getD i az).2) = acell (L.getD i az) from rfl, ← flatA_get L i j hi hj, ← ht, List.getElem?_take, if_pos (by omega)]; simp) (hI _ hx)
theorem ans_row {w : World} {B : Nat} {v : Value} {L : AL} (h : w.ownsRow B 48 11 v L.length (flatA L)) (hn : v ≠ .slice none 0 0) (hI : ∀ x ∈ L, Ids w x.2 x.1.en.deps) (hl : L.length ≤ 2000000) : Ans w v (L.map Prod.fst) := by
  obtain ⟨g, cap, rfl, hc, hA⟩ := ans_rowAt h hn hI
  exact ⟨_, cap, by rw [List.length_map], by rw [List.length_map]; exact hc, by rw [List.length_map]; exact hl, .inr ⟨g, 0, _, rfl, hA⟩⟩
theorem AR.ans {w : World} {B : Nat} {v : Value} {L : AL} (h : AR w B v L) (hl : L.length ≤ 2000000) : Ans w v (L.map Prod.fst) := ans_row h.row h.nn (fun x hx => (h.deps x hx).ids) hl
theorem AR.at_ {w : World} {B : Nat} {v : Value} {L : AL} (h : AR w B v L) : ∃ g cap, v = .slice (some ⟨g, 0, none⟩) L.length cap ∧ L.length ≤ cap ∧ AnsAt w g 0 (L.map Prod.fst) (fun i => (L.getD i az).2) := ans_rowAt h.row h.nn (fun x hx => (h.deps x hx).ids)
/-- A part of a slice of answers. -/
def alr (L : List An) (U : Nat → Value) (a m : Nat) : AL := (List.range' a m).map fun i => (L.getD i an0, U i)
theorem alr_len (L : List An) (U : Nat → Value) (a m : Nat) : (alr L U a m).length = m := by simp [alr]
theorem alr_get {L : List An} {U : Nat → Value} {a m i : Nat} (hi : i < m) : (alr L U a m).getD i az = (L.getD (a + i) an0, U (a + i)) := by
  unfold alr
  rw [List.getD_eq_getElem?_getD, List.getElem?_map, List.getElem?_eq_getElem (by simpa using hi), List.getElem_range']
  simp
theorem alr_fst {L : List An} {U : Nat → Value} {a m : Nat} (h : a + m ≤ L.length) : (alr L U a m).map Prod.fst = (L.drop a).take m := by
  refine List.ext_getElem (by simp [alr]; omega) fun i h1 h2 => ?_
  simp only [List.length_map, alr_len] at h1
  have hl : i < (alr L U a m).length := by rw [alr_len]; exact h1
  have e := alr_get (L := L) (U := U) (a := a) h1
  rw [List.getD_eq_getElem?_getD, List.getElem?_eq_getElem hl] at e
  simp only [Option.getD_some] at e
  rw [List.getElem_map, e, List.getElem_take, List.getElem_drop, List.getD_eq_getElem?_getD, List.getElem?_eq_getElem (by omega)]
  rfl
theorem alr_mem {L : List An} {U : Nat → Value} {a m : Nat} {x : An × Value} (h : x ∈ alr L U a m) : ∃ i, a ≤ i ∧ i < a + m ∧ x = (L.getD i an0, U i) := by
  unfold alr at h
  rw [List.mem_map] at h
  obtain ⟨i, hi, rfl⟩ := h
  rw [List.mem_range'] at hi
  obtain ⟨j, h1, h2⟩ := hi
  exact ⟨i, by omega, by omega, rfl⟩
theorem alr_src {w : World} {g off : Nat} {L : List An} {U : Nat → Value} (h : AnsAt w g off L U) (a m : Nat) (ham : a + m ≤ L.length) : ∀ j u, (flatA (alr L U a m))[j]? = some u → w.cell? ((⟨g, off + a * 11, none⟩ : Addr).add j) = some u := by
  intro j u hu
  have hj : j < m * 11 := by
    have := (List.getElem?_eq_some_iff.1 hu).1
    rw [flatA_len, alr_len] at this; exact this
  have e : j / 11 * 11 + j % 11 = j := by omega
  have hi : j / 11 < (alr L U a m).length := by rw [alr_len]; omega
  have hg := flatA_get (alr L U a m) (j / 11) (j % 11) hi (by omega)
  rw [e, hu, alr_get (by omega)] at hg
  have hP := h.at_ (a + j / 11) (by omega)
  rw [Addr.add_lit]
  have key : ∀ r, j % 11 = r → off + a * 11 + j = off + (a + j / 11) * 11 + r := fun r hr => by omega
  rcases (show j % 11 = 0 ∨ j % 11 = 1 ∨ j % 11 = 2 ∨ j % 11 = 3 ∨ j % 11 = 4 ∨ j % 11 = 5 ∨ j % 11 = 6 ∨ j % 11 = 7 ∨ j % 11 = 8 ∨ j % 11 = 9 ∨ j % 11 = 10 by omega) with r | r | r | r | r | r | r | r | r | r | r <;> rw [key _ r] <;> rw [r] at hg <;> simp only [acell, List.getElem?_cons_zero, List.getElem?_cons_succ, Option.some.injEq] at hg <;> subst hg
  · exact hP.c0
  · exact hP.c1
  · exact hP.c2
  · exact hP.c3
  · exact hP.c4
  · exact hP.c5
  · exact hP.c6
  · exact hP.c7
  · exact hP.c8
  · exact hP.c9
  · exact hP.c10
theorem alr_one {w : World} {g off : Nat} {L : List An} {U : Nat → Value} (h : AnsAt w g off L U) (a m : Nat) (ham : a + m ≤ L.length) : ∀ u ∈ flatA (alr L U a m), u.oneCell' = true :=
  flatA_one _ fun x hx => by
    obtain ⟨i, _, hi, rfl⟩ := alr_mem hx
    obtain ⟨a', c, e, _⟩ := (h.at_ i (by omega)).ids
    exact ⟨a', _, c, e⟩
/-- Two parts of a slice of answers. -/
theorem ans_two {w : World} {B g off : Nat} {v : Value} {L : List An} {U : Nat → Value} {a m b k : Nat} (hA : AnsAt w g off L U) (h1 : a + m ≤ L.length) (h2 : b + k ≤ L.length) (h : w.ownsRow B 48 11 v (m + k) (flatA (alr L U a m) ++ flatA (alr L U b k))) (hn : v ≠ .slice none 0 0) (hl : m + k ≤ 2000000) :
    Ans w v ((L.drop a).take m ++ (L.drop b).take k) := by
  rw [← alr_fst (U := U) h1, ← alr_fst (U := U) h2, ← List.map_append]
  refine ans_row (B := B) (by rw [List.length_append, alr_len, alr_len, flatA_app]; exact h) hn (fun x hx => ?_) (by rw [List.length_append, alr_len, alr_len]; exact hl)
  rcases List.mem_append.1 hx with hx | hx
  · obtain ⟨i, _, hi, rfl⟩ := alr_mem hx
    exact (hA.at_ i (by omega)).ids
  · obtain ⟨i, _, hi, rfl⟩ := alr_mem hx
    exact (hA.at_ i (by omega)).ids
theorem info_an : (Try.prog.info? 48).map (fun i => (i.zero, i.size, i.bytes)) = some (some (.agg #[.int .i64 0, .bool false, .int .i64 0, .int .i64 0, .int .i64 0, .int .i64 0, .int .i64 0, .int .i64 0, .int .i64 0, .int .i64 0, .slice none 0 0]), 11, 104) := by kernel_rfl
end Go.Proofs.Ytblkpkjgmjnimaa

/- Nine cells stored, one after the other. -/
namespace Go.Proofs.Ytblkpkjgmjnimaa
open Go.RowKit
set_option linter.unusedVariables false

theorem put9_at {w : World} {b : Nat} {t : TypeId} {y0 y1 y2 y3 y4 y5 y6 y7 y8 : Value} (x0 x1 x2 x3 x4 x5 x6 x7 x8 : Value) (h : w.heap[b]? = some (.cells #[y0, y1, y2, y3, y4, y5, y6, y7, y8] t (0, 0))) :
    (((((((((w.setCell ⟨b, 0, none⟩ x0).setCell ⟨b, 1, none⟩ x1).setCell ⟨b, 2, none⟩ x2).setCell ⟨b, 3, none⟩ x3).setCell ⟨b, 4, none⟩ x4).setCell ⟨b, 5, none⟩ x5).setCell ⟨b, 6, none⟩ x6).setCell ⟨b, 7, none⟩ x7).setCell ⟨b, 8, none⟩ x8).heap[b]? = some (.cells #[x0, x1, x2, x3, x4, x5, x6, x7, x8] t (0, 0)) := by
  have e := heap_setCell_same _ b 8 _ _ x8 (heap_setCell_same _ b 7 _ _ x7 (heap_setCell_same _ b 6 _ _ x6 (heap_setCell_same _ b 5 _ _ x5 (heap_setCell_same _ b 4 _ _ x4 (heap_setCell_same _ b 3 _ _ x3 (heap_setCell_same _ b 2 _ _ x2 (heap_setCell_same _ b 1 _ _ x1 (heap_setCell_same _ b 0 _ _ x0 (h)))))))))
  simp only [List.setIfInBounds_toArray, List.set_cons_zero, List.set_cons_succ] at e
  exact e
theorem put9_other {w : World} {b c : Nat} (x0 x1 x2 x3 x4 x5 x6 x7 x8 : Value) (h : c ≠ b) :
    (((((((((w.setCell ⟨b, 0, none⟩ x0).setCell ⟨b, 1, none⟩ x1).setCell ⟨b, 2, none⟩ x2).setCell ⟨b, 3, none⟩ x3).setCell ⟨b, 4, none⟩ x4).setCell ⟨b, 5, none⟩ x5).setCell ⟨b, 6, none⟩ x6).setCell ⟨b, 7, none⟩ x7).setCell ⟨b, 8, none⟩ x8).heap[c]? = w.heap[c]? := by
  rw [heap_setCell_other _ _ _ _ h, heap_setCell_other _ _ _ _ h, heap_setCell_other _ _ _ _ h, heap_setCell_other _ _ _ _ h, heap_setCell_other _ _ _ _ h, heap_setCell_other _ _ _ _ h, heap_setCell_other _ _ _ _ h, heap_setCell_other _ _ _ _ h, heap_setCell_other _ _ _ _ h]
theorem put9_below {w : World} {b B : Nat} (x0 x1 x2 x3 x4 x5 x6 x7 x8 : Value) (h : B ≤ b) :
    Below B w (((((((((w.setCell ⟨b, 0, none⟩ x0).setCell ⟨b, 1, none⟩ x1).setCell ⟨b, 2, none⟩ x2).setCell ⟨b, 3, none⟩ x3).setCell ⟨b, 4, none⟩ x4).setCell ⟨b, 5, none⟩ x5).setCell ⟨b, 6, none⟩ x6).setCell ⟨b, 7, none⟩ x7).setCell ⟨b, 8, none⟩ x8) :=
  (((((((((Below.refl B w).setCell (p := ⟨b, 0, none⟩) h x0).setCell (p := ⟨b, 1, none⟩) h x1).setCell (p := ⟨b, 2, none⟩) h x2).setCell (p := ⟨b, 3, none⟩) h x3).setCell (p := ⟨b, 4, none⟩) h x4).setCell (p := ⟨b, 5, none⟩) h x5).setCell (p := ⟨b, 6, none⟩) h x6).setCell (p := ⟨b, 7, none⟩) h x7).setCell (p := ⟨b, 8, none⟩) h x8
theorem nine_all {w : World} {b : Nat} {x0 x1 x2 x3 x4 x5 x6 x7 x8 : Value} {t : TypeId} (h : w.heap[b]? = some (.cells #[x0, x1, x2, x3, x4, x5, x6, x7, x8] t (0, 0))) :
    (w.cell? ⟨b, 0, none⟩ = some x0 ∧ w.cell? ⟨b, 1, none⟩ = some x1 ∧ w.cell? ⟨b, 2, none⟩ = some x2 ∧ w.cell? ⟨b, 3, none⟩ = some x3 ∧ w.cell? ⟨b, 4, none⟩ = some x4 ∧ w.cell? ⟨b, 5, none⟩ = some x5 ∧ w.cell? ⟨b, 6, none⟩ = some x6 ∧ w.cell? ⟨b, 7, none⟩ = some x7 ∧ w.cell? ⟨b, 8, none⟩ = some x8) ∧ (w.frozen? ⟨b, 0, none⟩ = false ∧ w.frozen? ⟨b, 1, none⟩ = false ∧ w.frozen? ⟨b, 2, none⟩ = false ∧ w.frozen? ⟨b, 3, none⟩ = false ∧ w.frozen? ⟨b, 4, none⟩ = false ∧ w.frozen? ⟨b, 5, none⟩ = false ∧ w.frozen? ⟨b, 6, none⟩ = false ∧ w.frozen? ⟨b, 7, none⟩ = false ∧ w.frozen? ⟨b, 8, none⟩ = false) ∧ b < w.heap.size :=
  ⟨nine_cells h, ⟨nine_free h 0, nine_free h 1, nine_free h 2, nine_free h 3, nine_free h 4, nine_free h 5, nine_free h 6, nine_free h 7, nine_free h 8⟩, lt_of_heap h⟩
end Go.Proofs.Ytblkpkjgmjnimaa

/- CommandValid of the program. -/
namespace Go.Proofs.Ytblkpkjgmjnimaa
open Go.RowKit
set_option linter.unusedVariables false

theorem ivalid_any (k key v : Int) (w : World) :
    Calls Try.prog 41 #[.agg #[.int .i64 k, .int .i64 key, .int .i64 v]] w fun e w' => e = .returned (.bool (cvB k key v)) ∧ Below w.heap.size w w' := by
  have s1 := act_any k key v
  generalize actV k key v = x1 at s1
  generalize cvB k key v = q1 at s1
  go_enter Try.func41, Try.ntmps41
  go_wp2_with fail
  refine (s1 _).mono ?_
  rintro e w1 ⟨rfl, hb1⟩
  have D1 := Lib.hid (((Below.refl _ _).alloc (Nat.le_refl _) _).trans (hb1.mono (by simp)))
  clear hb1
  go_wp2_with fail
  go_ret
  exact ⟨rfl, D1.out⟩
end Go.Proofs.Ytblkpkjgmjnimaa

/- Plain facts: the greatest number among some entries of a log. -/
namespace Go.Proofs.Ytblkpkjgmjnimaa
set_option linter.unusedVariables false

/-- The greatest value of the entries that count, or 0. -/
def topF (f : En → Bool) (v : En → Int) : List En → Int
  | [] => 0
  | x :: r => if f x then max (v x) (topF f v r) else topF f v r
/-- g is the greatest value of the entries that count and have been seen, or 0. -/
structure TopP (E : List En) (S : Nat → Prop) (f : En → Bool) (v : En → Int) (g : Int) : Prop where
  nn : 0 ≤ g
  le : ∀ k, k < E.length → S k → f (E.getD k en0) = true → v (E.getD k en0) ≤ g
  is : g = 0 ∨ ∃ k, k < E.length ∧ S k ∧ f (E.getD k en0) = true ∧ v (E.getD k en0) = g
theorem topF_nn (f : En → Bool) (v : En → Int) : ∀ E : List En, 0 ≤ topF f v E
  | [] => Int.le_refl _
  | x :: r => by have := topF_nn f v r; unfold topF; split <;> omega
theorem topF_le {f : En → Bool} {v : En → Int} : ∀ {E : List En} {x : En}, x ∈ E → f x = true → v x ≤ topF f v E
  | y :: r, x, h, hf => by
    unfold topF
    rcases List.mem_cons.1 h with rfl | h
    · rw [if_pos hf]; omega
    · have := topF_le (v := v) h hf
      split <;> omega
theorem topF_is {f : En → Bool} {v : En → Int} : ∀ {E : List En}, topF f v E = 0 ∨ ∃ x, x ∈ E ∧ f x = true ∧ v x = topF f v E
  | [] => .inl rfl
  | y :: r => by
    unfold topF
    by_cases hf : f y = true
    · rw [if_pos hf]
      by_cases hv : topF f v r ≤ v y
      · exact .inr ⟨y, List.mem_cons_self, hf, by omega⟩
      · rcases topF_is (f := f) (v := v) (E := r) with h | ⟨x, h1, h2, h3⟩
        · left; omega
        · exact .inr ⟨x, List.mem_cons_of_mem _ h1, h2, by omega⟩
    · rw [if_neg hf]
      rcases topF_is (f := f) (v := v) (E := r) with h | ⟨x, h1, h2, h3⟩
      · exact .inl h
      · exact .inr ⟨x, List.mem_cons_of_mem _ h1, h2, h3⟩
theorem TopP.start (E : List En) (S : Nat → Prop) (h : ∀ k, ¬ S k) (f : En → Bool) (v : En → Int) : TopP E S f v 0 := ⟨Int.le_refl _, fun k _ hs => absurd hs (h k), .inl rfl⟩
theorem TopP.hit {E : List En} {S S' : Nat → Prop} {f : En → Bool} {v : En → Int} {g : Int} (h : TopP E S f v g) {k : Nat} (hk : k < E.length) (hS : ∀ j, S' j ↔ S j ∨ j = k) (hf : f (E.getD k en0) = true) : TopP E S' f v (max g (v (E.getD k en0))) := by
  refine ⟨by have := h.nn; omega, fun j hj hs hfj => ?_, ?_⟩
  · rcases (hS j).1 hs with hs | rfl
    · have := h.le j hj hs hfj; omega
    · omega
  · by_cases hv : v (E.getD k en0) ≤ g
    · rw [Int.max_eq_left hv]
      rcases h.is with h | ⟨j, h1, h2, h3⟩
      · exact .inl h
      · exact .inr ⟨j, h1, (hS j).2 (.inl h2), h3⟩
    · rw [Int.max_eq_right (by omega)]
      exact .inr ⟨k, hk, (hS k).2 (.inr rfl), hf, rfl⟩
theorem TopP.miss {E : List En} {S S' : Nat → Prop} {f : En → Bool} {v : En → Int} {g : Int} (h : TopP E S f v g) {k : Nat} (hS : ∀ j, S' j ↔ S j ∨ j = k) (hf : f (E.getD k en0) = false) : TopP E S' f v g := by
  refine ⟨h.nn, fun j hj hs hfj => ?_, ?_⟩
  · rcases (hS j).1 hs with hs | rfl
    · exact h.le j hj hs hfj
    · rw [hf] at hfj; cases hfj
  · rcases h.is with h | ⟨j, h1, h2, h3⟩
    · exact .inl h
    · exact .inr ⟨j, h1, (hS j).2 (.inl h2), h3⟩
theorem TopP.done {E : List En} {S : Nat → Prop} {f : En → Bool} {v : En → Int} {g : Int} (h : TopP E S f v g) (hS : ∀ k, k < E.length → S k) : g = topF f v E := by
  have h0 := topF_nn f v E
  have h1 : g ≤ topF f v E := by
    rcases h.is with h | ⟨k, h1, h2, h3, h4⟩
    · omega
    · rw [← h4]; exact topF_le (enD_mem h1) h3
  have h2 : topF f v E ≤ g := by
    rcases topF_is (f := f) (v := v) (E := E) with e | ⟨x, e1, e2, e3⟩
    · have := h.nn; omega
    · obtain ⟨k, hk, rfl⟩ := mem_enD e1
      rw [← e3]; exact h.le k hk (hS k hk) e2
  omega
theorem TopP.bound {E : List En} {S : Nat → Prop} {f : En → Bool} {v : En → Int} {g : Int} (h : TopP E S f v g) {N : Int} (h0 : 0 ≤ N) (hN : ∀ k, k < E.length → v (E.getD k en0) ≤ N) : g ≤ N := by
  rcases h.is with h | ⟨k, h1, _, _, h4⟩
  · omega
  · rw [← h4]; exact hN k h1
/-- The entries of a replica. -/
def ofR (p : Int) (x : En) : Bool := decide (x.id.1 = p)
/-- What NextNumber answers. -/
def nextR (E : List En) (p : Int) : Int := if logB E = true ∧ (0 ≤ p ∧ p ≤ 4) ∧ topF (ofR p) (fun x => x.id.2) E + 1 ≤ 50 then topF (ofR p) (fun x => x.id.2) E + 1 else -1
theorem nextR_bad {E : List En} {p : Int} (h : logB E = false) : nextR E p = -1 := by unfold nextR; rw [h, if_neg (by simp)]
theorem nextR_bad2 {E : List En} {p : Int} (h : ¬ (0 ≤ p ∧ p ≤ 4)) : nextR E p = -1 := by unfold nextR; rw [if_neg (fun x => h x.2.1)]
theorem nextR_full {E : List En} {p : Int} (h : ¬ topF (ofR p) (fun x => x.id.2) E + 1 ≤ 50) : nextR E p = -1 := by unfold nextR; rw [if_neg (fun x => h x.2.2)]
theorem nextR_good {E : List En} {p : Int} (h1 : logB E = true) (h2 : 0 ≤ p ∧ p ≤ 4) (h3 : topF (ofR p) (fun x => x.id.2) E + 1 ≤ 50) : nextR E p = topF (ofR p) (fun x => x.id.2) E + 1 := by unfold nextR; rw [if_pos ⟨h1, h2, h3⟩]
theorem log_num {E : List En} (h : logB E = true) {k : Nat} (hk : k < E.length) : okP (E.getD k en0).id = true := by
  have := (log_of h).2.1 _ (enD_mem hk)
  simp only [enB, ndB, En.nd, Bool.and_eq_true] at this
  exact this.1.1
theorem log_rank {E : List En} (h : logB E = true) {k : Nat} (hk : k < E.length) : 1 ≤ (E.getD k en0).seq ∧ (E.getD k en0).seq ≤ 99 := by
  have := (log_of h).2.1 _ (enD_mem hk)
  simp only [enB, ndB, En.nd, Bool.and_eq_true, decide_eq_true_eq] at this
  exact of_decide_eq_true (by simpa using this.1.2.1)
end Go.Proofs.Ytblkpkjgmjnimaa
