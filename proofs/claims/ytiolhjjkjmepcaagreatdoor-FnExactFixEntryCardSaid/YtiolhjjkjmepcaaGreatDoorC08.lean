/- Texts laid together. -/
import Derived.Test.YtiolhjjkjmepcaaGreatDoorC01
import Derived.Test.YtiolhjjkjmepcaaGreatDoorC02
/- Nine cells stored, one after the other. -/
namespace Go.Proofs.YtiolhjjkjmepcaaGreatDoor
open Go.RowKit
set_option linter.unusedVariables false

theorem put9_at {w : World} {b : Nat} {t : TypeId} {y0 y1 y2 y3 y4 y5 y6 y7 y8 : Value} (x0 x1 x2 x3 x4 x5 x6 x7 x8 : Value) (h : w.heap[b]? = some (.cells #[y0, y1, y2, y3, y4, y5, y6, y7, y8] t (0, 0))) :
    (((((((((w.setCell ⟨b, 0, none⟩ x0).setCell ⟨b, 1, none⟩ x1).setCell ⟨b, 2, none⟩ x2).setCell ⟨b, 3, none⟩ x3).setCell ⟨b, 4, none⟩ x4).setCell ⟨b, 5, none⟩ x5).setCell ⟨b, 6, none⟩ x6).setCell ⟨b, 7, none⟩ x7).setCell ⟨b, 8, none⟩ x8).heap[b]? = some (.cells #[x0, x1, x2, x3, x4, x5, x6, x7, x8] t (0, 0)) := by
  have e := heap_setCell_same _ b 8 _ _ x8 (heap_setCell_same _ b 7 _ _ x7 (heap_setCell_same _ b 6 _ _ x6 (heap_setCell_same _ b 5 _ _ x5 (heap_setCell_same _ b 4 _ _ x4 (heap_setCell_same _ b 3 _ _ x3 (heap_setCell_same _ b 2 _ _ x2 (heap_setCell_same _ b 1 _ _ x1 (heap_setCell_same _ b 0 _ _ x0 (h)))))))))
  simp only [List.setIfInBounds_toArray, List.set_cons_zero, List.set_cons_succ] at e
  exact e
theorem put9_other {w : World} {b c : Nat} (x0 x1 x2 x3 x4 x5 x6 x7 x8 : Value) (h : c ≠ b) :
    (((((((((w.setCell ⟨b, 0, none⟩ x0).setCell ⟨b, 1, none⟩ x1).setCell ⟨b, 2, none⟩ x2).setCell ⟨b, 3, none⟩ x3).setCell ⟨b, 4, none⟩ x4).setCell ⟨b, 5, none⟩ x5).setCell ⟨b, 6, none⟩ x6).setCell ⟨b, 7, none⟩ x7).setCell ⟨b, 8, none⟩ x8).heap[c]? = w.heap[c]? := by
  rw [heap_setCell_other _ _ _ _ h, heap_setCell_other _ _ _ _ h, heap_setCell_other _ _ _ _ h, heap_setCell_other _ _ _ _ h, heap_setCell_other _ _ _ _ h, heap_setCell_other _ _ _ _ h, heap_setCell_other _ _ _ _ h, heap_setCell_other _ _ _ _ h, heap_setCell_other _ _ _ _ h]
theorem put9_below {w : World} {b B : Nat} (x0 x1 x2 x3 x4 x5 x6 x7 x8 : Value) (h : B ≤ b) :
    Below B w (((((((((w.setCell ⟨b, 0, none⟩ x0).setCell ⟨b, 1, none⟩ x1).setCell ⟨b, 2, none⟩ x2).setCell ⟨b, 3, none⟩ x3).setCell ⟨b, 4, none⟩ x4).setCell ⟨b, 5, none⟩ x5).setCell ⟨b, 6, none⟩ x6).setCell ⟨b, 7, none⟩ x7).setCell ⟨b, 8, none⟩ x8) :=
  (((((((((Below.refl B w).setCell (p := ⟨b, 0, none⟩) h x0).setCell (p := ⟨b, 1, none⟩) h x1).setCell (p := ⟨b, 2, none⟩) h x2).setCell (p := ⟨b, 3, none⟩) h x3).setCell (p := ⟨b, 4, none⟩) h x4).setCell (p := ⟨b, 5, none⟩) h x5).setCell (p := ⟨b, 6, none⟩) h x6).setCell (p := ⟨b, 7, none⟩) h x7).setCell (p := ⟨b, 8, none⟩) h x8
theorem nine_all {w : World} {b : Nat} {x0 x1 x2 x3 x4 x5 x6 x7 x8 : Value} {t : TypeId} (h : w.heap[b]? = some (.cells #[x0, x1, x2, x3, x4, x5, x6, x7, x8] t (0, 0))) :
    (w.cell? ⟨b, 0, none⟩ = some x0 ∧ w.cell? ⟨b, 1, none⟩ = some x1 ∧ w.cell? ⟨b, 2, none⟩ = some x2 ∧ w.cell? ⟨b, 3, none⟩ = some x3 ∧ w.cell? ⟨b, 4, none⟩ = some x4 ∧ w.cell? ⟨b, 5, none⟩ = some x5 ∧ w.cell? ⟨b, 6, none⟩ = some x6 ∧ w.cell? ⟨b, 7, none⟩ = some x7 ∧ w.cell? ⟨b, 8, none⟩ = some x8) ∧ (w.frozen? ⟨b, 0, none⟩ = false ∧ w.frozen? ⟨b, 1, none⟩ = false ∧ w.frozen? ⟨b, 2, none⟩ = false ∧ w.frozen? ⟨b, 3, none⟩ = false ∧ w.frozen? ⟨b, 4, none⟩ = false ∧ w.frozen? ⟨b, 5, none⟩ = false ∧ w.frozen? ⟨b, 6, none⟩ = false ∧ w.frozen? ⟨b, 7, none⟩ = false ∧ w.frozen? ⟨b, 8, none⟩ = false) ∧ b < w.heap.size :=
  ⟨nine_cells h, ⟨nine_free h 0, nine_free h 1, nine_free h 2, nine_free h 3, nine_free h 4, nine_free h 5, nine_free h 6, nine_free h 7, nine_free h 8⟩, lt_of_heap h⟩
end Go.Proofs.YtiolhjjkjmepcaaGreatDoor

/- Which commands clash, as a sum of tests; two boxes of a call with two commands. -/
namespace Go.Proofs.YtiolhjjkjmepcaaGreatDoor
open Go.RowKit
set_option linter.unusedVariables false

def kcB (k key k' key' : Int) : Bool := decide (k ≠ 3 ∧ k' ≠ 3 ∧ key = key' ∧ (k ≠ k' ∨ k = 1))
theorem kc1 {k key k' key' : Int} (h : k = 3) : false = kcB k key k' key' := by rw [Bool.eq_iff_iff]; simp [kcB] at *; omega
theorem kc2 {k key k' key' : Int} (h : k' = 3) : false = kcB k key k' key' := by rw [Bool.eq_iff_iff]; simp [kcB] at *; omega
theorem kc3 {k key k' key' : Int} (h : ((k == 3) = true ∨ (k' == 3) = true) ∨ (key != key') = true) : false = kcB k key k' key' := by rw [Bool.eq_iff_iff]; simp [kcB] at *; omega
theorem kc4 {k key k' key' : Int} (h : ((k == 3) = false ∧ (k' == 3) = false) ∧ (key != key') = false) (h2 : k = k') : (k' == 1) = kcB k key k' key' := by rw [Bool.eq_iff_iff]; simp [kcB] at *; omega
theorem kc5 {k key k' key' : Int} (h : ((k == 3) = false ∧ (k' == 3) = false) ∧ (key != key') = false) (h2 : ¬k = k') : true = kcB k key k' key' := by rw [Bool.eq_iff_iff]; simp [kcB] at *; omega
/-- What CommandsClash answers. -/
def clB (k key v k' key' v' : Int) : Bool := cvB k key v && cvB k' key' v' && kcB k key k' key'
/-- The two boxes of a call with two commands, behind a callee that only makes memory. -/
theorem boxes2 {w w1 : World} {xs ys : Array Value} {t u : TypeId} (hb : Below ((w.alloc (.cells xs t)).alloc (.cells ys u)).heap.size ((w.alloc (.cells xs t)).alloc (.cells ys u)) w1) :
    w1.heap[w.heap.size]? = some (.cells xs t (0, 0)) ∧ w1.heap[w.heap.size + 1]? = some (.cells ys u (0, 0)) ∧ w.heap.size + 2 ≤ w1.heap.size ∧ Below w.heap.size w w1 :=
  ⟨(hb.block _ (by simp; omega)).trans ((Below.heap_alloc _ _ _ (by simp)).trans (heap_alloc_new w _)), (hb.block _ (by simp)).trans (heap_alloc_at _ _ _ (by simp)), by simpa using hb.size, (((Below.refl _ _).alloc (Nat.le_refl _) _).alloc (by simp) _).trans (hb.mono (by simp; omega))⟩
end Go.Proofs.YtiolhjjkjmepcaaGreatDoor

/- Plain facts: an entry put into a log, found there, and what a command depends on by a log. -/
namespace Go.Proofs.YtiolhjjkjmepcaaGreatDoor
set_option linter.unusedVariables false

theorem pw_ext {α : Type} {R : α → α → Prop} (hsy : ∀ a b, R a b → ¬ R b a) : ∀ {A B : List α}, A.Pairwise R → B.Pairwise R → (∀ x, x ∈ A ↔ x ∈ B) → A = B
  | [], [], _, _, _ => rfl
  | [], b :: s, _, _, h => absurd ((h b).2 List.mem_cons_self) (by simp)
  | a :: r, [], _, _, h => absurd ((h a).1 List.mem_cons_self) (by simp)
  | a :: r, b :: s, hA, hB, h => by
    have hA' := List.pairwise_cons.1 hA
    have hB' := List.pairwise_cons.1 hB
    have e : a = b := by
      rcases List.mem_cons.1 ((h a).1 List.mem_cons_self) with e | ha
      · exact e
      · rcases List.mem_cons.1 ((h b).2 List.mem_cons_self) with e | hb
        · exact e.symm
        · exact absurd (hB'.1 a ha) (hsy _ _ (hA'.1 b hb))
    subst e
    have nr : ¬ a ∈ r := fun hx => hsy _ _ (hA'.1 a hx) (hA'.1 a hx)
    have ns : ¬ a ∈ s := fun hx => hsy _ _ (hB'.1 a hx) (hB'.1 a hx)
    rw [pw_ext hsy hA'.2 hB'.2 (fun x => ?_)]
    constructor
    · intro hx
      rcases List.mem_cons.1 ((h x).1 (List.mem_cons_of_mem _ hx)) with e | hx'
      · subst e; exact absurd hx nr
      · exact hx'
    · intro hx
      rcases List.mem_cons.1 ((h x).2 (List.mem_cons_of_mem _ hx)) with e | hx'
      · subst e; exact absurd hx ns
      · exact hx'
/-- Entries with ascending ids. -/
theorem ascE_iff {E : List En} : Asc (idsE E) ↔ E.Pairwise fun x y => ltP x.id y.id = true := by unfold Asc idsE; exact List.pairwise_map
theorem ens_ext {A B : List En} (hA : Asc (idsE A)) (hB : Asc (idsE B)) (h : ∀ x, x ∈ A ↔ x ∈ B) : A = B :=
  pw_ext (R := fun x y : En => ltP x.id y.id = true) (fun a b h g => by rw [ltP_asym h] at g; cases g) (ascE_iff.1 hA) (ascE_iff.1 hB) h

/-- An entry put at its place, instead of the one with its id. -/
def putE (e : En) (E : List En) : List En := E.filter (fun x => ltP x.id e.id) ++ e :: E.filter (fun x => ltP e.id x.id)
theorem mem_putE {e x : En} {E : List En} : x ∈ putE e E ↔ x = e ∨ x ∈ E ∧ ¬ x.id = e.id := by
  unfold putE
  rw [List.mem_append, List.mem_cons, List.mem_filter, List.mem_filter]
  constructor
  · rintro (⟨h1, h2⟩ | h | ⟨h1, h2⟩)
    · exact .inr ⟨h1, fun e' => by rw [e', ltP_irr] at h2; cases h2⟩
    · exact .inl h
    · exact .inr ⟨h1, fun e' => by rw [e', ltP_irr] at h2; cases h2⟩
  · rintro (h | ⟨h1, h2⟩)
    · exact .inr (.inl h)
    · cases h3 : ltP x.id e.id with
      | true => exact .inl ⟨h1, rfl⟩
      | false =>
        cases h4 : ltP e.id x.id with
        | true => exact .inr (.inr ⟨h1, rfl⟩)
        | false => exact absurd (ltP_tri h3 h4) h2
theorem putE_asc {e : En} {E : List En} (h : Asc (idsE E)) : Asc (idsE (putE e E)) := by
  rw [ascE_iff] at h ⊢
  unfold putE
  refine List.pairwise_append.2 ⟨h.filter _, List.pairwise_cons.2 ⟨fun y hy => (List.mem_filter.1 hy).2, h.filter _⟩, fun x hx y hy => ?_⟩
  have hx2 := (List.mem_filter.1 hx).2
  rcases List.mem_cons.1 hy with rfl | hy
  · exact hx2
  · exact ltP_trans hx2 (List.mem_filter.1 hy).2
theorem putE_len {e : En} {E : List En} (h : Asc (idsE E)) : (putE e E).length = if e.id ∈ idsE E then E.length else E.length + 1 := by
  have hN : ∀ {A : List En}, Asc (idsE A) → (idsE A).Nodup := fun {A} hA => List.Pairwise.imp (fun {a b} hab e => by subst e; rw [ltP_irr] at hab; cases hab) hA
  have key : ∀ {A B : List Pid}, A.Nodup → (∀ x ∈ A, x ∈ B) → A.length ≤ B.length := by
    intro A
    induction A with
    | nil => intro B _ _; exact Nat.zero_le _
    | cons a r ih =>
      intro B hA hB
      obtain ⟨h1, h2⟩ := List.nodup_cons.1 hA
      have hb := hB a List.mem_cons_self
      have := ih (B := B.erase a) h2 (fun x hx => (List.mem_erase_of_ne (fun e : x = a => h1 (by rw [← e]; exact hx))).2 (hB x (List.mem_cons_of_mem _ hx)))
      rw [List.length_erase_of_mem hb] at this
      have : 0 < B.length := List.length_pos_of_mem hb
      simp only [List.length_cons]; omega
  have hm : ∀ a, a ∈ idsE (putE e E) ↔ a = e.id ∨ a ∈ idsE E := by
    intro a
    unfold idsE
    simp only [List.mem_map, mem_putE]
    constructor
    · rintro ⟨x, rfl | ⟨h1, h2⟩, rfl⟩
      · exact .inl rfl
      · exact .inr ⟨x, h1, rfl⟩
    · rintro (rfl | ⟨x, h1, rfl⟩)
      · exact ⟨e, .inl rfl, rfl⟩
      · by_cases h2 : x.id = e.id
        · exact ⟨e, .inl rfl, h2.symm⟩
        · exact ⟨x, .inr ⟨h1, h2⟩, rfl⟩
  have n1 := hN (putE_asc (e := e) h)
  have n2 := hN h
  rw [← idsE_len (putE e E), ← idsE_len E]
  split
  · rename_i hin
    refine Nat.le_antisymm (key n1 fun x hx => ?_) (key n2 fun x hx => (hm x).2 (.inr hx))
    rcases (hm x).1 hx with rfl | hx
    · exact hin
    · exact hx
  · rename_i hin
    have n3 : (e.id :: idsE E).Nodup := List.nodup_cons.2 ⟨hin, n2⟩
    exact Nat.le_antisymm (key (B := e.id :: idsE E) n1 fun x hx => List.mem_cons.2 ((hm x).1 hx)) (key (A := e.id :: idsE E) n3 fun x hx => (hm x).2 (List.mem_cons.1 hx))
theorem putE_valid {e : En} {E : List En} (hv : logB E = true) (he : enB e = true) (hl : (putE e E).length ≤ 12) : logB (putE e E) = true := by
  obtain ⟨_, h2, h3⟩ := log_of hv
  refine log_to hl (fun x hx => ?_) (putE_asc h3)
  rcases mem_putE.1 hx with rfl | ⟨hx, _⟩
  · exact he
  · exact h2 x hx
/-- What LogPut answers. -/
def lputR (E : List En) (e : En) : List En × Bool := if logB E = true ∧ enB e = true ∧ (putE e E).length ≤ 12 then (putE e E, true) else ([], false)
/-- What LogFind answers. -/
def lfindR (E : List En) (a : Pid) : En × Bool := if logB E = true then (match E.find? fun x => decide (x.id = a) with | some x => (x, true) | none => (en0, false)) else (en0, false)
/-- What a command clashes with, by a log. -/
def clsE (E : List En) (a : Pid) (k key : Int) : List En := E.filter fun x => !decide (x.id = a) && kcB x.k x.key k key
/-- The greatest rank. -/
def topE : List En → Int
  | [] => 0
  | x :: r => max x.seq (topE r)
/-- What LogAttrs answers. -/
def lattR (E : List En) (a : Pid) (k key v : Int) : Int × List Pid × Bool :=
  if logB E = true ∧ okP a = true ∧ cvB k key v = true ∧ topE (clsE E a k key) + 1 ≤ 99 then (topE (clsE E a k key) + 1, idsE (clsE E a k key), true) else (0, [], false)
theorem clsE_asc {E : List En} (h : Asc (idsE E)) (a : Pid) (k key : Int) : Asc (idsE (clsE E a k key)) := by
  rw [ascE_iff] at h ⊢; exact h.filter _
end Go.Proofs.YtiolhjjkjmepcaaGreatDoor

/- Plain facts: entries found in a log and in a book; an entry put at its place by going through the log; what a command clashes with, entry by entry. -/
namespace Go.Proofs.YtiolhjjkjmepcaaGreatDoor
set_option linter.unusedVariables false

theorem lfindR_bad {E : List En} (h : logB E = false) (a : Pid) : lfindR E a = (en0, false) := by
  unfold lfindR; rw [h, if_neg (by simp)]
theorem lfindR_none {E : List En} {a : Pid} (h : ∀ k, k < E.length → ¬ (E.getD k en0).id = a) : lfindR E a = (en0, false) := by
  unfold lfindR
  split
  · have e : E.find? (fun x => decide (x.id = a)) = none := by
      rw [List.find?_eq_none]
      intro x hx
      obtain ⟨k, hk, rfl⟩ := mem_enD hx
      simpa using h k hk
    rw [e]
  · rfl
theorem lfindR_some {E : List En} {a : Pid} (hv : logB E = true) {k : Nat} (hk : k < E.length) (e : (E.getD k en0).id = a) : lfindR E a = (E.getD k en0, true) := by
  unfold lfindR
  rw [if_pos hv]
  cases hf : E.find? (fun x => decide (x.id = a)) with
  | none =>
    rw [List.find?_eq_none] at hf
    have := hf _ (enD_mem hk)
    rw [e] at this; simp at this
  | some x =>
    have h1 := List.find?_some hf
    obtain ⟨j, hj, rfl⟩ := mem_enD (List.mem_of_find?_eq_some hf)
    have h1 : (E.getD j en0).id = a := by simpa using h1
    rw [log_inj hv hj hk (h1.trans e.symm)]

/-- One step of putting: what is there so far, and whether the entry is among it. -/
def stpE (e : En) (s : List En × Bool) (x : En) : List En × Bool :=
  let t := if s.2 = false ∧ ltP x.id e.id = false then (s.1 ++ [e], true) else s
  if x.id = e.id then t else (t.1 ++ [x], t.2)
def runE (e : En) (E : List En) : List En × Bool := E.foldl (stpE e) ([], false)
theorem runE_next (e : En) {E : List En} {k : Nat} (hk : k < E.length) : runE e (E.take (k + 1)) = stpE e (runE e (E.take k)) (E.getD k en0) := by
  unfold runE
  have : E.take (k + 1) = E.take k ++ [E.getD k en0] := by
    rw [List.take_add_one, List.getElem?_eq_getElem hk, List.getD_eq_getElem?_getD, List.getElem?_eq_getElem hk]; rfl
  rw [this, List.foldl_append]; rfl
def endE (e : En) (s : List En × Bool) : List En := if s.2 = true then s.1 else s.1 ++ [e]
theorem runE_at (e : En) : ∀ (R A : List En), Asc (idsE (A ++ R)) → (∀ x ∈ A, ltP x.id e.id = true) → endE e (R.foldl (stpE e) (A, false)) = A ++ putE e R := by
  intro R
  induction R with
  | nil => intro A _ _; simp [endE, putE]
  | cons x r ih =>
    intro A hA hl
    rw [ascE_iff] at hA
    have hA2 := (List.pairwise_append.1 hA).2.1
    have hx := List.pairwise_cons.1 hA2
    cases h : ltP x.id e.id with
    | true =>
      have hne : ¬ x.id = e.id := fun e' => by rw [e', ltP_irr] at h; cases h
      have s1 : stpE e (A, false) x = (A ++ [x], false) := by unfold stpE; simp [h, hne]
      rw [List.foldl_cons, s1, ih (A ++ [x]) (by rw [ascE_iff]; simpa using hA) (fun y hy => by
        rcases List.mem_append.1 hy with hy | hy
        · exact hl y hy
        · rw [List.mem_singleton] at hy; rw [hy]; exact h)]
      have hf : ltP e.id x.id = false := ltP_asym h
      simp [putE, h, hf]
    | false =>
      have rest : ∀ (B : List En), (∀ y ∈ r, ltP e.id y.id = true) → r.foldl (stpE e) (B, true) = (B ++ r, true) := by
        intro B
        clear ih hA hA2 hx
        induction r generalizing B with
        | nil => intro _; simp
        | cons y s ih =>
          intro hy
          have h1 := hy y List.mem_cons_self
          have hne : ¬ y.id = e.id := fun e' => by rw [e', ltP_irr] at h1; cases h1
          have s1 : stpE e (B, true) y = (B ++ [y], true) := by unfold stpE; simp [hne]
          rw [List.foldl_cons, s1, ih _ (fun z hz => hy z (List.mem_cons_of_mem _ hz))]
          simp
      have low : ∀ y ∈ r, ltP e.id y.id = true := fun y hy => by
        have g := hx.1 y hy
        cases h2 : ltP e.id x.id with
        | true => exact ltP_trans h2 g
        | false => rw [← ltP_tri h h2]; exact g
      have f1 : r.filter (fun y => ltP y.id e.id) = [] := List.filter_eq_nil_iff.2 fun y hy => by rw [ltP_asym (low y hy)]; simp
      have f2 : r.filter (fun y => ltP e.id y.id) = r := List.filter_eq_self.2 low
      by_cases hid : x.id = e.id
      · have s1 : stpE e (A, false) x = (A ++ [e], true) := by unfold stpE; simp [hid, ltP_irr]
        have h2 : ltP e.id x.id = false := by rw [hid]; exact ltP_irr _
        rw [List.foldl_cons, s1, rest _ low]
        simp [endE, putE, f1, f2, hid, ltP_irr]
      · have s1 : stpE e (A, false) x = (A ++ [e] ++ [x], true) := by unfold stpE; simp [h, hid]
        have h2 : ltP e.id x.id = true := by
          cases h2 : ltP e.id x.id with
          | true => rfl
          | false => exact absurd (ltP_tri h h2) hid
        rw [List.foldl_cons, s1, rest _ low]
        simp [endE, putE, h, h2, f1, f2]
/-- Going through the log puts the entry at its place. -/
theorem runE_put {e : En} {E : List En} (h : Asc (idsE E)) : endE e (runE e E) = putE e E := by
  have := runE_at e E [] (by simpa using h) (fun _ hx => nomatch hx)
  simpa [runE] using this
theorem runE_len (e : En) : ∀ (R : List En) (s : List En × Bool), (R.foldl (stpE e) s).1.length ≤ s.1.length + 2 * R.length := by
  intro R
  induction R with
  | nil => intro s; simp
  | cons x r ih =>
    intro s
    rw [List.foldl_cons]
    refine Nat.le_trans (ih _) ?_
    have : (stpE e s x).1.length ≤ s.1.length + 2 := by
      unfold stpE
      dsimp only
      split <;> split <;> simp <;> omega
    simp only [List.length_cons]; omega

theorem lputR_bad {E : List En} {e : En} (h : logB E = false) : lputR E e = ([], false) := by unfold lputR; rw [h, if_neg (by simp)]
theorem lputR_bad2 {E : List En} {e : En} (h : enB e = false) : lputR E e = ([], false) := by unfold lputR; rw [h, if_neg (by simp)]
theorem lputR_long {E : List En} {e : En} (h : ¬ (putE e E).length ≤ 12) : lputR E e = ([], false) := by unfold lputR; rw [if_neg (fun x => h x.2.2)]
theorem lputR_good {E : List En} {e : En} (h1 : logB E = true) (h2 : enB e = true) (h3 : (putE e E).length ≤ 12) : lputR E e = (putE e E, true) := by unfold lputR; rw [if_pos ⟨h1, h2, h3⟩]
theorem lputR_len (E : List En) (e : En) : (lputR E e).1.length ≤ 12 := by
  unfold lputR; split
  · rename_i h; exact h.2.2
  · exact Nat.zero_le _
theorem lputR_log {E : List En} {e : En} (h : (lputR E e).2 = true) : logB (lputR E e).1 = true := by
  unfold lputR at h ⊢
  split at h
  · rename_i g; rw [if_pos g]; exact putE_valid g.1 g.2.1 g.2.2
  · cases h

/-- What is gathered so far: 1 more than the greatest rank, and the ids. -/
def attE (E : List En) (a : Pid) (k key : Int) : Int × List Pid := (topE (clsE E a k key) + 1, idsE (clsE E a k key))
theorem topE_app : ∀ (A : List En) (x : En), topE (A ++ [x]) = max (topE A) (max x.seq 0)
  | [], x => by simp [topE]; omega
  | y :: r, x => by simp only [List.cons_append, topE, topE_app r x]; omega
theorem topE_nn : ∀ A : List En, 0 ≤ topE A
  | [] => Int.le_refl _
  | x :: r => by have := topE_nn r; simp only [topE]; omega
theorem clsE_next {E : List En} {n : Nat} (hn : n < E.length) (a : Pid) (k key : Int) : clsE (E.take (n + 1)) a k key = clsE (E.take n) a k key ++ (if ¬ (E.getD n en0).id = a ∧ kcB (E.getD n en0).k (E.getD n en0).key k key = true then [E.getD n en0] else []) := by
  have : E.take (n + 1) = E.take n ++ [E.getD n en0] := by
    rw [List.take_add_one, List.getElem?_eq_getElem hn, List.getD_eq_getElem?_getD, List.getElem?_eq_getElem hn]; rfl
  unfold clsE
  rw [this, List.filter_append]
  congr 1
  generalize E.getD n en0 = x
  by_cases h1 : x.id = a <;> cases h2 : kcB x.k x.key k key <;> simp [h1, h2]
end Go.Proofs.YtiolhjjkjmepcaaGreatDoor

/- What a valid entry is, part by part. -/
namespace Go.Proofs.YtiolhjjkjmepcaaGreatDoor
set_option linter.unusedVariables false

theorem enB_of {X : En} (h : enB X = true) : okP X.id = true ∧ (1 ≤ X.seq ∧ X.seq ≤ 99) ∧ srtB X.deps = true ∧ hasP X.deps X.id = false ∧ (0 ≤ X.bal ∧ X.bal ≤ 999) ∧ (1 ≤ X.st ∧ X.st ≤ 3) ∧ cvB X.k X.key X.v = true := by
  simp only [enB, ndB, En.nd, Bool.and_eq_true, decide_eq_true_eq, Bool.not_eq_true'] at h
  exact ⟨h.1.1, of_decide_eq_true h.1.2.1, h.1.2.2.1, h.1.2.2.2, by simpa using h.2.1, by simpa using h.2.2.1, h.2.2.2⟩
theorem enB_to {X : En} (h1 : okP X.id = true) (h2 : 1 ≤ X.seq ∧ X.seq ≤ 99) (h3 : srtB X.deps = true) (h4 : hasP X.deps X.id = false) (h5 : 0 ≤ X.bal ∧ X.bal ≤ 999) (h6 : 1 ≤ X.st ∧ X.st ≤ 3) (h7 : cvB X.k X.key X.v = true) : enB X = true := by
  simp only [enB, ndB, En.nd, Bool.and_eq_true, decide_eq_true_eq, Bool.not_eq_true']
  exact ⟨⟨h1, decide_eq_true h2, h3, h4⟩, by simpa using h5, by simpa using h6, h7⟩
end Go.Proofs.YtiolhjjkjmepcaaGreatDoor

/- An entry that was put: plain facts. -/
namespace Go.Proofs.YtiolhjjkjmepcaaGreatDoor
set_option linter.unusedVariables false

theorem put_put {E : List En} {Y : En} (h : Asc (idsE E)) : putE Y (putE Y E) = putE Y E := by
  refine ens_ext (putE_asc (putE_asc h)) (putE_asc h) (fun x => ?_)
  rw [mem_putE]
  constructor
  · rintro (e | ⟨h1, h2⟩)
    · exact mem_putE.2 (.inl e)
    · exact h1
  · intro h1
    rcases mem_putE.1 h1 with e | ⟨_, h2⟩
    · exact .inl e
    · exact .inr ⟨h1, h2⟩
theorem find_put {E : List En} {Y : En} (hL : logB (putE Y E) = true) : lfindR (putE Y E) Y.id = (Y, true) := by
  obtain ⟨k, hk, ek⟩ := List.getElem_of_mem (show Y ∈ putE Y E from mem_putE.2 (.inl rfl))
  have e : (putE Y E).getD k en0 = Y := by rw [List.getD_eq_getElem?_getD, List.getElem?_eq_getElem hk, Option.getD_some, ek]
  rw [lfindR_some hL hk (by rw [e]), e]
end Go.Proofs.YtiolhjjkjmepcaaGreatDoor

/- What TakeEntry and FixEntry answer: plain facts. -/
namespace Go.Proofs.YtiolhjjkjmepcaaGreatDoor
set_option linter.unusedVariables false

/-- Whether a log has an id fixed. -/
def fixedB (E : List En) (a : Pid) : Bool := (lfindR E a).2 && ((lfindR E a).1.st == 3)
/-- Whether a log has an entry's id with a greater ballot. -/
def passB (E : List En) (X : En) : Bool := (lfindR E X.id).2 && decide (X.bal < (lfindR E X.id).1.bal)
/-- Whether two entries have the same command, rank and ids. -/
def sameB (Z X : En) : Bool := decide (Z.k = X.k ∧ Z.key = X.key ∧ Z.v = X.v ∧ Z.seq = X.seq ∧ Z.deps = X.deps)
/-- What TakeEntry answers. -/
def takeR (E : List En) (X : En) : List En × Bool := if logB E = true ∧ enB X = true ∧ X.st = 2 ∧ fixedB E X.id = false ∧ passB E X = false then lputR E X else ([], false)
/-- What FixEntry answers. -/
def fixR (E : List En) (X : En) : List En × Bool :=
  if logB E = true ∧ enB X = true ∧ X.st = 3 then (if fixedB E X.id = true then (if sameB (lfindR E X.id).1 X = true then (E, true) else ([], false)) else lputR E X) else ([], false)
theorem lput_is {E : List En} {X : En} (h : (lputR E X).2 = true) : logB E = true ∧ enB X = true ∧ (putE X E).length ≤ 12 ∧ lputR E X = (putE X E, true) := by
  unfold lputR at h ⊢
  split at h
  · rename_i g; exact ⟨g.1, g.2.1, g.2.2, by rw [if_pos g]⟩
  · cases h
theorem take_is {E : List En} {X : En} (h : (takeR E X).2 = true) : logB E = true ∧ enB X = true ∧ X.st = 2 ∧ (putE X E).length ≤ 12 ∧ takeR E X = (putE X E, true) ∧ lputR E X = (putE X E, true) ∧ logB (putE X E) = true := by
  unfold takeR at h ⊢
  split at h
  · rename_i g
    obtain ⟨h1, h2, h3, h4⟩ := lput_is h
    exact ⟨h1, h2, g.2.2.1, h3, by rw [if_pos g]; exact h4, h4, putE_valid h1 h2 h3⟩
  · cases h
theorem take_old {E : List En} {X : En} (h : (takeR E X).2 = true) : takeR (takeR E X).1 { X with bal := X.bal - 1 } = ([], false) ∧ takeR (takeR E X).1 X = takeR E X := by
  obtain ⟨h1, h2, h3, h4, h5, h6, h7⟩ := take_is h
  rw [h5]
  have hf := find_put h7
  constructor
  · unfold takeR
    rw [if_neg]
    rintro ⟨_, _, _, _, g⟩
    unfold passB at g
    dsimp only at g
    rw [hf] at g
    simp at g
    omega
  · have g1 : fixedB (putE X E) X.id = false := by unfold fixedB; rw [hf]; simp [h3]
    have g2 : passB (putE X E) X = false := by unfold passB; rw [hf]; simp
    unfold takeR
    rw [if_pos ⟨h7, h2, h3, g1, g2⟩]
    have e := put_put (Y := X) (log_of h1).2.2
    rw [lputR_good h7 h2 (by rw [e]; exact h4), e]
/-- What a log has behind FixEntry. -/
theorem fix_is {E : List En} {X : En} (h : (fixR E X).2 = true) : logB E = true ∧ enB X = true ∧ X.st = 3 ∧ logB (fixR E X).1 = true ∧ (∃ Z, lfindR (fixR E X).1 X.id = (Z, true) ∧ Z.st = 3 ∧ sameB Z X = true) ∧
    ((fixR E X).1 = E ∨ (fixR E X).1 = putE X E) := by
  unfold fixR at h ⊢
  split at h
  · rename_i g
    rw [if_pos g]
    split at h
    · rename_i g2
      split at h
      · rename_i g3
        rw [if_pos g2, if_pos g3]
        unfold fixedB at g2
        rw [Bool.and_eq_true, beq_iff_eq] at g2
        refine ⟨g.1, g.2.1, g.2.2, g.1, ⟨(lfindR E X.id).1, Prod.ext rfl g2.1, g2.2, g3⟩, .inl rfl⟩
      · cases h
    · rename_i g2
      obtain ⟨h1, h2, h3, h4⟩ := lput_is h
      have h7 := putE_valid h1 h2 h3
      rw [if_neg g2, h4]
      exact ⟨h1, h2, g.2.2, h7, ⟨X, find_put h7, g.2.2, by unfold sameB; simp⟩, .inr rfl⟩
  · cases h
theorem fix_again {E : List En} {X Y : En} (h : (fixR E X).2 = true) (hid : Y.id = X.id) (hY : enB Y = true) (hst : Y.st = 3) :
    fixR (fixR E X).1 Y = if sameB X Y = true then ((fixR E X).1, true) else ([], false) := by
  obtain ⟨h1, h2, h3, h4, ⟨Z, hz, hz3, hzs⟩, _⟩ := fix_is h
  have e : sameB Z Y = sameB X Y := by
    unfold sameB at hzs ⊢
    simp only [decide_eq_true_eq] at hzs
    obtain ⟨a1, a2, a3, a4, a5⟩ := hzs
    rw [a1, a2, a3, a4, a5]
  generalize (fixR E X).1 = N at h4 hz ⊢
  have g : fixedB N Y.id = true := by unfold fixedB; rw [hid, hz]; simp [hz3]
  unfold fixR
  rw [if_pos ⟨h4, hY, hst⟩, if_pos g, hid, hz, e]
theorem fix_stay {E : List En} {X : En} (h : (fixR E X).2 = true) : fixR (fixR E X).1 X = ((fixR E X).1, true) := by
  obtain ⟨_, h2, h3, _⟩ := fix_is h
  rw [fix_again h rfl h2 h3, if_pos (by unfold sameB; simp)]
theorem fix_seq {E : List En} {X : En} (h : (fixR E X).2 = true) : fixR (fixR E X).1 { X with seq := X.seq + 1 } = ([], false) := by
  obtain ⟨_, h2, h3, _⟩ := fix_is h
  cases hY : enB { X with seq := X.seq + 1 } with
  | false => unfold fixR; rw [if_neg (fun g => by rw [hY] at g; cases g.2.1)]
  | true =>
    rw [fix_again (Y := { X with seq := X.seq + 1 }) h rfl hY h3, if_neg]
    unfold sameB
    simp only [decide_eq_true_eq]
    rintro ⟨_, _, _, g, _⟩
    omega
theorem fix_bal {E : List En} {X : En} {b : Int} (h : (fixR E X).2 = true) (hb : 0 ≤ b ∧ b ≤ 999) : fixR (fixR E X).1 { X with bal := b } = ((fixR E X).1, true) := by
  obtain ⟨_, h2, h3, _⟩ := fix_is h
  obtain ⟨e1, e2, e3, e4, e5, e6, e7⟩ := enB_of h2
  rw [fix_again (Y := { X with bal := b }) h rfl (enB_to (X := { X with bal := b }) e1 e2 e3 e4 hb e6 e7) h3, if_pos (by unfold sameB; simp)]
theorem fix_taken {E : List En} {X : En} {b : Int} (h : (fixR E X).2 = true) : takeR (fixR E X).1 { X with st := 2, bal := b } = ([], false) := by
  obtain ⟨_, _, _, _, ⟨Z, hz, hz3, _⟩, _⟩ := fix_is h
  unfold takeR
  rw [if_neg]
  rintro ⟨_, _, _, g, _⟩
  unfold fixedB at g
  dsimp only at g
  rw [hz] at g
  simp [hz3] at g
theorem fix_other {E : List En} {X : En} (h : (fixR E X).2 = true) {k : Nat} (hk : k < E.length) (hne : ¬ (E.getD k en0).id = X.id) : lfindR (fixR E X).1 (E.getD k en0).id = (E.getD k en0, true) := by
  obtain ⟨h1, _, _, h4, _, hc⟩ := fix_is h
  have hm : E.getD k en0 ∈ E := by rw [List.getD_eq_getElem?_getD, List.getElem?_eq_getElem hk, Option.getD_some]; exact List.getElem_mem _
  have hm2 : E.getD k en0 ∈ (fixR E X).1 := by
    rcases hc with e | e
    · rw [e]; exact hm
    · rw [e]; exact mem_putE.2 (.inr ⟨hm, hne⟩)
  generalize E.getD k en0 = Z at hm2 ⊢
  generalize (fixR E X).1 = N at h4 hm2 ⊢
  obtain ⟨j, hj, ej⟩ := List.getElem_of_mem hm2
  have e : N.getD j en0 = Z := by rw [List.getD_eq_getElem?_getD, List.getElem?_eq_getElem hj, Option.getD_some, ej]
  rw [lfindR_some h4 hj (by rw [e]), e]
theorem fix_len {E : List En} {X : En} (h : (fixR E X).2 = true) : (fixR E X).1.length ≤ E.length + 1 := by
  obtain ⟨h1, _, _, _, _, hc⟩ := fix_is h
  rcases hc with e | e
  · rw [e]; omega
  · rw [e, putE_len (log_of h1).2.2]; split <;> omega
end Go.Proofs.YtiolhjjkjmepcaaGreatDoor

/- Plain facts: the greatest number among some entries of a log. -/
namespace Go.Proofs.YtiolhjjkjmepcaaGreatDoor
set_option linter.unusedVariables false

/-- The greatest value of the entries that count, or 0. -/
def topF (f : En → Bool) (v : En → Int) : List En → Int
  | [] => 0
  | x :: r => if f x then max (v x) (topF f v r) else topF f v r
/-- g is the greatest value of the entries that count and have been seen, or 0. -/
structure TopP (E : List En) (S : Nat → Prop) (f : En → Bool) (v : En → Int) (g : Int) : Prop where
  nn : 0 ≤ g
  le : ∀ k, k < E.length → S k → f (E.getD k en0) = true → v (E.getD k en0) ≤ g
  is : g = 0 ∨ ∃ k, k < E.length ∧ S k ∧ f (E.getD k en0) = true ∧ v (E.getD k en0) = g
theorem topF_nn (f : En → Bool) (v : En → Int) : ∀ E : List En, 0 ≤ topF f v E
  | [] => Int.le_refl _
  | x :: r => by have := topF_nn f v r; unfold topF; split <;> omega
theorem topF_le {f : En → Bool} {v : En → Int} : ∀ {E : List En} {x : En}, x ∈ E → f x = true → v x ≤ topF f v E
  | y :: r, x, h, hf => by
    unfold topF
    rcases List.mem_cons.1 h with rfl | h
    · rw [if_pos hf]; omega
    · have := topF_le (v := v) h hf
      split <;> omega
theorem topF_is {f : En → Bool} {v : En → Int} : ∀ {E : List En}, topF f v E = 0 ∨ ∃ x, x ∈ E ∧ f x = true ∧ v x = topF f v E
  | [] => .inl rfl
  | y :: r => by
    unfold topF
    by_cases hf : f y = true
    · rw [if_pos hf]
      by_cases hv : topF f v r ≤ v y
      · exact .inr ⟨y, List.mem_cons_self, hf, by omega⟩
      · rcases topF_is (f := f) (v := v) (E := r) with h | ⟨x, h1, h2, h3⟩
        · left; omega
        · exact .inr ⟨x, List.mem_cons_of_mem _ h1, h2, by omega⟩
    · rw [if_neg hf]
      rcases topF_is (f := f) (v := v) (E := r) with h | ⟨x, h1, h2, h3⟩
      · exact .inl h
      · exact .inr ⟨x, List.mem_cons_of_mem _ h1, h2, h3⟩
theorem TopP.start (E : List En) (S : Nat → Prop) (h : ∀ k, ¬ S k) (f : En → Bool) (v : En → Int) : TopP E S f v 0 := ⟨Int.le_refl _, fun k _ hs => absurd hs (h k), .inl rfl⟩
theorem TopP.hit {E : List En} {S S' : Nat → Prop} {f : En → Bool} {v : En → Int} {g : Int} (h : TopP E S f v g) {k : Nat} (hk : k < E.length) (hS : ∀ j, S' j ↔ S j ∨ j = k) (hf : f (E.getD k en0) = true) : TopP E S' f v (max g (v (E.getD k en0))) := by
  refine ⟨by have := h.nn; omega, fun j hj hs hfj => ?_, ?_⟩
  · rcases (hS j).1 hs with hs | rfl
    · have := h.le j hj hs hfj; omega
    · omega
  · by_cases hv : v (E.getD k en0) ≤ g
    · rw [Int.max_eq_left hv]
      rcases h.is with h | ⟨j, h1, h2, h3⟩
      · exact .inl h
      · exact .inr ⟨j, h1, (hS j).2 (.inl h2), h3⟩
    · rw [Int.max_eq_right (by omega)]
      exact .inr ⟨k, hk, (hS k).2 (.inr rfl), hf, rfl⟩
theorem TopP.miss {E : List En} {S S' : Nat → Prop} {f : En → Bool} {v : En → Int} {g : Int} (h : TopP E S f v g) {k : Nat} (hS : ∀ j, S' j ↔ S j ∨ j = k) (hf : f (E.getD k en0) = false) : TopP E S' f v g := by
  refine ⟨h.nn, fun j hj hs hfj => ?_, ?_⟩
  · rcases (hS j).1 hs with hs | rfl
    · exact h.le j hj hs hfj
    · rw [hf] at hfj; cases hfj
  · rcases h.is with h | ⟨j, h1, h2, h3⟩
    · exact .inl h
    · exact .inr ⟨j, h1, (hS j).2 (.inl h2), h3⟩
theorem TopP.done {E : List En} {S : Nat → Prop} {f : En → Bool} {v : En → Int} {g : Int} (h : TopP E S f v g) (hS : ∀ k, k < E.length → S k) : g = topF f v E := by
  have h0 := topF_nn f v E
  have h1 : g ≤ topF f v E := by
    rcases h.is with h | ⟨k, h1, h2, h3, h4⟩
    · omega
    · rw [← h4]; exact topF_le (enD_mem h1) h3
  have h2 : topF f v E ≤ g := by
    rcases topF_is (f := f) (v := v) (E := E) with e | ⟨x, e1, e2, e3⟩
    · have := h.nn; omega
    · obtain ⟨k, hk, rfl⟩ := mem_enD e1
      rw [← e3]; exact h.le k hk (hS k hk) e2
  omega
theorem TopP.bound {E : List En} {S : Nat → Prop} {f : En → Bool} {v : En → Int} {g : Int} (h : TopP E S f v g) {N : Int} (h0 : 0 ≤ N) (hN : ∀ k, k < E.length → v (E.getD k en0) ≤ N) : g ≤ N := by
  rcases h.is with h | ⟨k, h1, _, _, h4⟩
  · omega
  · rw [← h4]; exact hN k h1
/-- The entries of a replica. -/
def ofR (p : Int) (x : En) : Bool := decide (x.id.1 = p)
/-- What NextNumber answers. -/
def nextR (E : List En) (p : Int) : Int := if logB E = true ∧ (0 ≤ p ∧ p ≤ 4) ∧ topF (ofR p) (fun x => x.id.2) E + 1 ≤ 50 then topF (ofR p) (fun x => x.id.2) E + 1 else -1
theorem nextR_bad {E : List En} {p : Int} (h : logB E = false) : nextR E p = -1 := by unfold nextR; rw [h, if_neg (by simp)]
theorem nextR_bad2 {E : List En} {p : Int} (h : ¬ (0 ≤ p ∧ p ≤ 4)) : nextR E p = -1 := by unfold nextR; rw [if_neg (fun x => h x.2.1)]
theorem nextR_full {E : List En} {p : Int} (h : ¬ topF (ofR p) (fun x => x.id.2) E + 1 ≤ 50) : nextR E p = -1 := by unfold nextR; rw [if_neg (fun x => h x.2.2)]
theorem nextR_good {E : List En} {p : Int} (h1 : logB E = true) (h2 : 0 ≤ p ∧ p ≤ 4) (h3 : topF (ofR p) (fun x => x.id.2) E + 1 ≤ 50) : nextR E p = topF (ofR p) (fun x => x.id.2) E + 1 := by unfold nextR; rw [if_pos ⟨h1, h2, h3⟩]
theorem log_num {E : List En} (h : logB E = true) {k : Nat} (hk : k < E.length) : okP (E.getD k en0).id = true := by
  have := (log_of h).2.1 _ (enD_mem hk)
  simp only [enB, ndB, En.nd, Bool.and_eq_true] at this
  exact this.1.1
theorem log_rank {E : List En} (h : logB E = true) {k : Nat} (hk : k < E.length) : 1 ≤ (E.getD k en0).seq ∧ (E.getD k en0).seq ≤ 99 := by
  have := (log_of h).2.1 _ (enD_mem hk)
  simp only [enB, ndB, En.nd, Bool.and_eq_true, decide_eq_true_eq] at this
  exact of_decide_eq_true (by simpa using this.1.2.1)
end Go.Proofs.YtiolhjjkjmepcaaGreatDoor
