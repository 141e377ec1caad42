/- Texts laid together. -/
/- Plain facts: groups found by a stack. -/
namespace Go.Proofs.YtfcjhojkfchccaaDoor
set_option linter.unusedVariables false

/-- No step or more. -/
inductive Rt {α : Type} (E : α → α → Prop) : α → α → Prop
  | refl (a : α) : Rt E a a
  | head {a b c : α} (h : E a b) (t : Rt E b c) : Rt E a c
/-- One step or more. -/
def Rp {α : Type} (E : α → α → Prop) (a c : α) : Prop := ∃ b, E a b ∧ Rt E b c
theorem Rt.trans {α : Type} {E : α → α → Prop} {a b c : α} (h : Rt E a b) (g : Rt E b c) : Rt E a c := by
  induction h with
  | refl => exact g
  | head e _ ih => exact .head e (ih g)
theorem Rt.one {α : Type} {E : α → α → Prop} {a b : α} (h : E a b) : Rt E a b := .head h (.refl b)
theorem Rp.rt {α : Type} {E : α → α → Prop} {a b : α} (h : Rp E a b) : Rt E a b := by obtain ⟨c, h1, h2⟩ := h; exact .head h1 h2
theorem Rt.cases {α : Type} {E : α → α → Prop} {a b : α} (h : Rt E a b) : a = b ∨ Rp E a b := by
  cases h with
  | refl => exact .inl rfl
  | head e t => exact .inr ⟨_, e, t⟩
theorem Rp.one {α : Type} {E : α → α → Prop} {a b : α} (h : E a b) : Rp E a b := ⟨b, h, .refl b⟩
theorem Rt.rp {α : Type} {E : α → α → Prop} {a b c : α} (h : Rt E a b) (g : Rp E b c) : Rp E a c := by
  cases h with
  | refl => exact g
  | head e t => exact ⟨_, e, t.trans g.rt⟩
theorem Rp.rt_r {α : Type} {E : α → α → Prop} {a b c : α} (h : Rp E a b) (g : Rt E b c) : Rp E a c := by
  obtain ⟨d, h1, h2⟩ := h; exact ⟨d, h1, h2.trans g⟩
/-- A closed set is not left. -/
theorem Rt.closed {α : Type} {E : α → α → Prop} {P : α → Prop} (hP : ∀ i, P i → ∀ j, E i j → P j) {a b : α} (h : Rt E a b) (ha : P a) : P b := by
  induction h with
  | refl => exact ha
  | head e _ ih => exact ih (hP _ ha _ e)
/-- Each reaches the other one. -/
def Sc {α : Type} (E : α → α → Prop) (a b : α) : Prop := Rt E a b ∧ Rt E b a
theorem Sc.refl {α : Type} {E : α → α → Prop} (a : α) : Sc E a a := ⟨.refl a, .refl a⟩
theorem Sc.symm {α : Type} {E : α → α → Prop} {a b : α} (h : Sc E a b) : Sc E b a := ⟨h.2, h.1⟩
theorem Sc.trans {α : Type} {E : α → α → Prop} {a b c : α} (h : Sc E a b) (g : Sc E b c) : Sc E a c := ⟨h.1.trans g.1, g.2.trans h.2⟩

/-- What the walk knows: how many were met, as the how many-th, which ones wait, and the group of each one. -/
structure TS where
  many : Nat
  met : Nat → Nat
  stack : List Nat
  found : Nat → Option Nat

/-- The walk's invariant: G are those whose visit is under way. -/
structure TI (E : Nat → Nat → Prop) (n : Nat) (s : TS) (G : List Nat) : Prop where
  le : ∀ i, s.met i ≤ s.many
  lt : ∀ i, s.met i ≠ 0 → i < n
  fm : ∀ i b, s.found i = some b → s.met i ≠ 0
  st : ∀ i, i ∈ s.stack ↔ (s.met i ≠ 0 ∧ s.found i = none)
  up : s.stack.Pairwise fun a b => s.met a < s.met b
  rc : s.stack.Pairwise fun a b => Rt E a b
  gr : ∀ y ∈ s.stack, ∃ g ∈ G, g ∈ s.stack ∧ s.met g ≤ s.met y ∧ Rt E y g
  fc : ∀ i b, s.found i = some b → ∀ j, E i j → ∃ c, s.found j = some c
  sc : ∀ i j b c, s.found i = some b → s.found j = some c → (b = c ↔ Sc E i j)
  bl : ∀ i, s.met i ≠ 0 → ¬ i ∈ G → ∀ j, E i j → s.met j ≠ 0

/-- One state is behind another one. -/
structure TX (s t : TS) : Prop where
  many : s.many ≤ t.many
  met : ∀ i, s.met i ≠ 0 → t.met i = s.met i
  new : ∀ i, s.met i = 0 → t.met i ≠ 0 → s.many < t.met i
  found : ∀ i b, s.found i = some b → t.found i = some b
theorem TX.refl (s : TS) : TX s s := ⟨Nat.le_refl _, fun _ _ => rfl, fun _ h g => absurd h g, fun _ _ h => h⟩
theorem TX.trans {s t u : TS} (h : TX s t) (g : TX t u) : TX s u := by
  refine ⟨Nat.le_trans h.many g.many, fun i hi => ?_, fun i h0 h1 => ?_, fun i b hb => g.found i b (h.found i b hb)⟩
  · rw [g.met i (by rw [h.met i hi]; exact hi), h.met i hi]
  · by_cases e : t.met i = 0
    · exact Nat.lt_of_le_of_lt h.many (g.new i e h1)
    · rw [g.met i e]; exact h.new i h0 e

/-- What a visit leaves. -/
structure TP (E : Nat → Nat → Prop) (n : Nat) (s : TS) (G : List Nat) (x : Nat) (t : TS) (r : Nat) : Prop where
  ti : TI E n t G
  tx : TX s t
  mx : t.met x ≠ 0
  st : ∃ T, t.stack = s.stack ++ T ∧ ∀ z ∈ T, ∀ y ∈ s.stack, E z y → r ≤ s.met y
  at_ : s.many < r ∨ ∃ y ∈ s.stack, r = s.met y ∧ Rt E x y

/-- A node is met. -/
def TS.enter (s : TS) (x : Nat) : TS := ⟨s.many + 1, fun i => if i = x then s.many + 1 else s.met i, s.stack ++ [x], s.found⟩
theorem TI.enter {E : Nat → Nat → Prop} {n : Nat} {s : TS} {G : List Nat} (h : TI E n s G) {x : Nat} (hx : x < n) (h0 : s.met x = 0) (hG : ∀ g ∈ G, Rt E g x) :
    TI E n (s.enter x) (x :: G) ∧ TX s (s.enter x) := by
  have hne : ∀ i, s.met i ≠ 0 → i ≠ x := fun i hi e => hi (by rw [e]; exact h0)
  have hm : ∀ i, i ≠ x → (s.enter x).met i = s.met i := fun i hi => if_neg hi
  have hmx : (s.enter x).met x = s.many + 1 := if_pos rfl
  have hsx : ∀ y ∈ s.stack, s.met y ≠ 0 := fun y hy => ((h.st y).1 hy).1
  refine ⟨⟨fun i => ?_, fun i hi => ?_, fun i b hb => ?_, fun i => ?_, ?_, ?_, fun y hy => ?_, h.fc, h.sc, fun i hi hG' j hj => ?_⟩, ⟨Nat.le_succ _, fun i hi => hm i (hne i hi), fun i hi hi' => ?_, fun i b hb => hb⟩⟩
  · by_cases e : i = x
    · rw [e, hmx]; exact Nat.le_refl _
    · rw [hm i e]; exact Nat.le_succ_of_le (h.le i)
  · by_cases e : i = x
    · rw [e]; exact hx
    · rw [hm i e] at hi; exact h.lt i hi
  · have := h.fm i b hb
    rw [hm i (hne i this)]; exact this
  · show i ∈ s.stack ++ [x] ↔ _ ∧ s.found i = none
    rw [List.mem_append, List.mem_singleton, h.st]
    by_cases e : i = x
    · subst e
      rw [hmx]
      constructor
      · intro _
        refine ⟨Nat.succ_ne_zero _, ?_⟩
        cases hf : s.found i with
        | none => rfl
        | some b => exact absurd h0 (h.fm i b hf)
      · intro _; exact .inr rfl
    · rw [hm i e]; simp [e]
  · refine List.pairwise_append.2 ⟨List.Pairwise.imp_of_mem (fun {a b} ha hb hab => ?_) h.up, List.pairwise_singleton _ _, fun a ha b hb => ?_⟩
    · rw [hm a (hne a (hsx a ha)), hm b (hne b (hsx b hb))]; exact hab
    · rw [List.mem_singleton] at hb
      subst hb
      rw [hmx, hm a (hne a (hsx a ha))]; exact Nat.lt_succ_of_le (h.le a)
  · refine List.pairwise_append.2 ⟨h.rc, List.pairwise_singleton _ _, fun a ha b hb => ?_⟩
    rw [List.mem_singleton] at hb
    subst hb
    obtain ⟨g, hg, _, _, hr⟩ := h.gr a ha
    exact hr.trans (hG g hg)
  · rcases List.mem_append.1 hy with hy | hy
    · obtain ⟨g, hg, h1, h2, h3⟩ := h.gr y hy
      exact ⟨g, List.mem_cons_of_mem _ hg, List.mem_append_left _ h1, by rw [hm g (hne g (hsx g h1)), hm y (hne y (hsx y hy))]; exact h2, h3⟩
    · rw [List.mem_singleton] at hy
      subst hy
      exact ⟨y, List.mem_cons_self, List.mem_append_right _ (List.mem_singleton.2 rfl), Nat.le_refl _, .refl _⟩
  · have e : i ≠ x := fun e => hG' (by rw [e]; exact List.mem_cons_self)
    rw [hm i e] at hi
    have := h.bl i hi (fun hh => hG' (List.mem_cons_of_mem _ hh)) j hj
    rw [hm j (hne j this)]; exact this
  · by_cases e : i = x
    · rw [e, hmx]; exact Nat.lt_succ_self _
    · rw [hm i e] at hi'; exact absurd hi hi'

/-- Within a visit: D are the steps that have been looked at. -/
structure TL (E : Nat → Nat → Prop) (n : Nat) (s : TS) (G : List Nat) (x : Nat) (D : Nat → Prop) (t : TS) (r : Nat) : Prop where
  ti : TI E n t (x :: G)
  tx : TX s t
  mx : t.met x = s.many + 1
  st : ∃ T, t.stack = s.stack ++ x :: T ∧ ∀ z ∈ T, ∀ y ∈ s.stack, E z y → r ≤ s.met y
  at_ : r = s.many + 1 ∨ ∃ y ∈ s.stack, r = s.met y ∧ Rt E x y
  dn : ∀ j, D j → t.met j ≠ 0 ∧ (j ∈ s.stack → r ≤ s.met j)

theorem TI.stl {E : Nat → Nat → Prop} {n : Nat} {s : TS} {G : List Nat} (h : TI E n s G) {y : Nat} (hy : y ∈ s.stack) : s.met y ≠ 0 ∧ s.met y ≤ s.many := ⟨((h.st y).1 hy).1, h.le y⟩
theorem TL.rle {E : Nat → Nat → Prop} {n : Nat} {s : TS} {G : List Nat} {x : Nat} {D : Nat → Prop} {t : TS} {r : Nat} (h : TL E n s G x D t r) (hs : TI E n s G) : r ≤ s.many + 1 ∧ r ≠ 0 := by
  rcases h.at_ with e | ⟨y, hy, e, _⟩
  · omega
  · have := hs.stl hy; omega

theorem TL.start {E : Nat → Nat → Prop} {n : Nat} {s : TS} {G : List Nat} (h : TI E n s G) {x : Nat} (hx : x < n) (h0 : s.met x = 0) (hG : ∀ g ∈ G, Rt E g x) :
    TL E n s G x (fun _ => False) (s.enter x) (s.many + 1) := by
  obtain ⟨h1, h2⟩ := h.enter hx h0 hG
  exact ⟨h1, h2, if_pos rfl, ⟨[], rfl, fun z hz => nomatch hz⟩, .inl rfl, fun j hj => hj.elim⟩

/-- A step to what is no node, or to a node whose group is known. -/
theorem TL.skip {E : Nat → Nat → Prop} {n : Nat} {s : TS} {G : List Nat} {x : Nat} {D D' : Nat → Prop} {t : TS} {r : Nat} (h : TL E n s G x D t r) (hs : TI E n s G)
    (hD : ∀ j, D' j → D j ∨ ∃ b, t.found j = some b) : TL E n s G x D' t r := by
  refine ⟨h.ti, h.tx, h.mx, h.st, h.at_, fun j hj => ?_⟩
  rcases hD j hj with hj | ⟨b, hb⟩
  · exact h.dn j hj
  · refine ⟨h.ti.fm j b hb, fun hj' => ?_⟩
    obtain ⟨T, hT, _⟩ := h.st
    have : j ∈ t.stack := by rw [hT]; exact List.mem_append_left _ hj'
    rw [((h.ti.st j).1 this).2] at hb; cases hb

/-- A step to a node that waits. -/
theorem TL.wait {E : Nat → Nat → Prop} {n : Nat} {s : TS} {G : List Nat} {x : Nat} {D D' : Nat → Prop} {t : TS} {r : Nat} (h : TL E n s G x D t r) (hs : TI E n s G) {a : Nat} (hE : E x a)
    (hm : t.met a ≠ 0) (hf : t.found a = none) (hD : ∀ j, D' j → D j ∨ j = a) : TL E n s G x D' t (min r (t.met a)) := by
  have ha : a ∈ t.stack := (h.ti.st a).2 ⟨hm, hf⟩
  obtain ⟨T, hT, hz⟩ := h.st
  have hin : ∀ j ∈ s.stack, t.met j = s.met j := fun j hj => h.tx.met j (hs.stl hj).1
  refine ⟨h.ti, h.tx, h.mx, ⟨T, hT, fun z hz' y hy hE' => Nat.le_trans (Nat.min_le_left _ _) (hz z hz' y hy hE')⟩, ?_, fun j hj => ?_⟩
  · rcases Nat.le_total r (t.met a) with hle | hle
    · rw [Nat.min_eq_left hle]; exact h.at_
    · rw [Nat.min_eq_right hle]
      by_cases hs' : a ∈ s.stack
      · exact .inr ⟨a, hs', hin a hs', .one hE⟩
      · have h1 := (h.rle hs).1
        by_cases e : s.met a = 0
        · have := h.tx.new a e hm; left; omega
        · exfalso
          have e1 : s.found a = none := by
            cases hb : s.found a with
            | none => rfl
            | some b => rw [h.tx.found a b hb] at hf; cases hf
          exact hs' ((hs.st a).2 ⟨e, e1⟩)
  · rcases hD j hj with hj | rfl
    · exact ⟨(h.dn j hj).1, fun hj' => Nat.le_trans (Nat.min_le_left _ _) ((h.dn j hj).2 hj')⟩
    · exact ⟨hm, fun hj' => by rw [hin j hj']; exact Nat.min_le_right _ _⟩

/-- A step to a node that is visited. -/
theorem TL.visit {E : Nat → Nat → Prop} {n : Nat} {s : TS} {G : List Nat} {x : Nat} {D D' : Nat → Prop} {t u : TS} {r q : Nat} (h : TL E n s G x D t r) (hs : TI E n s G) {a : Nat} (hE : E x a)
    (h0 : t.met a = 0) (hp : TP E n t (x :: G) a u q) (hD : ∀ j, D' j → D j ∨ j = a) : TL E n s G x D' u (min r q) := by
  obtain ⟨T, hT, hz⟩ := h.st
  obtain ⟨U, hU, hw⟩ := hp.st
  have hxt : x ∈ t.stack := by rw [hT]; exact List.mem_append_right _ List.mem_cons_self
  have hsub : ∀ y ∈ s.stack, y ∈ t.stack := fun y hy => by rw [hT]; exact List.mem_append_left _ hy
  have hin : ∀ j ∈ s.stack, t.met j = s.met j := fun j hj => h.tx.met j (hs.stl hj).1
  have hmt : s.many + 1 ≤ t.many := by have := h.ti.le x; rw [h.mx] at this; exact this
  refine ⟨hp.ti, h.tx.trans hp.tx, ?_, ⟨T ++ U, by rw [hU, hT]; simp, fun z hz' y hy hE' => ?_⟩, ?_, fun j hj => ?_⟩
  · rw [hp.tx.met x (by rw [h.mx]; exact Nat.succ_ne_zero _), h.mx]
  · rcases List.mem_append.1 hz' with hz' | hz'
    · exact Nat.le_trans (Nat.min_le_left _ _) (hz z hz' y hy hE')
    · have := hw z hz' y (hsub y hy) hE'
      rw [hin y hy] at this
      exact Nat.le_trans (Nat.min_le_right _ _) this
  · have h1 := (h.rle hs).1
    rcases hp.at_ with hq | ⟨y, hy, hq, hr⟩
    · rw [Nat.min_eq_left (by omega)]; exact h.at_
    · rcases Nat.le_total r q with hle | hle
      · rw [Nat.min_eq_left hle]; exact h.at_
      · rw [Nat.min_eq_right hle]
        by_cases hs' : y ∈ s.stack
        · exact .inr ⟨y, hs', by rw [hq, hin y hs'], .head hE hr⟩
        · have hy' := (h.ti.st y).1 hy
          by_cases e : s.met y = 0
          · have := h.tx.new y e hy'.1; left; omega
          · exfalso
            have e1 : s.found y = none := by
              cases hb : s.found y with
              | none => rfl
              | some b => rw [h.tx.found y b hb] at hy'; cases hy'.2
            exact hs' ((hs.st y).2 ⟨e, e1⟩)
  · rcases hD j hj with hj | rfl
    · have := h.dn j hj
      exact ⟨by rw [hp.tx.met j this.1]; exact this.1, fun hj' => Nat.le_trans (Nat.min_le_left _ _) (this.2 hj')⟩
    · refine ⟨hp.mx, fun hj' => ?_⟩
      exact absurd h0 (h.ti.stl (hsub j hj')).1

/-- The group stays open. -/
theorem TL.keep {E : Nat → Nat → Prop} {n : Nat} {s : TS} {G : List Nat} {x : Nat} {D : Nat → Prop} {t : TS} {r : Nat} (h : TL E n s G x D t r) (hs : TI E n s G)
    (hD : ∀ j, E x j → D j) (hr : r ≠ s.many + 1) : TP E n s G x t r := by
  obtain ⟨T, hT, hz⟩ := h.st
  have hin : ∀ j ∈ s.stack, t.met j = s.met j := fun j hj => h.tx.met j (hs.stl hj).1
  have ha : ∃ y ∈ s.stack, r = s.met y ∧ Rt E x y := h.at_.resolve_left hr
  obtain ⟨y0, hy0, e0, hr0⟩ := ha
  have hxs : x ∈ t.stack := by rw [hT]; exact List.mem_append_right _ List.mem_cons_self
  refine ⟨⟨h.ti.le, h.ti.lt, h.ti.fm, h.ti.st, h.ti.up, h.ti.rc, fun y hy => ?_, h.ti.fc, h.ti.sc, fun i hi hG j hj => ?_⟩, h.tx, by rw [h.mx]; exact Nat.succ_ne_zero _, ⟨x :: T, hT, fun z hz' y hy hE => ?_⟩, .inr ⟨y0, hy0, e0, hr0⟩⟩
  · obtain ⟨g, hg, h1, h2, h3⟩ := h.ti.gr y hy
    rcases List.mem_cons.1 hg with rfl | hg
    · obtain ⟨g', hg', i1, i2, i3⟩ := hs.gr y0 hy0
      refine ⟨g', hg', by rw [hT]; exact List.mem_append_left _ i1, ?_, h3.trans (hr0.trans i3)⟩
      rw [hin g' i1]
      have := (hs.stl hy0).2
      rw [h.mx] at h2
      omega
    · exact ⟨g, hg, h1, h2, h3⟩
  · by_cases e : i = x
    · subst e; exact (h.dn j (hD j hj)).1
    · exact h.ti.bl i hi (fun hh => (List.mem_cons.1 hh).elim e hG) j hj
  · rcases List.mem_cons.1 hz' with rfl | hz'
    · exact (h.dn y (hD y hE)).2 hy
    · exact hz z hz' y hy hE

/-- The group is complete: what lies on the stack from x on. -/
def TS.close (t : TS) (S : List Nat) (b : Nat) (rest : List Nat) : TS := ⟨t.many, t.met, rest, fun i => if i ∈ S then some b else t.found i⟩
theorem TL.group {E : Nat → Nat → Prop} {n : Nat} {s : TS} {G : List Nat} {x : Nat} {D : Nat → Prop} {t : TS} (h : TL E n s G x D t (s.many + 1)) (hs : TI E n s G) (hG : ∀ g ∈ G, g ∈ s.stack)
    (hD : ∀ j, E x j → D j) {S : List Nat} (hS : t.stack = s.stack ++ S) :
    x ∈ S ∧ (∀ i ∈ S, ∀ j, E i j → j ∈ S ∨ ∃ b, t.found j = some b) ∧ (∀ i ∈ S, ∀ j, j ∈ S ↔ Sc E i j) ∧ (∀ i ∈ S, i < n ∧ t.found i = none) := by
  obtain ⟨T, hT, hz⟩ := h.st
  have e : S = x :: T := by rw [hS] at hT; exact List.append_cancel_left hT
  subst e
  have hin : ∀ j ∈ s.stack, t.met j = s.met j := fun j hj => h.tx.met j (hs.stl hj).1
  have hup := List.pairwise_append.1 (by rw [← hT]; exact h.ti.up)
  have hSm : ∀ i ∈ (x :: T), s.many + 1 ≤ t.met i := by
    intro i hi
    rcases List.mem_cons.1 hi with rfl | hi
    · rw [h.mx]; exact Nat.le_refl _
    · have := (List.pairwise_cons.1 hup.2.1).1 i hi
      rw [h.mx] at this; omega
  have hSt : ∀ i ∈ (x :: T), i ∈ t.stack := fun i hi => by rw [hT]; exact List.mem_append_right _ hi
  have hcl : ∀ i ∈ (x :: T), ∀ j, E i j → j ∈ (x :: T) ∨ ∃ b, t.found j = some b := by
    intro i hi j hj
    have hm : t.met j ≠ 0 := by
      rcases List.mem_cons.1 hi with rfl | hi'
      · exact (h.dn j (hD j hj)).1
      · refine h.ti.bl i ((h.ti.st i).1 (hSt i hi)).1 (fun hh => ?_) j hj
        rcases List.mem_cons.1 hh with rfl | hh
        · have := (List.pairwise_cons.1 hup.2.1).1 i hi'
          omega
        · have := hs.stl (hG i hh)
          have h3 := hSm i hi
          rw [hin i (hG i hh)] at h3
          omega
    cases hf : t.found j with
    | some b => exact .inr ⟨b, rfl⟩
    | none =>
      have : j ∈ t.stack := (h.ti.st j).2 ⟨hm, hf⟩
      rw [hT] at this
      rcases List.mem_append.1 this with hj' | hj'
      · exfalso
        have hle : s.many + 1 ≤ s.met j := by
          rcases List.mem_cons.1 hi with rfl | hi'
          · exact (h.dn j (hD j hj)).2 hj'
          · exact hz i hi' j hj' hj
        have := (hs.stl hj').2
        omega
      · exact .inl hj'
  have hcl2 : ∀ i j, Rt E i j → i ∈ (x :: T) → j ∈ (x :: T) ∨ ∃ b, t.found j = some b := by
    intro i j hr hi
    refine hr.closed (P := fun j => j ∈ (x :: T) ∨ ∃ b, t.found j = some b) (fun i hi j hj => ?_) (.inl hi)
    rcases hi with hi | ⟨b, hb⟩
    · exact hcl i hi j hj
    · exact .inr (h.ti.fc i b hb j hj)
  have hnf : ∀ i ∈ (x :: T), t.found i = none := fun i hi => ((h.ti.st i).1 (hSt i hi)).2
  have hfr : ∀ i j, Rt E i j → (∃ b, t.found i = some b) → ∃ b, t.found j = some b := fun i j hr hi => hr.closed (P := fun j => ∃ b, t.found j = some b) (fun i ⟨b, hb⟩ j hj => h.ti.fc i b hb j hj) hi
  have hxr : ∀ i ∈ (x :: T), Rt E x i := by
    intro i hi
    rcases List.mem_cons.1 hi with rfl | hi
    · exact .refl _
    · have := List.pairwise_append.1 (by rw [← hT]; exact h.ti.rc)
      exact (List.pairwise_cons.1 this.2.1).1 i hi
  have hrx : ∀ i ∈ (x :: T), Rt E i x := by
    intro i hi
    obtain ⟨g, hg, h1, h2, h3⟩ := h.ti.gr i (hSt i hi)
    rcases List.mem_cons.1 hg with rfl | hg
    · exact h3
    · exfalso
      rcases hcl2 i g h3 hi with h4 | ⟨b, hb⟩
      · have h5 := hSm g h4
        have := hs.stl (hG g hg)
        rw [hin g (hG g hg)] at h5
        omega
      · rw [((h.ti.st g).1 h1).2] at hb; cases hb
  refine ⟨List.mem_cons_self, hcl, fun i hi j => ⟨fun hj => ⟨(hrx i hi).trans (hxr j hj), (hrx j hj).trans (hxr i hi)⟩, fun hh => ?_⟩, fun i hi => ⟨h.ti.lt i ((h.ti.st i).1 (hSt i hi)).1, hnf i hi⟩⟩
  rcases hcl2 i j hh.1 hi with h1 | h1
  · exact h1
  · obtain ⟨b, hb⟩ := hfr j i hh.2 h1
    rw [hnf i hi] at hb; cases hb

theorem TL.close {E : Nat → Nat → Prop} {n : Nat} {s : TS} {G : List Nat} {x : Nat} {D : Nat → Prop} {t : TS} (h : TL E n s G x D t (s.many + 1)) (hs : TI E n s G) (hG : ∀ g ∈ G, g ∈ s.stack)
    (hD : ∀ j, E x j → D j) {S : List Nat} (hS : t.stack = s.stack ++ S) {b : Nat} (hb : ∀ i c, t.found i = some c → c ≠ b) :
    TP E n s G x (t.close S b s.stack) (s.many + 1) := by
  obtain ⟨hx, hcl, hsc, hSn⟩ := h.group hs hG hD hS
  have hin : ∀ j ∈ s.stack, t.met j = s.met j := fun j hj => h.tx.met j (hs.stl hj).1
  have hup := List.pairwise_append.1 (by rw [← hS]; exact h.ti.up)
  have hrc := List.pairwise_append.1 (by rw [← hS]; exact h.ti.rc)
  have hdis : ∀ i ∈ s.stack, ¬ i ∈ S := fun i hi hi' => by have := hup.2.2 i hi i hi'; omega
  have hfn : ∀ i, i ∈ S → (t.close S b s.stack).found i = some b := fun i hi => if_pos hi
  have hfo : ∀ i, ¬ i ∈ S → (t.close S b s.stack).found i = t.found i := fun i hi => if_neg hi
  have hSt : ∀ i ∈ S, i ∈ t.stack := fun i hi => by rw [hS]; exact List.mem_append_right _ hi
  have hfr : ∀ i j, Rt E i j → (∃ b, t.found i = some b) → ∃ b, t.found j = some b := fun i j hr hi => hr.closed (P := fun j => ∃ b, t.found j = some b) (fun i ⟨b, hb⟩ j hj => h.ti.fc i b hb j hj) hi
  refine ⟨⟨h.ti.le, h.ti.lt, fun i c hc => ?_, fun i => ?_, hup.1, hrc.1, fun y hy => ?_, fun i c hc j hj => ?_, fun i j c d hc hd => ?_, fun i hi hiG j hj => ?_⟩, ⟨h.tx.many, h.tx.met, h.tx.new, fun i c hc => ?_⟩, by show t.met x ≠ 0; rw [h.mx]; exact Nat.succ_ne_zero _, ⟨[], by simp [TS.close], fun z hz => nomatch hz⟩, .inl (Nat.lt_succ_self _)⟩
  · show t.met i ≠ 0
    by_cases hi : i ∈ S
    · exact ((h.ti.st i).1 (hSt i hi)).1
    · rw [hfo i hi] at hc; exact h.ti.fm i c hc
  · show i ∈ s.stack ↔ t.met i ≠ 0 ∧ _
    by_cases hi : i ∈ S
    · rw [hfn i hi]
      constructor
      · intro hh; exact absurd hi (hdis i hh)
      · rintro ⟨_, e⟩; cases e
    · rw [hfo i hi, ← h.ti.st, hS, List.mem_append]; simp [hi]
  · obtain ⟨g, hg, h1, h2, h3⟩ := hs.gr y hy
    refine ⟨g, hg, h1, ?_, h3⟩
    show t.met g ≤ t.met y
    rw [hin g h1, hin y hy]; exact h2
  · by_cases hj' : j ∈ S
    · exact ⟨b, hfn j hj'⟩
    · rw [hfo j hj']
      by_cases hi : i ∈ S
      · exact (hcl i hi j hj).resolve_left hj'
      · rw [hfo i hi] at hc; exact h.ti.fc i c hc j hj
  · by_cases hi : i ∈ S
    · rw [hfn i hi] at hc
      cases hc
      by_cases hj : j ∈ S
      · rw [hfn j hj] at hd
        cases hd
        exact ⟨fun _ => (hsc i hi j).1 hj, fun _ => rfl⟩
      · rw [hfo j hj] at hd
        exact ⟨fun e => absurd e.symm (hb j d hd), fun e => absurd ((hsc i hi j).2 e) hj⟩
    · rw [hfo i hi] at hc
      by_cases hj : j ∈ S
      · rw [hfn j hj] at hd
        cases hd
        exact ⟨fun e => absurd e (hb i c hc), fun e => absurd ((hsc j hj i).2 e.symm) hi⟩
      · rw [hfo j hj] at hd
        exact h.ti.sc i j c d hc hd
  · show t.met j ≠ 0
    by_cases e : i ∈ S
    · rcases hcl i e j hj with h1 | ⟨c, hc⟩
      · exact ((h.ti.st j).1 (hSt j h1)).1
      · exact h.ti.fm j c hc
    · exact h.ti.bl i hi (fun hh => (List.mem_cons.1 hh).elim (fun e' => e (by rw [e']; exact hx)) hiG) j hj
  · have := h.tx.found i c hc
    rw [hfo i (fun hi => by rw [(hSn i hi).2] at this; cases this)]; exact this
end Go.Proofs.YtfcjhojkfchccaaDoor
