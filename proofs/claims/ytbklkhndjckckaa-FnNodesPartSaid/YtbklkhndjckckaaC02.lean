/- Texts laid together. -/
import Derived.Test.YtbklkhndjckckaaC01
/- Plain facts: nodes, what they reach, groups, and the order in which they run. -/
namespace Go.Proofs.Ytbklkhndjckckaa
set_option linter.unusedVariables false

/-- A node. -/
structure Nd where
  id : Pid
  seq : Int
  deps : List Pid
def nd0 : Nd := ⟨nop, 0, []⟩
def idsN (N : List Nd) : List Pid := N.map Nd.id
def ndB (x : Nd) : Bool := okP x.id && (decide (1 ≤ x.seq ∧ x.seq ≤ 99) && (srtB x.deps && !hasP x.deps x.id))
/-- What valid nodes are. -/
def nodB (N : List Nd) : Bool := decide (N.length ≤ 12) && (N.all ndB && ascB (idsN N))
theorem nod_of {N : List Nd} (h : nodB N = true) : N.length ≤ 12 ∧ (∀ x ∈ N, ndB x = true) ∧ Asc (idsN N) := by
  simp only [nodB, Bool.and_eq_true, decide_eq_true_eq] at h
  exact ⟨h.1, List.all_eq_true.1 h.2.1, ascB_asc h.2.2⟩
theorem nod_to {N : List Nd} (h1 : N.length ≤ 12) (h2 : ∀ x ∈ N, ndB x = true) (h3 : Asc (idsN N)) : nodB N = true := by
  simp only [nodB, Bool.and_eq_true, decide_eq_true_eq]
  exact ⟨h1, List.all_eq_true.2 h2, asc_ascB h3⟩
theorem nod_no {N : List Nd} (h : ¬ (N.length ≤ 12 ∧ (∀ x ∈ N, ndB x = true) ∧ Asc (idsN N))) : nodB N = false := by
  cases e : nodB N with
  | false => rfl
  | true => exact absurd (nod_of e) h
theorem getD_mem {N : List Nd} {k : Nat} (hk : k < N.length) : N.getD k nd0 ∈ N := by
  rw [List.getD_eq_getElem?_getD, List.getElem?_eq_getElem hk]; exact List.getElem_mem hk
theorem mem_getD {N : List Nd} {x : Nd} (h : x ∈ N) : ∃ k, k < N.length ∧ N.getD k nd0 = x := by
  obtain ⟨k, hk, e⟩ := List.getElem_of_mem h
  exact ⟨k, hk, by rw [List.getD_eq_getElem?_getD, List.getElem?_eq_getElem hk]; exact e⟩
theorem idsN_len (N : List Nd) : (idsN N).length = N.length := List.length_map _
theorem idsN_get {N : List Nd} {k : Nat} (hk : k < N.length) : (idsN N).getD k nop = (N.getD k nd0).id := by
  unfold idsN
  rw [List.getD_eq_getElem?_getD, List.getD_eq_getElem?_getD, List.getElem?_map, List.getElem?_eq_getElem hk]; rfl
theorem mem_idsN {N : List Nd} {a : Pid} : a ∈ idsN N ↔ ∃ k, k < N.length ∧ (N.getD k nd0).id = a := by
  unfold idsN
  rw [List.mem_map]
  constructor
  · rintro ⟨x, hx, rfl⟩
    obtain ⟨k, hk, rfl⟩ := mem_getD hx
    exact ⟨k, hk, rfl⟩
  · rintro ⟨k, hk, rfl⟩; exact ⟨_, getD_mem hk, rfl⟩
theorem nod_bad {N : List Nd} {k : Nat} (hk : k < N.length) (h : ndB (N.getD k nd0) = false) : nodB N = false := nod_no fun x => by
  have := x.2.1 _ (getD_mem hk); rw [h] at this; cases this
theorem nod_turn {N : List Nd} {k : Nat} (hk : k + 1 < N.length) (h : ltP (N.getD k nd0).id (N.getD (k + 1) nd0).id = false) : nodB N = false := nod_no fun x => by
  have := asc_lt x.2.2 (Nat.lt_succ_self k) (by rw [idsN_len]; exact hk)
  rw [idsN_get hk, idsN_get (by omega), h] at this; cases this
theorem nod_long {N : List Nd} (h : ¬ N.length ≤ 12) : nodB N = false := nod_no fun x => h x.1
theorem nod_good {N : List Nd} (h1 : N.length ≤ 12) (h2 : ∀ k, k < N.length → ndB (N.getD k nd0) = true) (h3 : ∀ k, k + 1 < N.length → ltP (N.getD k nd0).id (N.getD (k + 1) nd0).id = true) : nodB N = true := by
  refine nod_to h1 (fun x hx => ?_) (asc_adj fun i hi => ?_)
  · obtain ⟨k, hk, rfl⟩ := mem_getD hx
    exact h2 k hk
  · rw [idsN_len] at hi
    rw [idsN_get hi, idsN_get (by omega)]; exact h3 i hi
theorem nod_inj {N : List Nd} (h : nodB N = true) {i j : Nat} (hi : i < N.length) (hj : j < N.length) (e : (N.getD i nd0).id = (N.getD j nd0).id) : i = j := by
  have ha := (nod_of h).2.2
  rcases Nat.lt_trichotomy i j with hl | hl | hl
  · have := asc_lt ha hl (by rw [idsN_len]; exact hj)
    rw [idsN_get hi, idsN_get hj, e, ltP_irr] at this; cases this
  · exact hl
  · have := asc_lt ha hl (by rw [idsN_len]; exact hi)
    rw [idsN_get hi, idsN_get hj, e, ltP_irr] at this; cases this
theorem nod_lt {N : List Nd} (h : nodB N = true) {i j : Nat} (hi : i < N.length) (hj : j < N.length) : ltP (N.getD i nd0).id (N.getD j nd0).id = true ↔ i < j := by
  have ha := (nod_of h).2.2
  constructor
  · intro hl
    rcases Nat.lt_trichotomy i j with h1 | h1 | h1
    · exact h1
    · subst h1; rw [ltP_irr] at hl; cases hl
    · have := asc_lt ha h1 (by rw [idsN_len]; exact hi)
      rw [idsN_get hi, idsN_get hj] at this
      rw [ltP_asym this] at hl; cases hl
  · intro hl
    have := asc_lt ha hl (by rw [idsN_len]; exact hj)
    rw [idsN_get hi, idsN_get hj] at this; exact this

/-- A node depends on another node. -/
def EI (N : List Nd) (a b : Pid) : Prop := b ∈ idsN N ∧ ∃ x ∈ N, x.id = a ∧ b ∈ x.deps
theorem EI.l {N : List Nd} {a b : Pid} (h : EI N a b) : a ∈ idsN N := by obtain ⟨_, x, hx, rfl, _⟩ := h; exact List.mem_map_of_mem hx
theorem EI.r {N : List Nd} {a b : Pid} (h : EI N a b) : b ∈ idsN N := h.1
theorem rt_in {N : List Nd} {a b : Pid} (h : Rt (EI N) a b) (ha : a ∈ idsN N) : b ∈ idsN N := h.closed (P := fun c => c ∈ idsN N) (fun _ _ _ e => e.r) ha
theorem rp_l {N : List Nd} {a b : Pid} (h : Rp (EI N) a b) : a ∈ idsN N := by obtain ⟨c, h1, _⟩ := h; exact h1.l
theorem rp_r {N : List Nd} {a b : Pid} (h : Rp (EI N) a b) : b ∈ idsN N := rt_in h.rt (rp_l h)
theorem sc_in {N : List Nd} {a b : Pid} (h : Sc (EI N) a b) (ha : a ∈ idsN N) : b ∈ idsN N := rt_in h.1 ha
/-- All that a node itself depends on are nodes. -/
def OkI (N : List Nd) (a : Pid) : Prop := ∀ x ∈ N, x.id = a → ∀ d ∈ x.deps, d ∈ idsN N
def RdI (N : List Nd) (a : Pid) : Prop := ∀ b, Rt (EI N) a b → OkI N b
theorem RdI.on {N : List Nd} {a b : Pid} (h : RdI N a) (g : Rt (EI N) a b) : RdI N b := fun c hc => h c (g.trans hc)

theorem getD_uniq {N : List Nd} (h : nodB N = true) {x y : Nd} (hx : x ∈ N) (hy : y ∈ N) (e : x.id = y.id) : x = y := by
  obtain ⟨i, hi, rfl⟩ := mem_getD hx
  obtain ⟨j, hj, rfl⟩ := mem_getD hy
  rw [nod_inj h hi hj e]

open Classical in
/-- The nodes with a property, in order. -/
noncomputable def selP (N : List Nd) (P : Pid → Prop) : List Pid := (idsN N).filter fun a => decide (P a)
theorem mem_selP {N : List Nd} {P : Pid → Prop} {a : Pid} : a ∈ selP N P ↔ a ∈ idsN N ∧ P a := by
  unfold selP; rw [List.mem_filter]; simp
theorem selP_asc {N : List Nd} (h : Asc (idsN N)) (P : Pid → Prop) : Asc (selP N P) := List.Pairwise.filter _ h
theorem selP_ext {N : List Nd} (h : Asc (idsN N)) {P : Pid → Prop} {L : List Pid} (hL : Asc L) (hm : ∀ a, a ∈ L ↔ a ∈ idsN N ∧ P a) : L = selP N P :=
  asc_ext hL (selP_asc h P) fun a => by rw [hm, mem_selP]
theorem selP_len (N : List Nd) (P : Pid → Prop) : (selP N P).length ≤ N.length := by
  unfold selP; rw [← idsN_len]; exact List.length_filter_le _ _
open Classical in
/-- What NodesReach, NodesGroup and NodesReady answer. -/
noncomputable def reachR (N : List Nd) (a : Pid) : List Pid := if nodB N = true then selP N (Rp (EI N) a) else []
open Classical in
noncomputable def groupR (N : List Nd) (a : Pid) : List Pid := if nodB N = true ∧ a ∈ idsN N then selP N (Sc (EI N) a) else []
open Classical in
noncomputable def readyR (N : List Nd) (a : Pid) : Bool := decide (nodB N = true ∧ a ∈ idsN N ∧ RdI N a)
theorem reachR_asc (N : List Nd) (a : Pid) : Asc (reachR N a) := by
  unfold reachR; split
  · rename_i h; exact selP_asc (nod_of h).2.2 _
  · exact asc_nil
theorem groupR_asc (N : List Nd) (a : Pid) : Asc (groupR N a) := by
  unfold groupR; split
  · rename_i h; exact selP_asc (nod_of h.1).2.2 _
  · exact asc_nil
theorem mem_reachR {N : List Nd} {a b : Pid} : b ∈ reachR N a ↔ nodB N = true ∧ Rp (EI N) a b := by
  unfold reachR; split
  · rename_i h; rw [mem_selP]; exact ⟨fun x => ⟨h, x.2⟩, fun x => ⟨rp_r x.2, x.2⟩⟩
  · rename_i h; simp [h]
theorem mem_groupR {N : List Nd} {a b : Pid} : b ∈ groupR N a ↔ nodB N = true ∧ a ∈ idsN N ∧ Sc (EI N) a b := by
  unfold groupR; split
  · rename_i h; rw [mem_selP]; exact ⟨fun x => ⟨h.1, h.2, x.2⟩, fun x => ⟨sc_in x.2.2 h.2, x.2.2⟩⟩
  · rename_i h; simp only [List.not_mem_nil, false_iff]; exact fun x => h ⟨x.1, x.2.1⟩
open Classical in
theorem readyR_iff {N : List Nd} {a : Pid} : readyR N a = true ↔ nodB N = true ∧ a ∈ idsN N ∧ RdI N a := by simp only [readyR, decide_eq_true_eq]
theorem reachR_len (N : List Nd) (a : Pid) : (reachR N a).length ≤ 12 := by
  unfold reachR; split
  · rename_i h; have := selP_len N (Rp (EI N) a); have := (nod_of h).1; omega
  · simp
theorem groupR_len (N : List Nd) (a : Pid) : (groupR N a).length ≤ 12 := by
  unfold groupR; split
  · rename_i h; have := selP_len N (Sc (EI N) a); have := (nod_of h.1).1; omega
  · simp

/-- The rank of a node. -/
def seqP (N : List Nd) (a : Pid) : Int := ((N.find? fun x => decide (x.id = a)).getD nd0).seq
theorem seqP_of {N : List Nd} (h : nodB N = true) {x : Nd} (hx : x ∈ N) : seqP N x.id = x.seq := by
  unfold seqP
  cases hf : N.find? (fun y => decide (y.id = x.id)) with
  | none => have := List.find?_eq_none.1 hf x hx; simp at this
  | some y =>
    have h1 := List.mem_of_find?_eq_some hf
    have h2 : y.id = x.id := by simpa using List.find?_some hf
    rw [getD_uniq h h1 hx h2]; rfl
/-- Sooner by rank, then by id. -/
def Soon (N : List Nd) (a b : Pid) : Prop := seqP N a < seqP N b ∨ seqP N a = seqP N b ∧ ltP a b = true
theorem Soon.asym {N : List Nd} {a b : Pid} (h : Soon N a b) : ¬ Soon N b a := by
  rintro (g | ⟨g1, g2⟩)
  · rcases h with h | ⟨h1, _⟩ <;> omega
  · rcases h with h | ⟨_, h2⟩
    · omega
    · rw [ltP_asym h2] at g2; cases g2
theorem Soon.trans {N : List Nd} {a b c : Pid} (h : Soon N a b) (g : Soon N b c) : Soon N a c := by
  rcases h with h | ⟨h1, h2⟩ <;> rcases g with g | ⟨g1, g2⟩
  · exact .inl (by omega)
  · exact .inl (by omega)
  · exact .inl (by omega)
  · exact .inr ⟨by omega, ltP_trans h2 g2⟩
theorem Soon.tri (N : List Nd) (a b : Pid) : Soon N a b ∨ a = b ∨ Soon N b a := by
  by_cases h1 : seqP N a < seqP N b
  · exact .inl (.inl h1)
  · by_cases h2 : seqP N b < seqP N a
    · exact .inr (.inr (.inl h2))
    · have e : seqP N a = seqP N b := by omega
      by_cases h3 : ltP a b = true
      · exact .inl (.inr ⟨e, h3⟩)
      · by_cases h4 : ltP b a = true
        · exact .inr (.inr (.inr ⟨e.symm, h4⟩))
        · exact .inr (.inl (ltP_tri (by simpa using h3) (by simpa using h4)))
theorem soon_ext {N : List Nd} : ∀ {A B : List Pid}, A.Pairwise (Soon N) → B.Pairwise (Soon N) → (∀ x, x ∈ A ↔ x ∈ B) → A = B
  | [], [], _, _, _ => rfl
  | [], b :: s, _, _, h => absurd ((h b).2 List.mem_cons_self) (by simp)
  | a :: r, [], _, _, h => absurd ((h a).1 List.mem_cons_self) (by simp)
  | a :: r, b :: s, hA, hB, h => by
    have hA' := List.pairwise_cons.1 hA
    have hB' := List.pairwise_cons.1 hB
    have e : a = b := by
      rcases List.mem_cons.1 ((h a).1 List.mem_cons_self) with e | ha
      · exact e
      · rcases List.mem_cons.1 ((h b).2 List.mem_cons_self) with e | hb
        · exact e.symm
        · exact absurd (hB'.1 a ha) (hA'.1 b hb).asym
    subst e
    have nr : ¬ a ∈ r := fun hx => (hA'.1 a hx).asym (hA'.1 a hx)
    have ns : ¬ a ∈ s := fun hx => (hB'.1 a hx).asym (hB'.1 a hx)
    rw [soon_ext hA'.2 hB'.2 (fun x => ?_)]
    constructor
    · intro hx
      rcases List.mem_cons.1 ((h x).1 (List.mem_cons_of_mem _ hx)) with e | hx'
      · subst e; exact absurd hx nr
      · exact hx'
    · intro hx
      rcases List.mem_cons.1 ((h x).2 (List.mem_cons_of_mem _ hx)) with e | hx'
      · subst e; exact absurd hx ns
      · exact hx'
theorem soon_nodup {N : List Nd} {A : List Pid} (h : A.Pairwise (Soon N)) : A.Nodup := List.Pairwise.imp (fun {a b} hab e => by subst e; exact hab.asym hab) h

/-- Has not run, and may run. -/
def FreeI (N : List Nd) (R : Pid → Prop) (a : Pid) : Prop := a ∈ idsN N ∧ ¬ R a ∧ RdI N a ∧ ∀ b, Rp (EI N) a b → R b ∨ Sc (EI N) a b
/-- How nodes run, when some have run. -/
inductive Ord (N : List Nd) : (Pid → Prop) → List Pid → Prop
  | stop (R : Pid → Prop) (h : ∀ a, ¬ FreeI N R a) : Ord N R []
  | run (R : Pid → Prop) (a : Pid) (M L : List Pid) (hi : FreeI N R a) (hf : ∀ b, FreeI N R b → b = a ∨ Soon N a b) (hM : ∀ b, b ∈ M ↔ Sc (EI N) a b) (hs : M.Pairwise (Soon N)) (t : Ord N (fun b => R b ∨ b ∈ M) L) : Ord N R (M ++ L)
theorem Ord.det {N : List Nd} {R : Pid → Prop} {L L' : List Pid} (h : Ord N R L) (g : Ord N R L') : L = L' := by
  induction h generalizing L' with
  | stop R h =>
    cases g with
    | stop => rfl
    | run _ a M L hi => exact absurd hi (h a)
  | run R a M L hi hf hM hs t ih =>
    cases g with
    | stop _ h => exact absurd hi (h a)
    | run _ a' M' L'' hi' hf' hM' hs' t' =>
      have e : a = a' := by
        rcases hf a' hi' with e | e
        · exact e.symm
        · rcases hf' a hi with e' | e'
          · exact e'
          · exact absurd e' e.asym
      subst e
      have e : M = M' := soon_ext hs hs' fun x => by rw [hM, hM']
      subst e
      rw [ih t']
/-- What has run is closed: whole groups, with all that they reach. -/
def Clo (N : List Nd) (R : Pid → Prop) : Prop := ∀ a b, R a → Rt (EI N) a b → R b
theorem clo_none (N : List Nd) : Clo N (fun _ => False) := fun _ _ h _ => h
theorem FreeI.clo {N : List Nd} {R : Pid → Prop} {a : Pid} {M : List Pid} (hi : FreeI N R a) (hM : ∀ b, b ∈ M ↔ Sc (EI N) a b) (hc : Clo N R) : Clo N (fun b => R b ∨ b ∈ M) := by
  intro x y hx hy
  rcases hx with hx | hx
  · exact .inl (hc x y hx hy)
  · have hx' := (hM x).1 hx
    have hay : Rt (EI N) a y := hx'.1.trans hy
    rcases hay.cases with e | e
    · subst e; exact .inr ((hM _).2 (.refl _))
    · rcases hi.2.2.2 y e with h | h
      · exact .inl h
      · exact .inr ((hM y).2 h)
theorem FreeI.new {N : List Nd} {R : Pid → Prop} {a : Pid} {M : List Pid} (hi : FreeI N R a) (hM : ∀ b, b ∈ M ↔ Sc (EI N) a b) (hc : Clo N R) : ∀ b ∈ M, ¬ R b ∧ b ∈ idsN N ∧ RdI N b := by
  intro b hb
  have hs := (hM b).1 hb
  exact ⟨fun h => hi.2.1 (hc b a h hs.2), sc_in hs hi.1, hi.2.2.1.on hs.1⟩
/-- If some that is ready has not run, one is free. -/
theorem free_some {N : List Nd} {R : Pid → Prop} : ∀ (k : Nat) (a : Pid), (selP N (Rt (EI N) a)).length ≤ k → a ∈ idsN N → RdI N a → ¬ R a → ∃ b, FreeI N R b
  | 0, a, hk, ha, _, _ => by
    have : a ∈ selP N (Rt (EI N) a) := mem_selP.2 ⟨ha, .refl _⟩
    rw [List.length_eq_zero_iff.1 (Nat.le_zero.1 hk)] at this; cases this
  | k + 1, a, hk, ha, hr, hn => by
    by_cases h : ∃ b, Rp (EI N) a b ∧ ¬ R b ∧ ¬ Sc (EI N) a b
    · obtain ⟨b, h1, h2, h3⟩ := h
      refine free_some k b ?_ (rp_r h1) (hr.on h1.rt) h2
      have hlt : (selP N (Rt (EI N) b)).length < (selP N (Rt (EI N) a)).length := by
        have hsub : ∀ x, Rt (EI N) b x → Rt (EI N) a x := fun x hx => h1.rt.trans hx
        have hna : ¬ Rt (EI N) b a := fun hh => h3 ⟨h1.rt, hh⟩
        unfold selP
        rw [← List.countP_eq_length_filter, ← List.countP_eq_length_filter]
        clear hk
        generalize idsN N = I at ha
        induction I with
        | nil => cases ha
        | cons y I ih =>
          rw [List.countP_cons, List.countP_cons]
          have hle : ∀ I : List Pid, I.countP (fun a_1 => @decide (Rt (EI N) b a_1) (Classical.propDecidable _)) ≤ I.countP (fun a_1 => @decide (Rt (EI N) a a_1) (Classical.propDecidable _)) := fun I => List.countP_mono_left fun x _ hx => by
            simp only [decide_eq_true_eq] at hx ⊢; exact hsub x hx
          have := hle I
          rcases List.mem_cons.1 ha with e | e
          · subst e
            simp [hna, Rt.refl]; omega
          · have := ih e
            by_cases hy : Rt (EI N) b y
            · simp only [hy, hsub y hy, decide_true, if_true]; omega
            · simp only [hy, decide_false]; split <;> split <;> simp_all <;> omega
      omega
    · refine ⟨a, ha, hn, hr, fun b hb => ?_⟩
      by_cases h1 : R b
      · exact .inl h1
      · by_cases h2 : Sc (EI N) a b
        · exact .inr h2
        · exact absurd ⟨b, hb, h1, h2⟩ h
/-- Exactly what is ready runs. -/
theorem Ord.mem {N : List Nd} {R : Pid → Prop} {L : List Pid} (h : Ord N R L) (hc : Clo N R) : ∀ a, a ∈ L ↔ a ∈ idsN N ∧ RdI N a ∧ ¬ R a := by
  induction h with
  | stop R h =>
    intro a
    refine ⟨fun x => absurd x (by simp), ?_⟩
    rintro ⟨h1, h2, h3⟩
    obtain ⟨b, hb⟩ := free_some _ a (Nat.le_refl _) h1 h2 h3
    exact absurd hb (h b)
  | run R a M L hi hf hM hs t ih =>
    intro b
    rw [List.mem_append, ih (hi.clo hM hc) b]
    have hn := hi.new hM hc
    constructor
    · rintro (hb | ⟨h1, h2, h3⟩)
      · exact ⟨(hn b hb).2.1, (hn b hb).2.2, (hn b hb).1⟩
      · exact ⟨h1, h2, fun hh => h3 (.inl hh)⟩
    · rintro ⟨h1, h2, h3⟩
      by_cases hb : b ∈ M
      · exact .inl hb
      · exact .inr ⟨h1, h2, fun hh => hh.elim h3 hb⟩
theorem Ord.nodup {N : List Nd} {R : Pid → Prop} {L : List Pid} (h : Ord N R L) (hc : Clo N R) : L.Nodup := by
  induction h with
  | stop => exact List.nodup_nil
  | run R a M L hi hf hM hs t ih =>
    have hc' := hi.clo hM hc
    refine List.nodup_append.2 ⟨soon_nodup hs, ih hc', fun x hx y hy e => ?_⟩
    subst e
    exact ((t.mem hc' x).1 hy).2.2 (.inr hx)
/-- What is depended on runs first. -/
theorem Ord.deps {N : List Nd} {R : Pid → Prop} {L : List Pid} (h : Ord N R L) : ∀ A m B, L = A ++ m :: B → ∀ x, Rp (EI N) m x → Sc (EI N) m x ∨ R x ∨ x ∈ A := by
  induction h with
  | stop => intro A m B e; simp at e
  | run R a M L hi hf hM hs t ih =>
    intro A m B e x hx
    rcases List.append_eq_append_iff.1 e with ⟨C, h1, h2⟩ | ⟨C, h1, h2⟩
    · -- A = M ++ C
      rcases ih C m B h2 x hx with h | h | h
      · exact .inl h
      · rcases h with h | h
        · exact .inr (.inl h)
        · exact .inr (.inr (by rw [h1]; exact List.mem_append_left _ h))
      · exact .inr (.inr (by rw [h1]; exact List.mem_append_right _ h))
    · -- M = A ++ C, C ++ L = m :: B
      cases C with
      | nil =>
        simp at h1 h2
        rcases ih [] m B (by simpa using h2.symm) x hx with h | h | h
        · exact .inl h
        · rcases h with h | h
          · exact .inr (.inl h)
          · exact .inr (.inr (by rw [← h1]; exact h))
        · cases h
      | cons c C =>
        have e' : m = c := by simp at h2; exact h2.1
        subst e'
        have hm : m ∈ M := by rw [h1]; exact List.mem_append_right _ List.mem_cons_self
        have hs' := (hM m).1 hm
        rcases hi.2.2.2 x (hs'.1.rp hx) with h | h
        · exact .inr (.inl h)
        · exact .inl (hs'.symm.trans h)
/-- A group runs together, by rank. -/
theorem Ord.grp {N : List Nd} {R : Pid → Prop} {L : List Pid} (h : Ord N R L) (hc : Clo N R) : ∀ A m B, L = A ++ m :: B → (∀ x ∈ A, Sc (EI N) m x → Soon N x m) ∧ (∀ A' p, A = A' ++ [p] → ¬ Sc (EI N) m p → ∀ x ∈ A, ¬ Sc (EI N) m x) := by
  induction h with
  | stop => intro A m B e; simp at e
  | run R a M L hi hf hM hs t ih =>
    intro A m B e
    have hc' := hi.clo hM hc
    have out : ∀ m, m ∈ L → ∀ x ∈ M, ¬ Sc (EI N) m x := fun m hm x hx hsc =>
      ((t.mem hc' m).1 hm).2.2 (.inr ((hM m).2 (((hM x).1 hx).trans hsc.symm)))
    rcases List.append_eq_append_iff.1 e with ⟨C, h1, h2⟩ | ⟨C, h1, h2⟩
    · have hm : m ∈ L := by rw [h2]; exact List.mem_append_right _ List.mem_cons_self
      obtain ⟨i1, i2⟩ := ih hc' C m B h2
      subst h1
      refine ⟨fun x hx hsc => ?_, fun A' p e' hp x hx => ?_⟩
      · rcases List.mem_append.1 hx with hx | hx
        · exact absurd hsc (out m hm x hx)
        · exact i1 x hx hsc
      · rcases List.mem_append.1 hx with hx | hx
        · exact out m hm x hx
        · cases hC : C.reverse with
          | nil => rw [List.reverse_eq_nil_iff.1 hC] at hx; cases hx
          | cons q Q =>
            have hCe : C = Q.reverse ++ [q] := by
              have := congrArg List.reverse hC; simpa using this
            rw [hCe, ← List.append_assoc] at e'
            obtain ⟨_, e2⟩ := List.append_inj' e' rfl
            have : q = p := by simpa using e2
            subst this
            exact i2 _ q hCe hp x hx
    · cases C with
      | nil =>
        simp at h1 h2
        have hm : m ∈ L := by rw [← h2]; exact List.mem_cons_self
        exact ⟨fun x hx hsc => absurd hsc (out m hm x (by rw [h1]; exact hx)), fun A' p e' hp x hx => out m hm x (by rw [h1]; exact hx)⟩
      | cons c C =>
        have e' : m = c := by simp at h2; exact h2.1
        subst e'
        have hm : m ∈ M := by rw [h1]; exact List.mem_append_right _ List.mem_cons_self
        have hs2 := List.pairwise_append.1 (by rw [← h1]; exact hs)
        have hsc : ∀ x ∈ A, Sc (EI N) m x := fun x hx => ((hM m).1 hm).symm.trans ((hM x).1 (by rw [h1]; exact List.mem_append_left _ hx))
        refine ⟨fun x hx _ => hs2.2.2 x hx m List.mem_cons_self, fun A' p e' hp x hx => absurd (hsc p (by rw [e']; exact List.mem_append_right _ (List.mem_singleton.2 rfl))) hp⟩
end Go.Proofs.Ytbklkhndjckckaa

/- Slices of nodes: read. -/
namespace Go.Proofs.Ytbklkhndjckckaa
open Go.RowKit
set_option linter.unusedVariables false

theorem four_cells {w : World} {b : Nat} {x y z u : Value} {t : TypeId} (h : w.heap[b]? = some (.cells #[x, y, z, u] t (0, 0))) :
    w.cell? ⟨b, 0, none⟩ = some x ∧ w.cell? ⟨b, 1, none⟩ = some y ∧ w.cell? ⟨b, 2, none⟩ = some z ∧ w.cell? ⟨b, 3, none⟩ = some u := by
  simp [World.cell?, h]

/-- A node as a value. -/
def ndv (x : Nd) (u : Value) : Value := .agg #[.int .i64 x.id.1, .int .i64 x.id.2, .int .i64 x.seq, u]
/-- A node in memory, from a cell on. -/
def NdIn (w : World) (b o : Nat) (x : Nd) : Prop := ∃ (ua : Option Addr) (un uc : Nat), w.cell? ⟨b, o, none⟩ = some (.int .i64 x.id.1) ∧ w.cell? ⟨b, o + 1, none⟩ = some (.int .i64 x.id.2) ∧ w.cell? ⟨b, o + 2, none⟩ = some (.int .i64 x.seq) ∧ w.cell? ⟨b, o + 3, none⟩ = some (.slice ua un uc) ∧ Ids w (.slice ua un uc) x.deps
theorem NdIn.up {w w' : World} {b o B : Nat} {x : Nd} (h : NdIn w b o x) (hb : Below B w w') (hB : w.heap.size ≤ B) (hl : b < w.heap.size) : NdIn w' b o x := by
  obtain ⟨ua, un, uc, h0, h1, h2, h3, h4⟩ := h
  have hc : ∀ o, w'.cell? ⟨b, o, none⟩ = w.cell? ⟨b, o, none⟩ := fun o => hb.cell (p := ⟨b, o, none⟩) (Nat.lt_of_lt_of_le hl hB)
  exact ⟨ua, un, uc, by rw [hc]; exact h0, by rw [hc]; exact h1, by rw [hc]; exact h2, by rw [hc]; exact h3, h4.up hb hB⟩
/-- A slice of nodes, readable. -/
def Nds (w : World) (v : Value) (N : List Nd) : Prop :=
  ∃ a cap, v = .slice a N.length cap ∧ N.length ≤ cap ∧ N.length ≤ 2000000 ∧ (N.length = 0 ∨ ∃ b off, a = some ⟨b, off, none⟩ ∧ b < w.heap.size ∧ ∀ i, i < N.length → NdIn w b (off + i * 4) (N.getD i nd0))
theorem Nds.up {w w' : World} {B : Nat} {v : Value} {N : List Nd} (h : Nds w v N) (hb : Below B w w') (hB : w.heap.size ≤ B) : Nds w' v N := by
  obtain ⟨a, cap, rfl, h1, h2, h3⟩ := h
  refine ⟨a, cap, rfl, h1, h2, ?_⟩
  rcases h3 with h3 | ⟨b, off, rfl, h4, h5⟩
  · exact .inl h3
  · exact .inr ⟨b, off, rfl, Nat.lt_of_lt_of_le h4 hb.size, fun i hi => (h5 i hi).up hb hB h4⟩
end Go.Proofs.Ytbklkhndjckckaa

/- Plain facts: a set's ids in order. -/
namespace Go.Proofs.Ytbklkhndjckckaa
set_option linter.unusedVariables false

/-- The ids of a replica whose bits are m. -/
def bitsL (r m : Nat) : List Pid := (nums m).map fun n : Nat => ((r : Int), (n : Int))
/-- .. of the replicas from r on. -/
def idsFrom (f : Nat → Nat) : Nat → Nat → List Pid
  | _, 0 => []
  | r, k + 1 => bitsL r (f r) ++ idsFrom f (r + 1) k
def idsO (f : Nat → Nat) : List Pid := idsFrom f 0 5
theorem bitsL_len (r m : Nat) : (bitsL r m).length = pc 64 m := by unfold bitsL; rw [List.length_map, nums_len]
theorem bitsL_zero (r : Nat) : bitsL r 0 = [] := by unfold bitsL; rw [nums_zero]; rfl
theorem mem_bitsL {r m : Nat} {x : Pid} : x ∈ bitsL r m ↔ ∃ n : Nat, x = ((r : Int), (n : Int)) ∧ n < 64 ∧ m.testBit n = true := by
  unfold bitsL
  rw [List.mem_map]
  constructor
  · rintro ⟨n, h, rfl⟩; exact ⟨n, rfl, mem_nums.1 h⟩
  · rintro ⟨n, rfl, h⟩; exact ⟨n, mem_nums.2 h, rfl⟩
theorem bitsL_asc (r m : Nat) : Asc (bitsL r m) := by
  unfold bitsL Asc
  rw [List.pairwise_map]
  refine List.Pairwise.imp (R := (· < ·)) (fun {a b} h => ?_) (nums_asc m)
  have h' : a < b := h
  exact ltP_iff.2 (.inr ⟨rfl, by show (a : Int) < (b : Int); omega⟩)
theorem mem_from {f : Nat → Nat} {x : Pid} : ∀ {k r : Nat}, x ∈ idsFrom f r k ↔ ∃ r' n : Nat, x = ((r' : Int), (n : Int)) ∧ r ≤ r' ∧ r' < r + k ∧ n < 64 ∧ (f r').testBit n = true
  | 0, r => by simp [idsFrom]; intros; omega
  | k + 1, r => by
    rw [idsFrom, List.mem_append, mem_bitsL, mem_from]
    constructor
    · rintro (⟨n, rfl, h⟩ | ⟨r', n, rfl, h1, h2, h⟩)
      · exact ⟨r, n, rfl, Nat.le_refl _, by omega, h⟩
      · exact ⟨r', n, rfl, by omega, by omega, h⟩
    · rintro ⟨r', n, rfl, h1, h2, h⟩
      by_cases e : r' = r
      · subst e; exact .inl ⟨n, rfl, h⟩
      · exact .inr ⟨r', n, rfl, by omega, by omega, h⟩
theorem from_asc {f : Nat → Nat} : ∀ (k r : Nat), Asc (idsFrom f r k)
  | 0, r => asc_nil
  | k + 1, r => by
    rw [idsFrom]
    refine List.pairwise_append.2 ⟨bitsL_asc _ _, from_asc k (r + 1), fun x hx y hy => ?_⟩
    obtain ⟨n, rfl, _⟩ := mem_bitsL.1 hx
    obtain ⟨r', n', rfl, h1, _⟩ := mem_from.1 hy
    rw [ltP_iff]; simp; omega
theorem mem_idsO {f : Nat → Nat} {x : Pid} : x ∈ idsO f ↔ ∃ r n : Nat, x = ((r : Int), (n : Int)) ∧ r < 5 ∧ n < 64 ∧ (f r).testBit n = true := by
  unfold idsO
  rw [mem_from]
  constructor
  · rintro ⟨r, n, rfl, _, h2, h⟩; exact ⟨r, n, rfl, by omega, h⟩
  · rintro ⟨r, n, rfl, h2, h⟩; exact ⟨r, n, rfl, by omega, by omega, h⟩
theorem idsO_asc (f : Nat → Nat) : Asc (idsO f) := from_asc 5 0
def manyN (f : Nat → Nat) : Nat := pc 64 (f 0) + pc 64 (f 1) + pc 64 (f 2) + pc 64 (f 3) + pc 64 (f 4)
theorem idsO_len (f : Nat → Nat) : (idsO f).length = manyN f := by
  simp only [idsO, idsFrom, List.length_append, bitsL_len, List.length_nil, manyN, Nat.zero_add, Nat.reduceAdd]; omega
theorem manyN_le (f : Nat → Nat) : manyN f ≤ 320 := by
  unfold manyN
  have h0 := pc_le 64 (f 0); have h1 := pc_le 64 (f 1); have h2 := pc_le 64 (f 2); have h3 := pc_le 64 (f 3); have h4 := pc_le 64 (f 4)
  omega
/-- The lowest bit comes first. -/
theorem bitsL_cons {r m : Nat} (h0 : m ≠ 0) (h : m < 18446744073709551616) : bitsL r m = ((r : Int), ((Lib.ctz 64 m : Nat) : Int)) :: bitsL r (m &&& (m - 1)) := by
  obtain ⟨hk, ht, hlo, hcl⟩ := low_bit h0 h
  refine asc_ext (bitsL_asc r m) (List.pairwise_cons.2 ⟨fun x hx => ?_, bitsL_asc _ _⟩) (fun x => ?_)
  · obtain ⟨n, rfl, hn, hb⟩ := mem_bitsL.1 hx
    rw [hcl, Bool.and_eq_true, decide_eq_true_iff] at hb
    rw [ltP_iff]
    have : ¬ n < Lib.ctz 64 m := fun e => by rw [hlo n e] at hb; cases hb.1
    refine .inr ⟨rfl, ?_⟩
    have := hb.2
    show ((Lib.ctz 64 m : Nat) : Int) < (n : Int)
    omega
  · rw [List.mem_cons, mem_bitsL, mem_bitsL]
    constructor
    · rintro ⟨n, rfl, hn, hb⟩
      by_cases e : n = Lib.ctz 64 m
      · subst e; exact .inl rfl
      · exact .inr ⟨n, rfl, hn, by rw [hcl, hb, decide_eq_true e]; rfl⟩
    · rintro (rfl | ⟨n, rfl, hn, hb⟩)
      · exact ⟨_, rfl, hk, ht⟩
      · rw [hcl, Bool.and_eq_true] at hb
        exact ⟨n, rfl, hn, hb.1⟩

/-- A set of sorted ids has just these. -/
theorem idsO_mask {L : List Pid} (h : srtB L = true) : idsO (mask L) = L := by
  obtain ⟨h1, h2, h3⟩ := srt_of h
  refine asc_ext (idsO_asc _) h3 (fun x => ?_)
  rw [mem_idsO]
  constructor
  · rintro ⟨r, n, rfl, hr, hn, hb⟩; exact (mask_bit h2 r n).1 hb
  · intro hx
    obtain ⟨r, n, rfl, hr, hn, hn2⟩ := id_nat (List.all_eq_true.1 h2 x hx)
    exact ⟨r, n, rfl, hr, by omega, (mask_bit h2 r n).2 hx⟩

/-- Both lists joined. -/
def joinP (a b : List Pid) : List Pid := b.foldl putP a
theorem joinP_asc {a b : List Pid} (ha : Asc a) : Asc (joinP a b) := foldl_asc b ha
theorem joinP_mem {a b : List Pid} {x : Pid} : x ∈ joinP a b ↔ x ∈ a ∨ x ∈ b := foldl_mem b a x
theorem joinP_take {a b : List Pid} {k : Nat} (hk : k < b.length) : joinP a (b.take (k + 1)) = putP (joinP a (b.take k)) (b.getD k nop) := by
  rw [take_next hk]; unfold joinP; rw [List.foldl_append]; rfl
theorem joinP_len (a b : List Pid) : (joinP a b).length ≤ a.length + b.length := (foldl_len b a).2
/-- What DepsJoin answers. -/
def joinR (a b : List Pid) : List Pid × Bool := if srtB a = true ∧ srtB b = true ∧ (joinP a b).length ≤ 12 then (joinP a b, true) else ([], false)
theorem joinR_t {a b : List Pid} (h1 : srtB a = true) (h2 : srtB b = true) (h3 : (joinP a b).length ≤ 12) : joinR a b = (joinP a b, true) := if_pos ⟨h1, h2, h3⟩
theorem joinR_1 {a b : List Pid} (h : srtB a = false) : joinR a b = ([], false) := if_neg fun x => by rw [h] at x; cases x.1
theorem joinR_2 {a b : List Pid} (h : srtB b = false) : joinR a b = ([], false) := if_neg fun x => by rw [h] at x; cases x.2.1
theorem joinR_3 {a b : List Pid} (h : ¬ (joinP a b).length ≤ 12) : joinR a b = ([], false) := if_neg fun x => h x.2.2
theorem idsO_join {a b : List Pid} (ha : srtB a = true) (hb : srtB b = true) : idsO (fun r => setF a r ||| setF b r) = joinP a b := by
  rw [setF_t ha, setF_t hb]
  obtain ⟨a1, a2, a3⟩ := srt_of ha
  obtain ⟨b1, b2, b3⟩ := srt_of hb
  refine asc_ext (idsO_asc _) (joinP_asc a3) (fun x => ?_)
  rw [mem_idsO, joinP_mem]
  constructor
  · rintro ⟨r, n, rfl, hr, hn, hb⟩
    rw [Nat.testBit_or, Bool.or_eq_true, mask_bit a2, mask_bit b2] at hb
    exact hb
  · intro hx
    obtain ⟨r, n, rfl, hr, hn, hn2⟩ := id_nat (x := x) (by rcases hx with h | h; exact List.all_eq_true.1 a2 x h; exact List.all_eq_true.1 b2 x h)
    exact ⟨r, n, rfl, hr, by omega, by rw [Nat.testBit_or, Bool.or_eq_true, mask_bit a2, mask_bit b2]; exact hx⟩
end Go.Proofs.Ytbklkhndjckckaa

/- Plain facts: places of nodes, and what a group has. -/
namespace Go.Proofs.Ytbklkhndjckckaa
set_option linter.unusedVariables false

/-- The node at a place depends on the one at another place. -/
def EN (N : List Nd) (i j : Nat) : Prop := i < N.length ∧ j < N.length ∧ (N.getD j nd0).id ∈ (N.getD i nd0).deps
theorem en_ei {N : List Nd} (h : nodB N = true) {i j : Nat} (hi : i < N.length) (hj : j < N.length) : EN N i j ↔ EI N (N.getD i nd0).id (N.getD j nd0).id := by
  constructor
  · rintro ⟨_, _, h3⟩
    exact ⟨List.mem_map_of_mem (getD_mem hj), _, getD_mem hi, rfl, h3⟩
  · rintro ⟨_, x, hx, e, hd⟩
    rw [getD_uniq h hx (getD_mem hi) e] at hd
    exact ⟨hi, hj, hd⟩
theorem rt_lt {N : List Nd} {i j : Nat} (g : Rt (EN N) i j) (hi : i < N.length) : j < N.length := g.closed (P := fun j => j < N.length) (fun _ _ _ e => e.2.1) hi
theorem en_rt {N : List Nd} (h : nodB N = true) {i j : Nat} (g : Rt (EN N) i j) : Rt (EI N) (N.getD i nd0).id (N.getD j nd0).id := by
  induction g with
  | refl => exact .refl _
  | head e _ ih => exact .head ((en_ei h e.1 e.2.1).1 e) ih
theorem rt_en {N : List Nd} (h : nodB N = true) {a b : Pid} (g : Rt (EI N) a b) : ∀ i, i < N.length → (N.getD i nd0).id = a → ∃ j, j < N.length ∧ (N.getD j nd0).id = b ∧ Rt (EN N) i j := by
  induction g with
  | refl a => intro i hi e; exact ⟨i, hi, e, .refl _⟩
  | head e _ ih =>
    intro i hi hia
    obtain ⟨k, hk, rfl⟩ := mem_idsN.1 e.r
    obtain ⟨j, hj, hjb, hr⟩ := ih k hk rfl
    subst hia
    exact ⟨j, hj, hjb, .head ((en_ei h hi hk).2 e) hr⟩
theorem rt_iff {N : List Nd} (h : nodB N = true) {i j : Nat} (hi : i < N.length) (hj : j < N.length) : Rt (EN N) i j ↔ Rt (EI N) (N.getD i nd0).id (N.getD j nd0).id := by
  refine ⟨en_rt h, fun g => ?_⟩
  obtain ⟨k, hk, e, hr⟩ := rt_en h g i hi rfl
  rw [← nod_inj h hk hj e]; exact hr
theorem sc_iff {N : List Nd} (h : nodB N = true) {i j : Nat} (hi : i < N.length) (hj : j < N.length) : Sc (EN N) i j ↔ Sc (EI N) (N.getD i nd0).id (N.getD j nd0).id := by
  unfold Sc; rw [rt_iff h hi hj, rt_iff h hj hi]

/-- A set of bits has the ids with a property. -/
structure Bits (f : Nat → Nat) (P : Pid → Prop) : Prop where
  bit : ∀ r n : Nat, r < 5 → ((f r).testBit n = true ↔ P ((r : Int), (n : Int)))
  ok : ∀ x, P x → okP x = true
theorem Bits.lt {f : Nat → Nat} {P : Pid → Prop} (h : Bits f P) {r : Nat} (hr : r < 5) : f r < 2251799813685248 := by
  refine Nat.lt_pow_two_of_testBit (n := 51) _ fun i hi => ?_
  cases e : (f r).testBit i with
  | false => rfl
  | true =>
    have := okP_of (h.ok _ ((h.bit r i hr).1 e))
    dsimp only at this
    omega
theorem Bits.zero : Bits (fun _ => 0) (fun _ => False) := ⟨fun r n _ => by simp, fun _ h => h.elim⟩
theorem Bits.ext {f : Nat → Nat} {P Q : Pid → Prop} (h : Bits f P) (e : ∀ x, P x ↔ Q x) : Bits f Q := ⟨fun r n hr => (h.bit r n hr).trans (e _), fun x hx => h.ok x ((e x).2 hx)⟩
/-- An id more. -/
def addF (f : Nat → Nat) (a : Pid) : Nat → Nat := fun r => if a.1 = (r : Int) then f r ||| 2 ^ a.2.toNat else f r
theorem Bits.add {f : Nat → Nat} {P : Pid → Prop} (h : Bits f P) {a : Pid} (ha : okP a = true) : Bits (addF f a) (fun x => P x ∨ x = a) := by
  refine ⟨fun r n hr => ?_, fun x hx => hx.elim (h.ok x) (fun e => by rw [e]; exact ha)⟩
  obtain ⟨r', n', rfl, _⟩ := id_nat ha
  unfold addF
  by_cases e : r' = r
  · subst e
    simp only [if_true, Nat.testBit_or, Bool.or_eq_true, Nat.testBit_two_pow, decide_eq_true_eq, Int.toNat_natCast, h.bit r' n hr, Prod.mk.injEq, true_and, Int.ofNat_inj]
    exact or_congr Iff.rfl eq_comm
  · have : ¬ ((r' : Int) = (r : Int)) := by omega
    simp only [if_neg this, h.bit r n hr, Prod.mk.injEq]
    constructor
    · exact .inl
    · rintro (hh | ⟨e1, _⟩)
      · exact hh
      · exact absurd (by omega) e
theorem Bits.join {f g : Nat → Nat} {P Q : Pid → Prop} (h : Bits f P) (k : Bits g Q) : Bits (fun r => f r ||| g r) (fun x => P x ∨ Q x) :=
  ⟨fun r n hr => by rw [Nat.testBit_or, Bool.or_eq_true, h.bit r n hr, k.bit r n hr], fun x hx => hx.elim (h.ok x) (k.ok x)⟩
theorem Bits.within {f g : Nat → Nat} {P Q : Pid → Prop} (h : Bits f P) (k : Bits g Q) : (∀ r, r < 5 → f r ||| g r = g r) ↔ ∀ x, P x → Q x := by
  constructor
  · intro e x hx
    obtain ⟨r, n, rfl, hr, _⟩ := id_nat (h.ok x hx)
    rw [← k.bit r n hr, ← e r hr, Nat.testBit_or, (h.bit r n hr).2 hx]; rfl
  · intro e r hr
    apply Nat.eq_of_testBit_eq
    intro n
    rw [Nat.testBit_or]
    cases hb : (f r).testBit n with
    | false => rfl
    | true => rw [(k.bit r n hr).2 (e _ ((h.bit r n hr).1 hb))]; rfl
theorem Bits.mem {f : Nat → Nat} {P : Pid → Prop} (h : Bits f P) {x : Pid} : x ∈ idsO f ↔ P x := by
  rw [mem_idsO]
  constructor
  · rintro ⟨r, n, rfl, hr, _, hb⟩; exact (h.bit r n hr).1 hb
  · intro hx
    obtain ⟨r, n, rfl, hr, hn, hn2⟩ := id_nat (h.ok x hx)
    exact ⟨r, n, rfl, hr, by omega, (h.bit r n hr).2 hx⟩
theorem Bits.has {f : Nat → Nat} {P : Pid → Prop} (h : Bits f P) {r n : Nat} (hr : r < 5) : (f r).testBit n = true ↔ P ((r : Int), (n : Int)) := h.bit r n hr

theorem nod_okI {N : List Nd} (h : nodB N = true) {a : Pid} (ha : a ∈ idsN N) : okP a = true := by
  obtain ⟨x, hx, rfl⟩ := List.mem_map.1 ha
  have := (nod_of h).2.1 x hx
  simp only [ndB, Bool.and_eq_true] at this
  exact this.1

/-- What a group reaches: P are the ids so far. -/
theorem gat_reach {N : List Nd} (h : nodB N = true) {S : Pid → Prop} (hS : ∀ a b, S a → (S b ↔ Sc (EI N) a b)) {P : Pid → Prop}
    (hs : ∀ x, P x → ∃ a, S a ∧ Rp (EI N) a x) (hd : ∀ a, S a → ∀ b, EI N a b → P b ∧ (¬ S b → ∀ x, Rp (EI N) b x → P x)) {a : Pid} (ha : S a) (x : Pid) : P x ↔ Rp (EI N) a x := by
  constructor
  · intro hx
    obtain ⟨b, hb, hr⟩ := hs x hx
    exact ((hS a b ha).1 hb).1.rp hr
  · rintro ⟨b, hb, hr⟩
    induction hr generalizing a with
    | refl b => exact (hd a ha b hb).1
    | head e t ih =>
      rename_i p q r
      by_cases hp : S p
      · exact ih hp e
      · exact (hd a ha p hb).2 hp _ ⟨_, e, t⟩
/-- Whether a group is ready. -/
theorem gat_ready {N : List Nd} {S : Pid → Prop} (hS : ∀ a b, S a → (S b ↔ Sc (EI N) a b)) {a : Pid} (ha : S a) :
    RdI N a ↔ ∀ b, S b → OkI N b ∧ ∀ c, EI N b c → ¬ S c → RdI N c := by
  constructor
  · intro hr b hb
    have h1 := ((hS a b ha).1 hb).1
    exact ⟨hr b h1, fun c hc _ => hr.on (h1.trans (.one hc))⟩
  · intro hh b hr
    induction hr with
    | refl a => exact (hh a ha).1
    | head e t ih =>
      rename_i p q r
      by_cases hq : S q
      · exact ih hq
      · exact (hh p ha).2 q e hq r t
end Go.Proofs.Ytbklkhndjckckaa

/- Memory that turns only in some blocks; nodes in rows of their own; how a row is sorted. -/
namespace Go.Proofs.Ytbklkhndjckckaa
open Go.RowKit
set_option linter.unusedVariables false

/-- All elder memory is as it was, but some blocks. -/
structure Exc (P : Nat → Prop) (w w' : World) : Prop where
  os : w'.os = w.os
  tape : w'.tape = w.tape
  output : w'.output = w.output
  size : w.heap.size ≤ w'.heap.size
  block : ∀ b, b < w.heap.size → ¬ P b → w'.heap[b]? = w.heap[b]?
theorem Exc.refl (P : Nat → Prop) (w : World) : Exc P w w := ⟨rfl, rfl, rfl, Nat.le_refl _, fun _ _ _ => rfl⟩
theorem Exc.of {P : Nat → Prop} {w w' : World} (h : Below w.heap.size w w') : Exc P w w' := ⟨h.os, h.tape, h.output, h.size, fun b hb _ => h.block b hb⟩
theorem Exc.trans {P Q : Nat → Prop} {w w1 w2 : World} (h : Exc P w w1) (g : Exc Q w1 w2) (hQ : ∀ b, b < w.heap.size → Q b → P b) : Exc P w w2 :=
  ⟨g.os.trans h.os, g.tape.trans h.tape, g.output.trans h.output, Nat.le_trans h.size g.size, fun b hb hn => (g.block b (Nat.lt_of_lt_of_le hb h.size) (fun hq => hn (hQ b hb hq))).trans (h.block b hb hn)⟩
theorem Exc.below {P : Nat → Prop} {w w1 w2 : World} (h : Exc P w w1) (g : Below w1.heap.size w1 w2) : Exc P w w2 := h.trans (Exc.of (P := P) g) (fun _ _ x => x)
theorem Exc.set {P : Nat → Prop} {w w1 : World} (h : Exc P w w1) {b : Nat} (hb : P b ∨ w.heap.size ≤ b) (o : Nat) (v : Value) : Exc P w (w1.setCell ⟨b, o, none⟩ v) := by
  refine ⟨h.os, h.tape, h.output, by rw [World.size_setCell]; exact h.size, fun c hc hn => ?_⟩
  rw [heap_setCell_other w1 ⟨b, o, none⟩ c v (fun e => by subst e; exact hb.elim hn (fun x => absurd hc (Nat.not_lt.2 x)))]
  exact h.block c hc hn
theorem Exc.drew {P : Nat → Prop} {w w1 : World} (h : Exc P w w1) : Exc P w w1.drew := ⟨h.os, h.tape, h.output, h.size, h.block⟩
theorem Exc.drewN {P : Nat → Prop} {w w1 : World} (h : Exc P w w1) (n : Nat) : Exc P w (w1.drewN n) := ⟨h.os, h.tape, h.output, h.size, h.block⟩
theorem Exc.alloc {P : Nat → Prop} {w w1 : World} (h : Exc P w w1) (o : Obj) : Exc P w (w1.alloc o) := h.below ((Below.refl _ _).alloc (Nat.le_refl _) o)
theorem Exc.to {P : Nat → Prop} {w w1 : World} (h : Exc P w w1) {B : Nat} (hB : B ≤ w.heap.size) (hP : ∀ b, P b → B ≤ b) : Below B w w1 :=
  ⟨h.os, h.tape, h.output, h.size, fun b hb => h.block b (Nat.lt_of_lt_of_le hb hB) (fun hp => absurd hb (Nat.not_lt.2 (hP b hp)))⟩
theorem Exc.at {P : Nat → Prop} {w w1 : World} (h : Exc P w w1) {b : Nat} {o : Obj} (hn : ¬ P b) (hb : w.heap[b]? = some o) : w1.heap[b]? = some o := (h.block b (lt_of_heap hb) hn).trans hb

/-- Where the deps of the nodes lie. -/
abbrev Us : Type := Nat → Option Addr × Nat × Nat
/-- The cells of the node at a place. -/
def ndc (N : List Nd) (U : Us) (k : Nat) : List Value := [.int .i64 (N.getD k nd0).id.1, .int .i64 (N.getD k nd0).id.2, .int .i64 (N.getD k nd0).seq, .slice (U k).1 (U k).2.1 (U k).2.2]
/-- The nodes in memory. -/
structure NdAt (w : World) (g off : Nat) (N : List Nd) (U : Us) : Prop where
  lt : g < w.heap.size
  cell : ∀ i, i < N.length → w.cell? ⟨g, off + i * 4, none⟩ = some (.int .i64 (N.getD i nd0).id.1) ∧ w.cell? ⟨g, off + i * 4 + 1, none⟩ = some (.int .i64 (N.getD i nd0).id.2) ∧ w.cell? ⟨g, off + i * 4 + 2, none⟩ = some (.int .i64 (N.getD i nd0).seq) ∧ w.cell? ⟨g, off + i * 4 + 3, none⟩ = some (.slice (U i).1 (U i).2.1 (U i).2.2)
  ids : ∀ i, i < N.length → Ids w (.slice (U i).1 (U i).2.1 (U i).2.2) (N.getD i nd0).deps
theorem NdAt.up {w w' : World} {g off : Nat} {N : List Nd} {U : Us} (h : NdAt w g off N U) {B : Nat} (hb : Below B w w') (hB : w.heap.size ≤ B) : NdAt w' g off N U := by
  have hc : ∀ o, w'.cell? ⟨g, o, none⟩ = w.cell? ⟨g, o, none⟩ := fun o => hb.cell (p := ⟨g, o, none⟩) (Nat.lt_of_lt_of_le h.lt hB)
  exact ⟨Nat.lt_of_lt_of_le h.lt hb.size, fun i hi => by rw [hc, hc, hc, hc]; exact h.cell i hi, fun i hi => (h.ids i hi).up hb hB⟩
theorem NdAt.ins {w : World} {g off : Nat} {N : List Nd} {U : Us} (h : NdAt w g off N U) : ∀ i, i < N.length → NdIn w g (off + i * 4) (N.getD i nd0) := fun i hi => by
  obtain ⟨h0, h1, h2, h3⟩ := h.cell i hi
  exact ⟨_, _, _, h0, h1, h2, h3, h.ids i hi⟩
theorem NdAt.of {w : World} {g off : Nat} {N : List Nd} (hg : g < w.heap.size) (h : ∀ i, i < N.length → NdIn w g (off + i * 4) (N.getD i nd0)) : ∃ U : Us, NdAt w g off N U := by
  have h' : ∀ i, ∃ u : Option Addr × Nat × Nat, i < N.length → w.cell? ⟨g, off + i * 4, none⟩ = some (.int .i64 (N.getD i nd0).id.1) ∧ w.cell? ⟨g, off + i * 4 + 1, none⟩ = some (.int .i64 (N.getD i nd0).id.2) ∧ w.cell? ⟨g, off + i * 4 + 2, none⟩ = some (.int .i64 (N.getD i nd0).seq) ∧ w.cell? ⟨g, off + i * 4 + 3, none⟩ = some (.slice u.1 u.2.1 u.2.2) ∧ Ids w (.slice u.1 u.2.1 u.2.2) (N.getD i nd0).deps := fun i => by
    by_cases hi : i < N.length
    · obtain ⟨ua, un, uc, h0, h1, h2, h3, h4⟩ := h i hi
      exact ⟨(ua, un, uc), fun _ => ⟨h0, h1, h2, h3, h4⟩⟩
    · exact ⟨(none, 0, 0), fun hh => absurd hh hi⟩
  exact ⟨fun i => Classical.choose (h' i), hg, fun i hi => by obtain ⟨h0, h1, h2, h3, _⟩ := Classical.choose_spec (h' i) hi; exact ⟨h0, h1, h2, h3⟩, fun i hi => (Classical.choose_spec (h' i) hi).2.2.2.2⟩

/-- A row of nodes, by their places, from a block's head on. -/
structure RowN (w : World) (mb : Nat) (N : List Nd) (U : Us) (Q : List Nat) : Prop where
  blk : ∃ cur, w.heap[mb]? = some (.cells cur 33 (0, 0)) ∧ ∀ i, i < Q.length → ∀ j, j < 4 → cur[i * 4 + j]? = (ndc N U (Q.getD i 0))[j]?
theorem RowN.lt {w : World} {mb : Nat} {N : List Nd} {U : Us} {Q : List Nat} (h : RowN w mb N U Q) : mb < w.heap.size := by obtain ⟨_, h, _⟩ := h.blk; exact lt_of_heap h
theorem RowN.cell {w : World} {mb : Nat} {N : List Nd} {U : Us} {Q : List Nat} (h : RowN w mb N U Q) {i : Nat} (hi : i < Q.length) :
    w.cell? ⟨mb, i * 4, none⟩ = some (.int .i64 (N.getD (Q.getD i 0) nd0).id.1) ∧ w.cell? ⟨mb, i * 4 + 1, none⟩ = some (.int .i64 (N.getD (Q.getD i 0) nd0).id.2) ∧ w.cell? ⟨mb, i * 4 + 2, none⟩ = some (.int .i64 (N.getD (Q.getD i 0) nd0).seq) ∧ w.cell? ⟨mb, i * 4 + 3, none⟩ = some (.slice (U (Q.getD i 0)).1 (U (Q.getD i 0)).2.1 (U (Q.getD i 0)).2.2) := by
  obtain ⟨cur, hb, hc⟩ := h.blk
  rw [cell_of_cells hb, cell_of_cells hb, cell_of_cells hb, cell_of_cells hb]
  exact ⟨hc i hi 0 (by omega), hc i hi 1 (by omega), hc i hi 2 (by omega), hc i hi 3 (by omega)⟩
theorem RowN.free {w : World} {mb : Nat} {N : List Nd} {U : Us} {Q : List Nat} (h : RowN w mb N U Q) (m : Nat) : w.frozen? ⟨mb, m, none⟩ = false := by
  obtain ⟨cur, hb, hc⟩ := h.blk
  simp [World.frozen?, hb]
theorem RowN.same {w w' : World} {mb : Nat} {N : List Nd} {U : Us} {Q : List Nat} (h : RowN w mb N U Q) (hb : w'.heap[mb]? = w.heap[mb]?) : RowN w' mb N U Q := by
  obtain ⟨cur, h1, h2⟩ := h.blk
  exact ⟨cur, hb.trans h1, h2⟩
/-- A node put at a place of the row. -/
theorem RowN.put {w : World} {mb : Nat} {N : List Nd} {U : Us} {Q : List Nat} (h : RowN w mb N U Q) {i k : Nat} (hi : i < Q.length) {v0 v1 v2 v3 : Value} (e : ndc N U k = [v0, v1, v2, v3]) :
    RowN ((((w.setCell ⟨mb, i * 4, none⟩ v0).setCell ⟨mb, i * 4 + 1, none⟩ v1).setCell ⟨mb, i * 4 + 2, none⟩ v2).setCell ⟨mb, i * 4 + 3, none⟩ v3) mb N U (Q.set i k) := by
  obtain ⟨cur, hb, hc⟩ := h.blk
  have e1 := heap_setCell_same w mb (i * 4) cur _ v0 hb
  have e2 := heap_setCell_same _ mb (i * 4 + 1) _ _ v1 e1
  have e3 := heap_setCell_same _ mb (i * 4 + 2) _ _ v2 e2
  have e4 := heap_setCell_same _ mb (i * 4 + 3) _ _ v3 e3
  have hs : i * 4 + 3 < cur.size := by
    have := hc i hi 3 (by omega)
    rcases Nat.lt_or_ge (i * 4 + 3) cur.size with h | h
    · exact h
    · rw [Array.getElem?_eq_none h] at this; simp [ndc] at this
  refine ⟨_, e4, fun m hm j hj => ?_⟩
  rw [List.length_set] at hm
  by_cases em : m = i
  · subst em
    have eg : (Q.set m k).getD m 0 = k := by rw [List.getD_eq_getElem?_getD, List.getElem?_set_self hm]; rfl
    rw [eg, e]
    rcases (show j = 0 ∨ j = 1 ∨ j = 2 ∨ j = 3 by omega) with rfl | rfl | rfl | rfl <;> simp [hs, show m * 4 < cur.size by omega, show m * 4 + 1 < cur.size by omega, show m * 4 + 2 < cur.size by omega]
  · have eg : (Q.set i k).getD m 0 = Q.getD m 0 := by
      rw [List.getD_eq_getElem?_getD, List.getElem?_set_ne (fun x => em x.symm), ← List.getD_eq_getElem?_getD]
    rw [eg]
    simp only [Array.getElem?_setIfInBounds]
    rw [if_neg (by omega), if_neg (by omega), if_neg (by omega), if_neg (by omega)]
    exact hc m hm j hj

/-- Which place is sooner. -/
def soonK (N : List Nd) (k l : Nat) : Prop := (N.getD k nd0).seq < (N.getD l nd0).seq ∨ (N.getD k nd0).seq = (N.getD l nd0).seq ∧ ltP (N.getD k nd0).id (N.getD l nd0).id = true
theorem soonK.trans {N : List Nd} {a b c : Nat} (h : soonK N a b) (g : soonK N b c) : soonK N a c := by
  rcases h with h | ⟨h1, h2⟩ <;> rcases g with g | ⟨g1, g2⟩
  · exact .inl (by omega)
  · exact .inl (by omega)
  · exact .inl (by omega)
  · exact .inr ⟨by omega, ltP_trans h2 g2⟩
theorem soonK.tri {N : List Nd} (h : nodB N = true) {a b : Nat} (ha : a < N.length) (hb : b < N.length) (hne : a ≠ b) (hn : ¬ soonK N a b) : soonK N b a := by
  unfold soonK at hn ⊢
  by_cases h1 : (N.getD b nd0).seq < (N.getD a nd0).seq
  · exact .inl h1
  · have e : (N.getD b nd0).seq = (N.getD a nd0).seq := by
      have : ¬ (N.getD a nd0).seq < (N.getD b nd0).seq := fun hh => hn (.inl hh)
      omega
    refine .inr ⟨e, ?_⟩
    rw [nod_lt h hb ha]
    have h3 : ¬ a < b := fun hl => hn (.inr ⟨e.symm, (nod_lt h ha hb).2 hl⟩)
    omega

/-- Within insertion sort: all up to i are in order, but the one at j, which is sooner than all behind it. -/
structure Ins (N : List Nd) (Q0 Q : List Nat) (i j : Nat) : Prop where
  perm : Q.Perm Q0
  le : j ≤ i
  lt : i < Q.length
  ord : ∀ a b, a < b → b ≤ i → a ≠ j → b ≠ j → soonK N (Q.getD a 0) (Q.getD b 0)
  low : ∀ b, j < b → b ≤ i → soonK N (Q.getD j 0) (Q.getD b 0)
/-- All ahead of i are in order. -/
structure Srd (N : List Nd) (Q0 Q : List Nat) (i : Nat) : Prop where
  perm : Q.Perm Q0
  le : i ≤ Q.length
  ord : ∀ a b, a < b → b < i → soonK N (Q.getD a 0) (Q.getD b 0)
theorem Srd.ins {N : List Nd} {Q0 Q : List Nat} {i : Nat} (h : Srd N Q0 Q i) (hi : i < Q.length) : Ins N Q0 Q i i :=
  ⟨h.perm, Nat.le_refl _, hi, fun a b hab hb _ hb' => h.ord a b hab (by omega), fun b h1 h2 => by omega⟩
theorem Ins.done {N : List Nd} {Q0 Q : List Nat} {i j : Nat} (h : Ins N Q0 Q i j) (hj : j = 0 ∨ soonK N (Q.getD (j - 1) 0) (Q.getD j 0)) : Srd N Q0 Q (i + 1) := by
  refine ⟨h.perm, h.lt, fun a b hab hb => ?_⟩
  by_cases ea : a = j
  · subst ea; exact h.low b hab (by omega)
  · by_cases eb : b = j
    · subst eb
      rcases hj with rfl | hj
      · omega
      · by_cases e : a = b - 1
        · subst e; exact hj
        · exact (h.ord a (b - 1) (by omega) (by omega) ea (by omega)).trans hj
    · exact h.ord a b hab (by omega) ea eb
theorem Ins.step {N : List Nd} {Q0 Q : List Nat} {i j : Nat} (h : Ins N Q0 Q i (j + 1)) (hs : soonK N (Q.getD (j + 1) 0) (Q.getD j 0)) : Ins N Q0 ((Q.set (j + 1) (Q.getD j 0)).set j (Q.getD (j + 1) 0)) i j := by
  have hlt := h.lt
  have hle := h.le
  have hj1 : j + 1 < Q.length := by omega
  have g0 : ((Q.set (j + 1) (Q.getD j 0)).set j (Q.getD (j + 1) 0)).getD j 0 = Q.getD (j + 1) 0 := by
    rw [List.getD_eq_getElem?_getD, List.getElem?_set_self (by rw [List.length_set]; omega)]; rfl
  have g1 : ((Q.set (j + 1) (Q.getD j 0)).set j (Q.getD (j + 1) 0)).getD (j + 1) 0 = Q.getD j 0 := by
    rw [List.getD_eq_getElem?_getD, List.getElem?_set_ne (by omega), List.getElem?_set_self hj1]; rfl
  have g2 : ∀ m, m ≠ j → m ≠ j + 1 → ((Q.set (j + 1) (Q.getD j 0)).set j (Q.getD (j + 1) 0)).getD m 0 = Q.getD m 0 := fun m h1 h2 => by
    rw [List.getD_eq_getElem?_getD, List.getElem?_set_ne (fun e => h1 e.symm), List.getElem?_set_ne (fun e => h2 e.symm), ← List.getD_eq_getElem?_getD]
  refine ⟨?_, by omega, by rw [List.length_set, List.length_set]; exact hlt, fun a b hab hb ha hb' => ?_, fun b h1 h2 => ?_⟩
  · refine List.Perm.trans ?_ h.perm
    have e : Q = Q.take j ++ Q[j] :: Q[j + 1] :: Q.drop (j + 2) := by
      rw [← List.drop_eq_getElem_cons hj1, ← List.drop_eq_getElem_cons (by omega), List.take_append_drop]
    have e' : (Q.set (j + 1) (Q.getD j 0)).set j (Q.getD (j + 1) 0) = Q.take j ++ Q[j + 1] :: Q[j] :: Q.drop (j + 2) := by
      have q0 : Q.getD j 0 = Q[j] := by rw [List.getD_eq_getElem?_getD, List.getElem?_eq_getElem (by omega)]; rfl
      have q1 : Q.getD (j + 1) 0 = Q[j + 1] := by rw [List.getD_eq_getElem?_getD, List.getElem?_eq_getElem hj1]; rfl
      rw [q0, q1]
      generalize Q[j] = y at e ⊢
      generalize Q[j + 1] = x at e ⊢
      have hl : (Q.take j).length = j := by rw [List.length_take]; omega
      generalize Q.take j = A at e hl ⊢
      generalize Q.drop (j + 2) = B at e ⊢
      subst e
      subst hl
      simp
    rw [e']
    conv => rhs; rw [e]
    exact List.Perm.append_left _ (List.Perm.swap _ _ _)
  · by_cases eb : b = j + 1
    · subst eb; rw [g1, g2 a ha (by omega)]
      exact h.ord a j (by omega) (by omega) (by omega) (by omega)
    · rw [g2 b hb' eb]
      by_cases ea : a = j + 1
      · subst ea; rw [g1]
        exact h.ord j b (by omega) hb (by omega) eb
      · rw [g2 a ha ea]; exact h.ord a b hab hb ea eb
  · rw [g0]
    by_cases eb : b = j + 1
    · subst eb; rw [g1]; exact hs
    · rw [g2 b (by omega) eb]; exact h.low b (by omega) h2
end Go.Proofs.Ytbklkhndjckckaa

/- The finder in memory: its fields, the stack, the groups. -/
namespace Go.Proofs.Ytbklkhndjckckaa
open Go.RowKit
set_option linter.unusedVariables false

/-- A block's kind. -/
def Typ (w : World) (b : Nat) (t : TypeId) : Prop := ∃ cur, w.heap[b]? = some (.cells cur t (0, 0))
theorem Typ.uniq {w : World} {b : Nat} {t u : TypeId} (h : Typ w b t) (g : Typ w b u) : t = u := by
  obtain ⟨c, h⟩ := h; obtain ⟨d, g⟩ := g
  rw [h] at g; simp at g; exact g.2
theorem Typ.ne {w : World} {b c : Nat} {t u : TypeId} (h : Typ w b t) (g : Typ w c u) (hn : t ≠ u) : b ≠ c := fun e => by subst e; exact hn (h.uniq g)
theorem Typ.lt {w : World} {b : Nat} {t : TypeId} (h : Typ w b t) : b < w.heap.size := by obtain ⟨_, h⟩ := h; exact lt_of_heap h
theorem Typ.same {w w' : World} {b : Nat} {t : TypeId} (h : Typ w b t) (e : w'.heap[b]? = w.heap[b]?) : Typ w' b t := by obtain ⟨c, h⟩ := h; exact ⟨c, e.trans h⟩
theorem Typ.set {w : World} {b c o : Nat} {v : Value} {t : TypeId} (h : Typ w b t) : Typ (w.setCell ⟨c, o, none⟩ v) b t := by
  obtain ⟨cur, h⟩ := h
  by_cases e : c = b
  · subst e; exact ⟨_, heap_setCell_same w c o cur t v h⟩
  · exact ⟨cur, by rw [heap_setCell_other w ⟨c, o, none⟩ b v (fun x => e x.symm)]; exact h⟩

def nv (k : Nat) : Value := .int .i64 k
def pv (b : Nat) : Value := .pointer (some ⟨b, 0, none⟩)
def ptrO : Option Nat → Value
  | none => .pointer none
  | some b => .pointer (some ⟨b, 0, none⟩)

/-- The finder's fields. -/
structure Fi (w : World) (fb : Nat) (v0 sv gv : Value) (m : Nat) (met : Nat → Nat) (fo : Nat → Option Nat) : Prop where
  blk : ∃ cur, w.heap[fb]? = some (.cells cur 88 (0, 0)) ∧ cur.size = 28 ∧ cur[0]? = some v0 ∧ cur[1]? = some sv ∧ cur[2]? = some (nv m) ∧ cur[27]? = some gv ∧ (∀ i, i < 12 → cur[3 + i]? = some (nv (met i))) ∧ ∀ i, i < 12 → cur[15 + i]? = some (ptrO (fo i))
section
variable {w : World} {fb : Nat} {v0 sv gv : Value} {m : Nat} {met : Nat → Nat} {fo : Nat → Option Nat}
theorem Fi.typ (h : Fi w fb v0 sv gv m met fo) : Typ w fb 88 := by obtain ⟨cur, h, _⟩ := h.blk; exact ⟨cur, h⟩
theorem Fi.lt (h : Fi w fb v0 sv gv m met fo) : fb < w.heap.size := h.typ.lt
theorem Fi.same {w' : World} (h : Fi w fb v0 sv gv m met fo) (e : w'.heap[fb]? = w.heap[fb]?) : Fi w' fb v0 sv gv m met fo := by
  obtain ⟨cur, h1, h2⟩ := h.blk; exact ⟨cur, e.trans h1, h2⟩
theorem Fi.free (h : Fi w fb v0 sv gv m met fo) (o : Nat) : w.frozen? ⟨fb, o, none⟩ = false := by obtain ⟨cur, h, _⟩ := h.blk; simp [World.frozen?, h]
theorem Fi.cells (h : Fi w fb v0 sv gv m met fo) : w.cell? ⟨fb, 0, none⟩ = some v0 ∧ w.cell? ⟨fb, 1, none⟩ = some sv ∧ w.cell? ⟨fb, 2, none⟩ = some (nv m) ∧ w.cell? ⟨fb, 27, none⟩ = some gv := by
  obtain ⟨cur, hb, _, h0, h1, h2, h3, _⟩ := h.blk
  rw [cell_of_cells hb, cell_of_cells hb, cell_of_cells hb, cell_of_cells hb]; exact ⟨h0, h1, h2, h3⟩
theorem Fi.metc (h : Fi w fb v0 sv gv m met fo) {i : Nat} (hi : i < 12) : w.cell? ⟨fb, 3 + i, none⟩ = some (nv (met i)) := by
  obtain ⟨cur, hb, _, _, _, _, _, h0, _⟩ := h.blk
  rw [cell_of_cells hb]; exact h0 i hi
theorem Fi.foc (h : Fi w fb v0 sv gv m met fo) {i : Nat} (hi : i < 12) : w.cell? ⟨fb, 15 + i, none⟩ = some (ptrO (fo i)) := by
  obtain ⟨cur, hb, _, _, _, _, _, _, h0⟩ := h.blk
  rw [cell_of_cells hb]; exact h0 i hi
theorem Fi.setMany (h : Fi w fb v0 sv gv m met fo) (x : Nat) : Fi (w.setCell ⟨fb, 2, none⟩ (nv x)) fb v0 sv gv x met fo := by
  obtain ⟨cur, hb, hs, h0, h1, h2, h3, h4, h5⟩ := h.blk
  refine ⟨_, heap_setCell_same w fb 2 cur _ _ hb, by simpa using hs, ?_, ?_, ?_, ?_, fun i hi => ?_, fun i hi => ?_⟩
  · simpa [Array.getElem?_setIfInBounds] using h0
  · simpa [Array.getElem?_setIfInBounds] using h1
  · simp [hs]
  · simpa [Array.getElem?_setIfInBounds] using h3
  · rw [Array.getElem?_setIfInBounds, if_neg (by omega)]; exact h4 i hi
  · rw [Array.getElem?_setIfInBounds, if_neg (by omega)]; exact h5 i hi
theorem Fi.setStack (h : Fi w fb v0 sv gv m met fo) (u : Value) : Fi (w.setCell ⟨fb, 1, none⟩ u) fb v0 u gv m met fo := by
  obtain ⟨cur, hb, hs, h0, h1, h2, h3, h4, h5⟩ := h.blk
  refine ⟨_, heap_setCell_same w fb 1 cur _ _ hb, by simpa using hs, ?_, ?_, ?_, ?_, fun i hi => ?_, fun i hi => ?_⟩
  · simpa [Array.getElem?_setIfInBounds] using h0
  · simp [hs]
  · simpa [Array.getElem?_setIfInBounds] using h2
  · simpa [Array.getElem?_setIfInBounds] using h3
  · rw [Array.getElem?_setIfInBounds, if_neg (by omega)]; exact h4 i hi
  · rw [Array.getElem?_setIfInBounds, if_neg (by omega)]; exact h5 i hi
theorem Fi.setGroups (h : Fi w fb v0 sv gv m met fo) (u : Value) : Fi (w.setCell ⟨fb, 27, none⟩ u) fb v0 sv u m met fo := by
  obtain ⟨cur, hb, hs, h0, h1, h2, h3, h4, h5⟩ := h.blk
  refine ⟨_, heap_setCell_same w fb 27 cur _ _ hb, by simpa using hs, ?_, ?_, ?_, ?_, fun i hi => ?_, fun i hi => ?_⟩
  · simpa [Array.getElem?_setIfInBounds] using h0
  · simpa [Array.getElem?_setIfInBounds] using h1
  · simpa [Array.getElem?_setIfInBounds] using h2
  · simp [hs]
  · rw [Array.getElem?_setIfInBounds, if_neg (by omega)]; exact h4 i hi
  · rw [Array.getElem?_setIfInBounds, if_neg (by omega)]; exact h5 i hi
theorem Fi.setMet (h : Fi w fb v0 sv gv m met fo) {p : Nat} (hp : p < 12) (x : Nat) : Fi (w.setCell ⟨fb, 3 + p, none⟩ (nv x)) fb v0 sv gv m (fun i => if i = p then x else met i) fo := by
  obtain ⟨cur, hb, hs, h0, h1, h2, h3, h4, h5⟩ := h.blk
  refine ⟨_, heap_setCell_same w fb (3 + p) cur _ _ hb, by simpa using hs, ?_, ?_, ?_, ?_, fun i hi => ?_, fun i hi => ?_⟩
  · rw [Array.getElem?_setIfInBounds, if_neg (by omega)]; exact h0
  · rw [Array.getElem?_setIfInBounds, if_neg (by omega)]; exact h1
  · rw [Array.getElem?_setIfInBounds, if_neg (by omega)]; exact h2
  · rw [Array.getElem?_setIfInBounds, if_neg (by omega)]; exact h3
  · rw [Array.getElem?_setIfInBounds]
    by_cases e : i = p
    · subst e; rw [if_pos rfl, if_pos (by omega), if_pos rfl]
    · rw [if_neg (by omega), if_neg e]; exact h4 i hi
  · rw [Array.getElem?_setIfInBounds, if_neg (by omega)]; exact h5 i hi
theorem Fi.setFound (h : Fi w fb v0 sv gv m met fo) {p : Nat} (hp : p < 12) (x : Nat) : Fi (w.setCell ⟨fb, 15 + p, none⟩ (pv x)) fb v0 sv gv m met (fun i => if i = p then some x else fo i) := by
  obtain ⟨cur, hb, hs, h0, h1, h2, h3, h4, h5⟩ := h.blk
  refine ⟨_, heap_setCell_same w fb (15 + p) cur _ _ hb, by simpa using hs, ?_, ?_, ?_, ?_, fun i hi => ?_, fun i hi => ?_⟩
  · rw [Array.getElem?_setIfInBounds, if_neg (by omega)]; exact h0
  · rw [Array.getElem?_setIfInBounds, if_neg (by omega)]; exact h1
  · rw [Array.getElem?_setIfInBounds, if_neg (by omega)]; exact h2
  · rw [Array.getElem?_setIfInBounds, if_neg (by omega)]; exact h3
  · rw [Array.getElem?_setIfInBounds, if_neg (by omega)]; exact h4 i hi
  · rw [Array.getElem?_setIfInBounds]
    by_cases e : i = p
    · subst e; rw [if_pos rfl, if_pos (by omega), if_pos rfl]; rfl
    · rw [if_neg (by omega), if_neg e]; exact h5 i hi
theorem Fi.found_ext (h : Fi w fb v0 sv gv m met fo) {fo' : Nat → Option Nat} (e : ∀ i, i < 12 → fo' i = fo i) : Fi w fb v0 sv gv m met fo' := by
  obtain ⟨cur, hb, hs, h0, h1, h2, h3, h4, h5⟩ := h.blk
  exact ⟨cur, hb, hs, h0, h1, h2, h3, h4, fun i hi => by rw [e i hi]; exact h5 i hi⟩
end

/-- The blocks that a walk writes into: the finder, its stack, its groups. -/
def Pv (w : World) (b : Nat) : Prop := Typ w b 88 ∨ Typ w b 3 ∨ Typ w b 57
def Exv (w w' : World) : Prop := Exc (Pv w) w w'
theorem Exv.refl (w : World) : Exv w w := Exc.refl _ _
theorem Exv.of {w w' : World} (h : Below w.heap.size w w') : Exv w w' := Exc.of h
theorem Exv.trans {w w1 w2 : World} (h : Exv w w1) (g : Exv w1 w2) : Exv w w2 := by
  refine Exc.trans h g fun b hb hq => ?_
  by_cases e : Pv w b
  · exact e
  · have hs := h.block b hb e
    rcases hq with hq | hq | hq
    · exact .inl (hq.same hs.symm)
    · exact .inr (.inl (hq.same hs.symm))
    · exact .inr (.inr (hq.same hs.symm))
theorem Exv.set {w w1 : World} (h : Exv w w1) {b : Nat} (hb : Pv w1 b) (o : Nat) (v : Value) : Exv w (w1.setCell ⟨b, o, none⟩ v) :=
  h.trans ((Exc.refl _ _).set (.inl hb) o v)
theorem Exv.below {w w1 w2 : World} (h : Exv w w1) (g : Below w1.heap.size w1 w2) : Exv w w2 := h.trans (Exv.of g)
theorem Exv.exc {P : Nat → Prop} {w w1 w2 : World} (h : Exv w w1) (g : Exc P w1 w2) (hP : ∀ b, P b → Pv w1 b ∨ w1.heap.size ≤ b) : Exv w w2 :=
  h.trans ⟨g.os, g.tape, g.output, g.size, fun b hb hn => g.block b hb (fun hp => (hP b hp).elim hn (fun x => absurd hb (Nat.not_lt.2 x)))⟩
theorem Exv.drew {w w1 : World} (h : Exv w w1) : Exv w w1.drew := Exc.drew h
theorem Exv.keep {w w' : World} (h : Exv w w') {b : Nat} {t : TypeId} (ht : Typ w b t) (n1 : t ≠ 88) (n2 : t ≠ 3) (n3 : t ≠ 57) : w'.heap[b]? = w.heap[b]? := by
  refine h.block b ht.lt fun hp => ?_
  rcases hp with hp | hp | hp
  · exact n1 (ht.uniq hp)
  · exact n2 (ht.uniq hp)
  · exact n3 (ht.uniq hp)
theorem ownb_typ {w : World} {B : Nat} {e : TypeId} {size : Nat} {v : Value} {n : Nat} {xs : List Value} (h : w.ownsRow B e size v n xs) {k : Nat} (hk : v.ownBlock = some k) : Typ w k e := by
  rcases h.2 with ⟨rfl, _⟩ | ⟨g, cap, cur, rfl, _, hg, _⟩
  · simp [Value.ownBlock] at hk
  · simp [Value.ownBlock] at hk; subst hk; exact ⟨cur, hg⟩
theorem Exv.grown {w w' : World} {B : Nat} {e : TypeId} {size : Nat} {v : Value} {n : Nat} {xs : List Value} (h : w.ownsRow B e size v n xs) (hg : w.grownBy w' v.ownBlock) (he : e = 3 ∨ e = 57) : Exv w w' := by
  refine ⟨hg.os, hg.tape, hg.output, hg.size, fun b hb hn => hg.block b hb fun hh => hn ?_⟩
  have := ownb_typ h hh.symm
  rcases he with rfl | rfl
  · exact .inr (.inl this)
  · exact .inr (.inr this)
theorem row_same {w w' : World} {B : Nat} {e : TypeId} {size : Nat} {v : Value} {n : Nat} {xs : List Value} (h : w.ownsRow B e size v n xs) (hs : ∀ k, v.ownBlock = some k → w'.heap[k]? = w.heap[k]?) : w'.ownsRow B e size v n xs := by
  refine ⟨h.1, ?_⟩
  rcases h.2 with hn | ⟨g, cap, cur, rfl, hb, hg, rest⟩
  · exact .inl hn
  · exact .inr ⟨g, cap, cur, rfl, hb, (hs g rfl).trans hg, rest⟩
theorem row_base {w : World} {B B' : Nat} {e : TypeId} {size : Nat} {v : Value} {n : Nat} {xs : List Value} (h : w.ownsRow B e size v n xs) (hB : B' ≤ B) : w.ownsRow B' e size v n xs := by
  refine ⟨h.1, ?_⟩
  rcases h.2 with hn | ⟨g, cap, cur, rfl, hb, hg, rest⟩
  · exact .inl hn
  · exact .inr ⟨g, cap, cur, rfl, Nat.le_trans hB hb, hg, rest⟩
/-- A row cut. -/
theorem row_cut {w : World} {B : Nat} {e : TypeId} {v : Value} {A C : List Value} (h : w.ownsRow B e 1 v (A.length + C.length) (A ++ C)) (hC : 0 < C.length) :
    ∃ g cap cur, v = .slice (some ⟨g, 0, none⟩) (A.length + C.length) cap ∧ B ≤ g ∧ w.heap[g]? = some (.cells cur e (0, 0)) ∧ A.length + C.length ≤ cap ∧ cap ≤ maxLen ∧ w.ownsRow B e 1 (.slice (some ⟨g, 0, none⟩) A.length cap) A.length A ∧ ∀ i, i < C.length → w.cell? ⟨g, A.length + i, none⟩ = C[i]? := by
  rcases h.2 with ⟨rfl, h0⟩ | ⟨g, cap, cur, rfl, hb, hg, hn, hm, hs, ht⟩
  · omega
  · rw [Nat.mul_one] at ht
    refine ⟨g, cap, cur, rfl, hb, hg, hn, hm, ⟨by simp, .inr ⟨g, cap, cur, rfl, hb, hg, by omega, hm, hs, ?_⟩⟩, fun i hi => ?_⟩
    · rw [Nat.mul_one]
      have := congrArg (List.take A.length) ht
      rw [List.take_take, Nat.min_eq_left (by omega)] at this
      rw [this]; simp
    · rw [cell_of_cells hg]
      have h1 : (A ++ C)[A.length + i]? = C[i]? := by rw [List.getElem?_append_right (by omega)]; congr 1; omega
      rw [← h1, ← ht, List.getElem?_take, if_pos (by omega)]
      simp

/-- A group as numbers. -/
structure GM (N : List Nd) (i : Nat) (Q : List Nat) (f r : Nat → Nat) (rd : Bool) : Prop where
  srt : Q.Pairwise (soonK N)
  mem : ∀ k, k ∈ Q ↔ Sc (EN N) i k
  ids : Bits f (fun x => Sc (EI N) (N.getD i nd0).id x)
  rch : Bits r (Rp (EI N) (N.getD i nd0).id)
  rdy : rd = true ↔ RdI N (N.getD i nd0).id
theorem GM.move {N : List Nd} {i j : Nat} {Q : List Nat} {f r : Nat → Nat} {rd : Bool} (h : GM N i Q f r rd) (hs : Sc (EN N) i j) (hv : nodB N = true) (hi : i < N.length) (hj : j < N.length) : GM N j Q f r rd := by
  have hs' := (sc_iff hv hi hj).1 hs
  refine ⟨h.srt, fun k => ?_, h.ids.ext fun x => ?_, h.rch.ext fun x => ?_, h.rdy.trans ?_⟩
  · rw [h.mem]; exact ⟨fun x => hs.symm.trans x, fun x => hs.trans x⟩
  · exact ⟨fun x => hs'.symm.trans x, fun x => hs'.trans x⟩
  · exact ⟨fun x => hs'.2.rp x, fun x => hs'.1.rp x⟩
  · exact ⟨fun x => x.on hs'.1, fun x => x.on hs'.2⟩
/-- A group's fields. -/
structure Gb (w : World) (gb : Nat) (mv : Value) (f r : Nat → Nat) (rd : Bool) : Prop where
  blk : ∃ cur, w.heap[gb]? = some (.cells cur 60 (0, 0)) ∧ cur.size = 12 ∧ cur[0]? = some mv ∧ (∀ k, k < 5 → cur[1 + k]? = some (.int .u64 (f k))) ∧ (∀ k, k < 5 → cur[6 + k]? = some (.int .u64 (r k))) ∧ cur[11]? = some (.bool rd)
section
variable {w : World} {gb : Nat} {mv : Value} {f r : Nat → Nat} {rd : Bool}
theorem Gb.typ (h : Gb w gb mv f r rd) : Typ w gb 60 := by obtain ⟨cur, h, _⟩ := h.blk; exact ⟨cur, h⟩
theorem Gb.lt (h : Gb w gb mv f r rd) : gb < w.heap.size := h.typ.lt
theorem Gb.same {w' : World} (h : Gb w gb mv f r rd) (e : w'.heap[gb]? = w.heap[gb]?) : Gb w' gb mv f r rd := by
  obtain ⟨cur, h1, h2⟩ := h.blk; exact ⟨cur, e.trans h1, h2⟩
theorem Gb.free (h : Gb w gb mv f r rd) (o : Nat) : w.frozen? ⟨gb, o, none⟩ = false := by obtain ⟨cur, h, _⟩ := h.blk; simp [World.frozen?, h]
theorem Gb.c0 (h : Gb w gb mv f r rd) : w.cell? ⟨gb, 0, none⟩ = some mv := by obtain ⟨cur, hb, _, h0, _⟩ := h.blk; rw [cell_of_cells hb]; exact h0
theorem Gb.c11 (h : Gb w gb mv f r rd) : w.cell? ⟨gb, 11, none⟩ = some (.bool rd) := by obtain ⟨cur, hb, _, _, _, _, h0⟩ := h.blk; rw [cell_of_cells hb]; exact h0
theorem Gb.cf (h : Gb w gb mv f r rd) {k : Nat} (hk : k < 5) : w.cell? ⟨gb, 1 + k, none⟩ = some (.int .u64 (f k)) := by obtain ⟨cur, hb, _, _, h0, _⟩ := h.blk; rw [cell_of_cells hb]; exact h0 k hk
theorem Gb.cr (h : Gb w gb mv f r rd) {k : Nat} (hk : k < 5) : w.cell? ⟨gb, 6 + k, none⟩ = some (.int .u64 (r k)) := by obtain ⟨cur, hb, _, _, _, h0, _⟩ := h.blk; rw [cell_of_cells hb]; exact h0 k hk
theorem Gb.fs (h : Gb w gb mv f r rd) : w.cell? ⟨gb, 1, none⟩ = some (.int .u64 (f 0)) ∧ w.cell? ⟨gb, 2, none⟩ = some (.int .u64 (f 1)) ∧ w.cell? ⟨gb, 3, none⟩ = some (.int .u64 (f 2)) ∧ w.cell? ⟨gb, 4, none⟩ = some (.int .u64 (f 3)) ∧ w.cell? ⟨gb, 5, none⟩ = some (.int .u64 (f 4)) :=
  ⟨h.cf (k := 0) (by omega), h.cf (k := 1) (by omega), h.cf (k := 2) (by omega), h.cf (k := 3) (by omega), h.cf (k := 4) (by omega)⟩
theorem Gb.rs (h : Gb w gb mv f r rd) : w.cell? ⟨gb, 6, none⟩ = some (.int .u64 (r 0)) ∧ w.cell? ⟨gb, 7, none⟩ = some (.int .u64 (r 1)) ∧ w.cell? ⟨gb, 8, none⟩ = some (.int .u64 (r 2)) ∧ w.cell? ⟨gb, 9, none⟩ = some (.int .u64 (r 3)) ∧ w.cell? ⟨gb, 10, none⟩ = some (.int .u64 (r 4)) :=
  ⟨h.cr (k := 0) (by omega), h.cr (k := 1) (by omega), h.cr (k := 2) (by omega), h.cr (k := 3) (by omega), h.cr (k := 4) (by omega)⟩
theorem Gb.set0 (h : Gb w gb mv f r rd) (u : Value) : Gb (w.setCell ⟨gb, 0, none⟩ u) gb u f r rd := by
  obtain ⟨cur, hb, hs, h0, h1, h2, h3⟩ := h.blk
  refine ⟨_, heap_setCell_same w gb 0 cur _ _ hb, by simpa using hs, by simp [hs], fun k hk => ?_, fun k hk => ?_, ?_⟩
  · rw [Array.getElem?_setIfInBounds, if_neg (by omega)]; exact h1 k hk
  · rw [Array.getElem?_setIfInBounds, if_neg (by omega)]; exact h2 k hk
  · rw [Array.getElem?_setIfInBounds, if_neg (by omega)]; exact h3
theorem Gb.set11 (h : Gb w gb mv f r rd) (b : Bool) : Gb (w.setCell ⟨gb, 11, none⟩ (.bool b)) gb mv f r b := by
  obtain ⟨cur, hb, hs, h0, h1, h2, h3⟩ := h.blk
  refine ⟨_, heap_setCell_same w gb 11 cur _ _ hb, by simpa using hs, ?_, fun k hk => ?_, fun k hk => ?_, by simp [hs]⟩
  · rw [Array.getElem?_setIfInBounds, if_neg (by omega)]; exact h0
  · rw [Array.getElem?_setIfInBounds, if_neg (by omega)]; exact h1 k hk
  · rw [Array.getElem?_setIfInBounds, if_neg (by omega)]; exact h2 k hk
theorem Gb.setf (h : Gb w gb mv f r rd) {p : Nat} (hp : p < 5) (x : Nat) : Gb (w.setCell ⟨gb, 1 + p, none⟩ (.int .u64 (x : Int))) gb mv (fun k => if k = p then x else f k) r rd := by
  obtain ⟨cur, hb, hs, h0, h1, h2, h3⟩ := h.blk
  refine ⟨_, heap_setCell_same w gb (1 + p) cur _ _ hb, by simpa using hs, ?_, fun k hk => ?_, fun k hk => ?_, ?_⟩
  · rw [Array.getElem?_setIfInBounds, if_neg (by omega)]; exact h0
  · rw [Array.getElem?_setIfInBounds]
    by_cases e : k = p
    · subst e; rw [if_pos rfl, if_pos (by omega), if_pos rfl]
    · rw [if_neg (by omega), if_neg e]; exact h1 k hk
  · rw [Array.getElem?_setIfInBounds, if_neg (by omega)]; exact h2 k hk
  · rw [Array.getElem?_setIfInBounds, if_neg (by omega)]; exact h3
theorem Gb.setr (h : Gb w gb mv f r rd) {p : Nat} (hp : p < 5) (x : Nat) : Gb (w.setCell ⟨gb, 6 + p, none⟩ (.int .u64 (x : Int))) gb mv f (fun k => if k = p then x else r k) rd := by
  obtain ⟨cur, hb, hs, h0, h1, h2, h3⟩ := h.blk
  refine ⟨_, heap_setCell_same w gb (6 + p) cur _ _ hb, by simpa using hs, ?_, fun k hk => ?_, fun k hk => ?_, ?_⟩
  · rw [Array.getElem?_setIfInBounds, if_neg (by omega)]; exact h0
  · rw [Array.getElem?_setIfInBounds, if_neg (by omega)]; exact h1 k hk
  · rw [Array.getElem?_setIfInBounds]
    by_cases e : k = p
    · subst e; rw [if_pos rfl, if_pos (by omega), if_pos rfl]
    · rw [if_neg (by omega), if_neg e]; exact h2 k hk
  · rw [Array.getElem?_setIfInBounds, if_neg (by omega)]; exact h3
theorem Gb.ext (h : Gb w gb mv f r rd) {f' r' : Nat → Nat} (ef : ∀ k, k < 5 → f' k = f k) (er : ∀ k, k < 5 → r' k = r k) : Gb w gb mv f' r' rd := by
  obtain ⟨cur, hb, hs, h0, h1, h2, h3⟩ := h.blk
  exact ⟨cur, hb, hs, h0, fun k hk => by rw [ef k hk]; exact h1 k hk, fun k hk => by rw [er k hk]; exact h2 k hk, h3⟩
/-- An id is put into the group's ids. -/
theorem Gb.addf (h : Gb w gb mv f r rd) {p n : Nat} (hp : p < 5) : Gb (w.setCell ⟨gb, 1 + p, none⟩ (.int .u64 ((f p ||| 2 ^ n : Nat) : Int))) gb mv (addF f ((p : Int), (n : Int))) r rd :=
  (h.setf hp (f p ||| 2 ^ n)).ext (fun k _ => by
    unfold addF
    by_cases e : k = p
    · subst e; simp
    · have : ¬ ((p : Int) = (k : Int)) := by omega
      simp only [if_neg this, if_neg e]) (fun _ _ => rfl)
theorem Gb.addr (h : Gb w gb mv f r rd) {p n : Nat} (hp : p < 5) : Gb (w.setCell ⟨gb, 6 + p, none⟩ (.int .u64 ((r p ||| 2 ^ n : Nat) : Int))) gb mv f (addF r ((p : Int), (n : Int))) rd :=
  (h.setr hp (r p ||| 2 ^ n)).ext (fun _ _ => rfl) (fun k _ => by
    unfold addF
    by_cases e : k = p
    · subst e; simp
    · have : ¬ ((p : Int) = (k : Int)) := by omega
      simp only [if_neg this, if_neg e])
/-- All that is reached is stored. -/
theorem Gb.putr (h : Gb w gb mv f r rd) (q : Nat → Nat) : Gb (((((w.setCell ⟨gb, 6, none⟩ (.int .u64 (q 0))).setCell ⟨gb, 7, none⟩ (.int .u64 (q 1))).setCell ⟨gb, 8, none⟩ (.int .u64 (q 2))).setCell ⟨gb, 9, none⟩ (.int .u64 (q 3))).setCell ⟨gb, 10, none⟩ (.int .u64 (q 4))) gb mv f q rd :=
  (((((h.setr (p := 0) (by omega) (q 0)).setr (p := 1) (by omega) (q 1)).setr (p := 2) (by omega) (q 2)).setr (p := 3) (by omega) (q 3)).setr (p := 4) (by omega) (q 4)).ext (fun _ _ => rfl) (fun k hk => by
    rcases (show k = 0 ∨ k = 1 ∨ k = 2 ∨ k = 3 ∨ k = 4 by omega) with rfl | rfl | rfl | rfl | rfl <;> rfl)
end

/-- A group in memory. -/
structure GrpAt (w : World) (gb : Nat) (N : List Nd) (U : Us) (i : Nat) (mb cap : Nat) (Q : List Nat) (f r : Nat → Nat) (rd : Bool) : Prop where
  gb : Gb w gb (.slice (some ⟨mb, 0, none⟩) Q.length cap) f r rd
  row : RowN w mb N U Q
  typ : Typ w mb 33
  cap : Q.length ≤ cap
  gm : GM N i Q f r rd
theorem GrpAt.keep {w w' : World} {gb : Nat} {N : List Nd} {U : Us} {i mb cap : Nat} {Q : List Nat} {f r : Nat → Nat} {rd : Bool} (h : GrpAt w gb N U i mb cap Q f r rd) (he : Exv w w') : GrpAt w' gb N U i mb cap Q f r rd :=
  ⟨h.gb.same (he.keep h.gb.typ (by decide) (by decide) (by decide)), h.row.same (he.keep h.typ (by decide) (by decide) (by decide)), h.typ.same (he.keep h.typ (by decide) (by decide) (by decide)), h.cap, h.gm⟩
def Grp (w : World) (gb : Nat) (N : List Nd) (U : Us) (i : Nat) : Prop := ∃ mb cap Q f r rd, GrpAt w gb N U i mb cap Q f r rd
theorem Grp.keep {w w' : World} {gb : Nat} {N : List Nd} {U : Us} {i : Nat} (h : Grp w gb N U i) (he : Exv w w') : Grp w' gb N U i := by
  obtain ⟨mb, cap, Q, f, r, rd, h⟩ := h; exact ⟨mb, cap, Q, f, r, rd, h.keep he⟩

/-- The finder, its stack and its groups. -/
structure FS (N : List Nd) (U : Us) (fb : Nat) (v0 : Value) (w0 w : World) (s : TS) (gs : List Nat) (sv gv : Value) : Prop where
  bel : Below fb w0 w
  fi : Fi w fb v0 sv gv s.many s.met s.found
  srow : w.ownsRow (fb + 1) 3 1 sv s.stack.length (s.stack.map nv)
  grow : w.ownsRow (fb + 1) 57 1 gv gs.length (gs.map pv)
  grp : ∀ i b, s.found i = some b → Grp w b N U i
  mem : ∀ b, b ∈ gs ↔ ∃ i, s.found i = some b
end Go.Proofs.Ytbklkhndjckckaa
