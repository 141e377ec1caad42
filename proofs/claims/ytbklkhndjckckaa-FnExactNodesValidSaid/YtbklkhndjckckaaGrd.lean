/- Plain facts: nodes, what they reach, groups, and the order in which they run. -/
import Derived.Test.YtbklkhndjckckaaTar
import Derived.Test.YtbklkhndjckckaaSetm
namespace Go.Proofs.Ytbklkhndjckckaa
set_option linter.unusedVariables false

/-- A node. -/
structure Nd where
  id : Pid
  seq : Int
  deps : List Pid
def nd0 : Nd := ⟨nop, 0, []⟩
def idsN (N : List Nd) : List Pid := N.map Nd.id
def ndB (x : Nd) : Bool := okP x.id && (decide (1 ≤ x.seq ∧ x.seq ≤ 99) && (srtB x.deps && !hasP x.deps x.id))
/-- What valid nodes are. -/
def nodB (N : List Nd) : Bool := decide (N.length ≤ 12) && (N.all ndB && ascB (idsN N))
theorem nod_of {N : List Nd} (h : nodB N = true) : N.length ≤ 12 ∧ (∀ x ∈ N, ndB x = true) ∧ Asc (idsN N) := by
  simp only [nodB, Bool.and_eq_true, decide_eq_true_eq] at h
  exact ⟨h.1, List.all_eq_true.1 h.2.1, ascB_asc h.2.2⟩
theorem nod_to {N : List Nd} (h1 : N.length ≤ 12) (h2 : ∀ x ∈ N, ndB x = true) (h3 : Asc (idsN N)) : nodB N = true := by
  simp only [nodB, Bool.and_eq_true, decide_eq_true_eq]
  exact ⟨h1, List.all_eq_true.2 h2, asc_ascB h3⟩
theorem nod_no {N : List Nd} (h : ¬ (N.length ≤ 12 ∧ (∀ x ∈ N, ndB x = true) ∧ Asc (idsN N))) : nodB N = false := by
  cases e : nodB N with
  | false => rfl
  | true => exact absurd (nod_of e) h
theorem getD_mem {N : List Nd} {k : Nat} (hk : k < N.length) : N.getD k nd0 ∈ N := by
  rw [List.getD_eq_getElem?_getD, List.getElem?_eq_getElem hk]; exact List.getElem_mem hk
theorem mem_getD {N : List Nd} {x : Nd} (h : x ∈ N) : ∃ k, k < N.length ∧ N.getD k nd0 = x := by
  obtain ⟨k, hk, e⟩ := List.getElem_of_mem h
  exact ⟨k, hk, by rw [List.getD_eq_getElem?_getD, List.getElem?_eq_getElem hk]; exact e⟩
theorem idsN_len (N : List Nd) : (idsN N).length = N.length := List.length_map _
theorem idsN_get {N : List Nd} {k : Nat} (hk : k < N.length) : (idsN N).getD k nop = (N.getD k nd0).id := by
  unfold idsN
  rw [List.getD_eq_getElem?_getD, List.getD_eq_getElem?_getD, List.getElem?_map, List.getElem?_eq_getElem hk]; rfl
theorem mem_idsN {N : List Nd} {a : Pid} : a ∈ idsN N ↔ ∃ k, k < N.length ∧ (N.getD k nd0).id = a := by
  unfold idsN
  rw [List.mem_map]
  constructor
  · rintro ⟨x, hx, rfl⟩
    obtain ⟨k, hk, rfl⟩ := mem_getD hx
    exact ⟨k, hk, rfl⟩
  · rintro ⟨k, hk, rfl⟩; exact ⟨_, getD_mem hk, rfl⟩
theorem nod_bad {N : List Nd} {k : Nat} (hk : k < N.length) (h : ndB (N.getD k nd0) = false) : nodB N = false := nod_no fun x => by
  have := x.2.1 _ (getD_mem hk); rw [h] at this; cases this
theorem nod_turn {N : List Nd} {k : Nat} (hk : k + 1 < N.length) (h : ltP (N.getD k nd0).id (N.getD (k + 1) nd0).id = false) : nodB N = false := nod_no fun x => by
  have := asc_lt x.2.2 (Nat.lt_succ_self k) (by rw [idsN_len]; exact hk)
  rw [idsN_get hk, idsN_get (by omega), h] at this; cases this
theorem nod_long {N : List Nd} (h : ¬ N.length ≤ 12) : nodB N = false := nod_no fun x => h x.1
theorem nod_good {N : List Nd} (h1 : N.length ≤ 12) (h2 : ∀ k, k < N.length → ndB (N.getD k nd0) = true) (h3 : ∀ k, k + 1 < N.length → ltP (N.getD k nd0).id (N.getD (k + 1) nd0).id = true) : nodB N = true := by
  refine nod_to h1 (fun x hx => ?_) (asc_adj fun i hi => ?_)
  · obtain ⟨k, hk, rfl⟩ := mem_getD hx
    exact h2 k hk
  · rw [idsN_len] at hi
    rw [idsN_get hi, idsN_get (by omega)]; exact h3 i hi
theorem nod_inj {N : List Nd} (h : nodB N = true) {i j : Nat} (hi : i < N.length) (hj : j < N.length) (e : (N.getD i nd0).id = (N.getD j nd0).id) : i = j := by
  have ha := (nod_of h).2.2
  rcases Nat.lt_trichotomy i j with hl | hl | hl
  · have := asc_lt ha hl (by rw [idsN_len]; exact hj)
    rw [idsN_get hi, idsN_get hj, e, ltP_irr] at this; cases this
  · exact hl
  · have := asc_lt ha hl (by rw [idsN_len]; exact hi)
    rw [idsN_get hi, idsN_get hj, e, ltP_irr] at this; cases this
theorem nod_lt {N : List Nd} (h : nodB N = true) {i j : Nat} (hi : i < N.length) (hj : j < N.length) : ltP (N.getD i nd0).id (N.getD j nd0).id = true ↔ i < j := by
  have ha := (nod_of h).2.2
  constructor
  · intro hl
    rcases Nat.lt_trichotomy i j with h1 | h1 | h1
    · exact h1
    · subst h1; rw [ltP_irr] at hl; cases hl
    · have := asc_lt ha h1 (by rw [idsN_len]; exact hi)
      rw [idsN_get hi, idsN_get hj] at this
      rw [ltP_asym this] at hl; cases hl
  · intro hl
    have := asc_lt ha hl (by rw [idsN_len]; exact hj)
    rw [idsN_get hi, idsN_get hj] at this; exact this

/-- A node depends on another node. -/
def EI (N : List Nd) (a b : Pid) : Prop := b ∈ idsN N ∧ ∃ x ∈ N, x.id = a ∧ b ∈ x.deps
theorem EI.l {N : List Nd} {a b : Pid} (h : EI N a b) : a ∈ idsN N := by obtain ⟨_, x, hx, rfl, _⟩ := h; exact List.mem_map_of_mem hx
theorem EI.r {N : List Nd} {a b : Pid} (h : EI N a b) : b ∈ idsN N := h.1
theorem rt_in {N : List Nd} {a b : Pid} (h : Rt (EI N) a b) (ha : a ∈ idsN N) : b ∈ idsN N := h.closed (P := fun c => c ∈ idsN N) (fun _ _ _ e => e.r) ha
theorem rp_l {N : List Nd} {a b : Pid} (h : Rp (EI N) a b) : a ∈ idsN N := by obtain ⟨c, h1, _⟩ := h; exact h1.l
theorem rp_r {N : List Nd} {a b : Pid} (h : Rp (EI N) a b) : b ∈ idsN N := rt_in h.rt (rp_l h)
theorem sc_in {N : List Nd} {a b : Pid} (h : Sc (EI N) a b) (ha : a ∈ idsN N) : b ∈ idsN N := rt_in h.1 ha
/-- All that a node itself depends on are nodes. -/
def OkI (N : List Nd) (a : Pid) : Prop := ∀ x ∈ N, x.id = a → ∀ d ∈ x.deps, d ∈ idsN N
def RdI (N : List Nd) (a : Pid) : Prop := ∀ b, Rt (EI N) a b → OkI N b
theorem RdI.on {N : List Nd} {a b : Pid} (h : RdI N a) (g : Rt (EI N) a b) : RdI N b := fun c hc => h c (g.trans hc)

theorem getD_uniq {N : List Nd} (h : nodB N = true) {x y : Nd} (hx : x ∈ N) (hy : y ∈ N) (e : x.id = y.id) : x = y := by
  obtain ⟨i, hi, rfl⟩ := mem_getD hx
  obtain ⟨j, hj, rfl⟩ := mem_getD hy
  rw [nod_inj h hi hj e]

open Classical in
/-- The nodes with a property, in order. -/
noncomputable def selP (N : List Nd) (P : Pid → Prop) : List Pid := (idsN N).filter fun a => decide (P a)
theorem mem_selP {N : List Nd} {P : Pid → Prop} {a : Pid} : a ∈ selP N P ↔ a ∈ idsN N ∧ P a := by
  unfold selP; rw [List.mem_filter]; simp
theorem selP_asc {N : List Nd} (h : Asc (idsN N)) (P : Pid → Prop) : Asc (selP N P) := List.Pairwise.filter _ h
theorem selP_ext {N : List Nd} (h : Asc (idsN N)) {P : Pid → Prop} {L : List Pid} (hL : Asc L) (hm : ∀ a, a ∈ L ↔ a ∈ idsN N ∧ P a) : L = selP N P :=
  asc_ext hL (selP_asc h P) fun a => by rw [hm, mem_selP]
theorem selP_len (N : List Nd) (P : Pid → Prop) : (selP N P).length ≤ N.length := by
  unfold selP; rw [← idsN_len]; exact List.length_filter_le _ _
open Classical in
/-- What NodesReach, NodesGroup and NodesReady answer. -/
noncomputable def reachR (N : List Nd) (a : Pid) : List Pid := if nodB N = true then selP N (Rp (EI N) a) else []
open Classical in
noncomputable def groupR (N : List Nd) (a : Pid) : List Pid := if nodB N = true ∧ a ∈ idsN N then selP N (Sc (EI N) a) else []
open Classical in
noncomputable def readyR (N : List Nd) (a : Pid) : Bool := decide (nodB N = true ∧ a ∈ idsN N ∧ RdI N a)
theorem reachR_asc (N : List Nd) (a : Pid) : Asc (reachR N a) := by
  unfold reachR; split
  · rename_i h; exact selP_asc (nod_of h).2.2 _
  · exact asc_nil
theorem groupR_asc (N : List Nd) (a : Pid) : Asc (groupR N a) := by
  unfold groupR; split
  · rename_i h; exact selP_asc (nod_of h.1).2.2 _
  · exact asc_nil
theorem mem_reachR {N : List Nd} {a b : Pid} : b ∈ reachR N a ↔ nodB N = true ∧ Rp (EI N) a b := by
  unfold reachR; split
  · rename_i h; rw [mem_selP]; exact ⟨fun x => ⟨h, x.2⟩, fun x => ⟨rp_r x.2, x.2⟩⟩
  · rename_i h; simp [h]
theorem mem_groupR {N : List Nd} {a b : Pid} : b ∈ groupR N a ↔ nodB N = true ∧ a ∈ idsN N ∧ Sc (EI N) a b := by
  unfold groupR; split
  · rename_i h; rw [mem_selP]; exact ⟨fun x => ⟨h.1, h.2, x.2⟩, fun x => ⟨sc_in x.2.2 h.2, x.2.2⟩⟩
  · rename_i h; simp only [List.not_mem_nil, false_iff]; exact fun x => h ⟨x.1, x.2.1⟩
open Classical in
theorem readyR_iff {N : List Nd} {a : Pid} : readyR N a = true ↔ nodB N = true ∧ a ∈ idsN N ∧ RdI N a := by simp only [readyR, decide_eq_true_eq]
theorem reachR_len (N : List Nd) (a : Pid) : (reachR N a).length ≤ 12 := by
  unfold reachR; split
  · rename_i h; have := selP_len N (Rp (EI N) a); have := (nod_of h).1; omega
  · simp
theorem groupR_len (N : List Nd) (a : Pid) : (groupR N a).length ≤ 12 := by
  unfold groupR; split
  · rename_i h; have := selP_len N (Sc (EI N) a); have := (nod_of h.1).1; omega
  · simp

/-- The rank of a node. -/
def seqP (N : List Nd) (a : Pid) : Int := ((N.find? fun x => decide (x.id = a)).getD nd0).seq
theorem seqP_of {N : List Nd} (h : nodB N = true) {x : Nd} (hx : x ∈ N) : seqP N x.id = x.seq := by
  unfold seqP
  cases hf : N.find? (fun y => decide (y.id = x.id)) with
  | none => have := List.find?_eq_none.1 hf x hx; simp at this
  | some y =>
    have h1 := List.mem_of_find?_eq_some hf
    have h2 : y.id = x.id := by simpa using List.find?_some hf
    rw [getD_uniq h h1 hx h2]; rfl
/-- Sooner by rank, then by id. -/
def Soon (N : List Nd) (a b : Pid) : Prop := seqP N a < seqP N b ∨ seqP N a = seqP N b ∧ ltP a b = true
theorem Soon.asym {N : List Nd} {a b : Pid} (h : Soon N a b) : ¬ Soon N b a := by
  rintro (g | ⟨g1, g2⟩)
  · rcases h with h | ⟨h1, _⟩ <;> omega
  · rcases h with h | ⟨_, h2⟩
    · omega
    · rw [ltP_asym h2] at g2; cases g2
theorem Soon.trans {N : List Nd} {a b c : Pid} (h : Soon N a b) (g : Soon N b c) : Soon N a c := by
  rcases h with h | ⟨h1, h2⟩ <;> rcases g with g | ⟨g1, g2⟩
  · exact .inl (by omega)
  · exact .inl (by omega)
  · exact .inl (by omega)
  · exact .inr ⟨by omega, ltP_trans h2 g2⟩
theorem Soon.tri (N : List Nd) (a b : Pid) : Soon N a b ∨ a = b ∨ Soon N b a := by
  by_cases h1 : seqP N a < seqP N b
  · exact .inl (.inl h1)
  · by_cases h2 : seqP N b < seqP N a
    · exact .inr (.inr (.inl h2))
    · have e : seqP N a = seqP N b := by omega
      by_cases h3 : ltP a b = true
      · exact .inl (.inr ⟨e, h3⟩)
      · by_cases h4 : ltP b a = true
        · exact .inr (.inr (.inr ⟨e.symm, h4⟩))
        · exact .inr (.inl (ltP_tri (by simpa using h3) (by simpa using h4)))
theorem soon_ext {N : List Nd} : ∀ {A B : List Pid}, A.Pairwise (Soon N) → B.Pairwise (Soon N) → (∀ x, x ∈ A ↔ x ∈ B) → A = B
  | [], [], _, _, _ => rfl
  | [], b :: s, _, _, h => absurd ((h b).2 List.mem_cons_self) (by simp)
  | a :: r, [], _, _, h => absurd ((h a).1 List.mem_cons_self) (by simp)
  | a :: r, b :: s, hA, hB, h => by
    have hA' := List.pairwise_cons.1 hA
    have hB' := List.pairwise_cons.1 hB
    have e : a = b := by
      rcases List.mem_cons.1 ((h a).1 List.mem_cons_self) with e | ha
      · exact e
      · rcases List.mem_cons.1 ((h b).2 List.mem_cons_self) with e | hb
        · exact e.symm
        · exact absurd (hB'.1 a ha) (hA'.1 b hb).asym
    subst e
    have nr : ¬ a ∈ r := fun hx => (hA'.1 a hx).asym (hA'.1 a hx)
    have ns : ¬ a ∈ s := fun hx => (hB'.1 a hx).asym (hB'.1 a hx)
    rw [soon_ext hA'.2 hB'.2 (fun x => ?_)]
    constructor
    · intro hx
      rcases List.mem_cons.1 ((h x).1 (List.mem_cons_of_mem _ hx)) with e | hx'
      · subst e; exact absurd hx nr
      · exact hx'
    · intro hx
      rcases List.mem_cons.1 ((h x).2 (List.mem_cons_of_mem _ hx)) with e | hx'
      · subst e; exact absurd hx ns
      · exact hx'
theorem soon_nodup {N : List Nd} {A : List Pid} (h : A.Pairwise (Soon N)) : A.Nodup := List.Pairwise.imp (fun {a b} hab e => by subst e; exact hab.asym hab) h

/-- Has not run, and may run. -/
def FreeI (N : List Nd) (R : Pid → Prop) (a : Pid) : Prop := a ∈ idsN N ∧ ¬ R a ∧ RdI N a ∧ ∀ b, Rp (EI N) a b → R b ∨ Sc (EI N) a b
/-- How nodes run, when some have run. -/
inductive Ord (N : List Nd) : (Pid → Prop) → List Pid → Prop
  | stop (R : Pid → Prop) (h : ∀ a, ¬ FreeI N R a) : Ord N R []
  | run (R : Pid → Prop) (a : Pid) (M L : List Pid) (hi : FreeI N R a) (hf : ∀ b, FreeI N R b → b = a ∨ Soon N a b) (hM : ∀ b, b ∈ M ↔ Sc (EI N) a b) (hs : M.Pairwise (Soon N)) (t : Ord N (fun b => R b ∨ b ∈ M) L) : Ord N R (M ++ L)
theorem Ord.det {N : List Nd} {R : Pid → Prop} {L L' : List Pid} (h : Ord N R L) (g : Ord N R L') : L = L' := by
  induction h generalizing L' with
  | stop R h =>
    cases g with
    | stop => rfl
    | run _ a M L hi => exact absurd hi (h a)
  | run R a M L hi hf hM hs t ih =>
    cases g with
    | stop _ h => exact absurd hi (h a)
    | run _ a' M' L'' hi' hf' hM' hs' t' =>
      have e : a = a' := by
        rcases hf a' hi' with e | e
        · exact e.symm
        · rcases hf' a hi with e' | e'
          · exact e'
          · exact absurd e' e.asym
      subst e
      have e : M = M' := soon_ext hs hs' fun x => by rw [hM, hM']
      subst e
      rw [ih t']
/-- What has run is closed: whole groups, with all that they reach. -/
def Clo (N : List Nd) (R : Pid → Prop) : Prop := ∀ a b, R a → Rt (EI N) a b → R b
theorem clo_none (N : List Nd) : Clo N (fun _ => False) := fun _ _ h _ => h
theorem FreeI.clo {N : List Nd} {R : Pid → Prop} {a : Pid} {M : List Pid} (hi : FreeI N R a) (hM : ∀ b, b ∈ M ↔ Sc (EI N) a b) (hc : Clo N R) : Clo N (fun b => R b ∨ b ∈ M) := by
  intro x y hx hy
  rcases hx with hx | hx
  · exact .inl (hc x y hx hy)
  · have hx' := (hM x).1 hx
    have hay : Rt (EI N) a y := hx'.1.trans hy
    rcases hay.cases with e | e
    · subst e; exact .inr ((hM _).2 (.refl _))
    · rcases hi.2.2.2 y e with h | h
      · exact .inl h
      · exact .inr ((hM y).2 h)
theorem FreeI.new {N : List Nd} {R : Pid → Prop} {a : Pid} {M : List Pid} (hi : FreeI N R a) (hM : ∀ b, b ∈ M ↔ Sc (EI N) a b) (hc : Clo N R) : ∀ b ∈ M, ¬ R b ∧ b ∈ idsN N ∧ RdI N b := by
  intro b hb
  have hs := (hM b).1 hb
  exact ⟨fun h => hi.2.1 (hc b a h hs.2), sc_in hs hi.1, hi.2.2.1.on hs.1⟩
/-- If some that is ready has not run, one is free. -/
theorem free_some {N : List Nd} {R : Pid → Prop} : ∀ (k : Nat) (a : Pid), (selP N (Rt (EI N) a)).length ≤ k → a ∈ idsN N → RdI N a → ¬ R a → ∃ b, FreeI N R b
  | 0, a, hk, ha, _, _ => by
    have : a ∈ selP N (Rt (EI N) a) := mem_selP.2 ⟨ha, .refl _⟩
    rw [List.length_eq_zero_iff.1 (Nat.le_zero.1 hk)] at this; cases this
  | k + 1, a, hk, ha, hr, hn => by
    by_cases h : ∃ b, Rp (EI N) a b ∧ ¬ R b ∧ ¬ Sc (EI N) a b
    · obtain ⟨b, h1, h2, h3⟩ := h
      refine free_some k b ?_ (rp_r h1) (hr.on h1.rt) h2
      have hlt : (selP N (Rt (EI N) b)).length < (selP N (Rt (EI N) a)).length := by
        have hsub : ∀ x, Rt (EI N) b x → Rt (EI N) a x := fun x hx => h1.rt.trans hx
        have hna : ¬ Rt (EI N) b a := fun hh => h3 ⟨h1.rt, hh⟩
        unfold selP
        rw [← List.countP_eq_length_filter, ← List.countP_eq_length_filter]
        clear hk
        generalize idsN N = I at ha
        induction I with
        | nil => cases ha
        | cons y I ih =>
          rw [List.countP_cons, List.countP_cons]
          have hle : ∀ I : List Pid, I.countP (fun a_1 => @decide (Rt (EI N) b a_1) (Classical.propDecidable _)) ≤ I.countP (fun a_1 => @decide (Rt (EI N) a a_1) (Classical.propDecidable _)) := fun I => List.countP_mono_left fun x _ hx => by
            simp only [decide_eq_true_eq] at hx ⊢; exact hsub x hx
          have := hle I
          rcases List.mem_cons.1 ha with e | e
          · subst e
            simp [hna, Rt.refl]; omega
          · have := ih e
            by_cases hy : Rt (EI N) b y
            · simp only [hy, hsub y hy, decide_true, if_true]; omega
            · simp only [hy, decide_false]; split <;> split <;> simp_all <;> omega
      omega
    · refine ⟨a, ha, hn, hr, fun b hb => ?_⟩
      by_cases h1 : R b
      · exact .inl h1
      · by_cases h2 : Sc (EI N) a b
        · exact .inr h2
        · exact absurd ⟨b, hb, h1, h2⟩ h
/-- Exactly what is ready runs. -/
theorem Ord.mem {N : List Nd} {R : Pid → Prop} {L : List Pid} (h : Ord N R L) (hc : Clo N R) : ∀ a, a ∈ L ↔ a ∈ idsN N ∧ RdI N a ∧ ¬ R a := by
  induction h with
  | stop R h =>
    intro a
    refine ⟨fun x => absurd x (by simp), ?_⟩
    rintro ⟨h1, h2, h3⟩
    obtain ⟨b, hb⟩ := free_some _ a (Nat.le_refl _) h1 h2 h3
    exact absurd hb (h b)
  | run R a M L hi hf hM hs t ih =>
    intro b
    rw [List.mem_append, ih (hi.clo hM hc) b]
    have hn := hi.new hM hc
    constructor
    · rintro (hb | ⟨h1, h2, h3⟩)
      · exact ⟨(hn b hb).2.1, (hn b hb).2.2, (hn b hb).1⟩
      · exact ⟨h1, h2, fun hh => h3 (.inl hh)⟩
    · rintro ⟨h1, h2, h3⟩
      by_cases hb : b ∈ M
      · exact .inl hb
      · exact .inr ⟨h1, h2, fun hh => hh.elim h3 hb⟩
theorem Ord.nodup {N : List Nd} {R : Pid → Prop} {L : List Pid} (h : Ord N R L) (hc : Clo N R) : L.Nodup := by
  induction h with
  | stop => exact List.nodup_nil
  | run R a M L hi hf hM hs t ih =>
    have hc' := hi.clo hM hc
    refine List.nodup_append.2 ⟨soon_nodup hs, ih hc', fun x hx y hy e => ?_⟩
    subst e
    exact ((t.mem hc' x).1 hy).2.2 (.inr hx)
/-- What is depended on runs first. -/
theorem Ord.deps {N : List Nd} {R : Pid → Prop} {L : List Pid} (h : Ord N R L) : ∀ A m B, L = A ++ m :: B → ∀ x, Rp (EI N) m x → Sc (EI N) m x ∨ R x ∨ x ∈ A := by
  induction h with
  | stop => intro A m B e; simp at e
  | run R a M L hi hf hM hs t ih =>
    intro A m B e x hx
    rcases List.append_eq_append_iff.1 e with ⟨C, h1, h2⟩ | ⟨C, h1, h2⟩
    · -- A = M ++ C
      rcases ih C m B h2 x hx with h | h | h
      · exact .inl h
      · rcases h with h | h
        · exact .inr (.inl h)
        · exact .inr (.inr (by rw [h1]; exact List.mem_append_left _ h))
      · exact .inr (.inr (by rw [h1]; exact List.mem_append_right _ h))
    · -- M = A ++ C, C ++ L = m :: B
      cases C with
      | nil =>
        simp at h1 h2
        rcases ih [] m B (by simpa using h2.symm) x hx with h | h | h
        · exact .inl h
        · rcases h with h | h
          · exact .inr (.inl h)
          · exact .inr (.inr (by rw [← h1]; exact h))
        · cases h
      | cons c C =>
        have e' : m = c := by simp at h2; exact h2.1
        subst e'
        have hm : m ∈ M := by rw [h1]; exact List.mem_append_right _ List.mem_cons_self
        have hs' := (hM m).1 hm
        rcases hi.2.2.2 x (hs'.1.rp hx) with h | h
        · exact .inr (.inl h)
        · exact .inl (hs'.symm.trans h)
/-- A group runs together, by rank. -/
theorem Ord.grp {N : List Nd} {R : Pid → Prop} {L : List Pid} (h : Ord N R L) (hc : Clo N R) : ∀ A m B, L = A ++ m :: B → (∀ x ∈ A, Sc (EI N) m x → Soon N x m) ∧ (∀ A' p, A = A' ++ [p] → ¬ Sc (EI N) m p → ∀ x ∈ A, ¬ Sc (EI N) m x) := by
  induction h with
  | stop => intro A m B e; simp at e
  | run R a M L hi hf hM hs t ih =>
    intro A m B e
    have hc' := hi.clo hM hc
    have out : ∀ m, m ∈ L → ∀ x ∈ M, ¬ Sc (EI N) m x := fun m hm x hx hsc =>
      ((t.mem hc' m).1 hm).2.2 (.inr ((hM m).2 (((hM x).1 hx).trans hsc.symm)))
    rcases List.append_eq_append_iff.1 e with ⟨C, h1, h2⟩ | ⟨C, h1, h2⟩
    · have hm : m ∈ L := by rw [h2]; exact List.mem_append_right _ List.mem_cons_self
      obtain ⟨i1, i2⟩ := ih hc' C m B h2
      subst h1
      refine ⟨fun x hx hsc => ?_, fun A' p e' hp x hx => ?_⟩
      · rcases List.mem_append.1 hx with hx | hx
        · exact absurd hsc (out m hm x hx)
        · exact i1 x hx hsc
      · rcases List.mem_append.1 hx with hx | hx
        · exact out m hm x hx
        · cases hC : C.reverse with
          | nil => rw [List.reverse_eq_nil_iff.1 hC] at hx; cases hx
          | cons q Q =>
            have hCe : C = Q.reverse ++ [q] := by
              have := congrArg List.reverse hC; simpa using this
            rw [hCe, ← List.append_assoc] at e'
            obtain ⟨_, e2⟩ := List.append_inj' e' rfl
            have : q = p := by simpa using e2
            subst this
            exact i2 _ q hCe hp x hx
    · cases C with
      | nil =>
        simp at h1 h2
        have hm : m ∈ L := by rw [← h2]; exact List.mem_cons_self
        exact ⟨fun x hx hsc => absurd hsc (out m hm x (by rw [h1]; exact hx)), fun A' p e' hp x hx => out m hm x (by rw [h1]; exact hx)⟩
      | cons c C =>
        have e' : m = c := by simp at h2; exact h2.1
        subst e'
        have hm : m ∈ M := by rw [h1]; exact List.mem_append_right _ List.mem_cons_self
        have hs2 := List.pairwise_append.1 (by rw [← h1]; exact hs)
        have hsc : ∀ x ∈ A, Sc (EI N) m x := fun x hx => ((hM m).1 hm).symm.trans ((hM x).1 (by rw [h1]; exact List.mem_append_left _ hx))
        refine ⟨fun x hx _ => hs2.2.2 x hx m List.mem_cons_self, fun A' p e' hp x hx => absurd (hsc p (by rw [e']; exact List.mem_append_right _ (List.mem_singleton.2 rfl))) hp⟩
end Go.Proofs.Ytbklkhndjckckaa
