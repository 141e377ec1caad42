/- Texts laid together. -/
import Derived.Test.YtbklkhndjckckaaC02
import Derived.Test.YtbklkhndjckckaaC01
import Derived.Test.YtbklkhndjckckaaC08
import Derived.Deep.AppendSrc
import Derived.Test.YtbklkhndjckckaaC06
import Derived.Deep.RegionWith
/- Plain facts: how the model finds what is reached, groups, what is ready, and the order. -/
namespace Go.Proofs.Ytbklkhndjckckaa
set_option linter.unusedVariables false

/-- What the search knows: O are found, T are to be looked at. -/
structure Rq (N : List Nd) (a : Pid) (O T : List Pid) : Prop where
  asc : Asc O
  out : ∀ x ∈ O, Rp (EI N) a x
  todo : ∀ x ∈ T, x ∈ idsN N → Rp (EI N) a x
  dir : ∀ x, EI N a x → x ∈ O ∨ x ∈ T
  on : ∀ y ∈ O, ∀ x, EI N y x → x ∈ O ∨ x ∈ T
theorem Rq.start {N : List Nd} (hv : nodB N = true) {x : Nd} (hx : x ∈ N) : Rq N x.id [] x.deps :=
  ⟨asc_nil, fun _ h => (nomatch h), fun y hy hi => Rp.one ⟨hi, x, hx, rfl, hy⟩, fun y ⟨_, x', hx', e, hd⟩ => .inr (by rw [getD_uniq hv hx' hx e] at hd; exact hd), fun _ h => nomatch h⟩
theorem Rq.skip {N : List Nd} {a b : Pid} {O T : List Pid} (h : Rq N a O (b :: T)) (hb : ¬ b ∈ idsN N ∨ b ∈ O) : Rq N a O T := by
  have key : ∀ x, x ∈ idsN N → x ∈ O ∨ x ∈ b :: T → x ∈ O ∨ x ∈ T := fun x hx hh => by
    rcases hh with hh | hh
    · exact .inl hh
    · rcases List.mem_cons.1 hh with e | hh
      · subst e; exact .inl (hb.resolve_left (fun hn => hn hx))
      · exact .inr hh
  exact ⟨h.asc, h.out, fun x hx => h.todo x (List.mem_cons_of_mem _ hx), fun x hx => key x hx.r (h.dir x hx), fun y hy x hx => key x hx.r (h.on y hy x hx)⟩
theorem Rq.put {N : List Nd} (hv : nodB N = true) {a : Pid} {y : Nd} {O T : List Pid} (h : Rq N a O (y.id :: T)) (hy : y ∈ N) : Rq N a (putP O y.id) (T ++ y.deps) := by
  have hb : Rp (EI N) a y.id := h.todo _ List.mem_cons_self (List.mem_map_of_mem hy)
  have key : ∀ x, x ∈ O ∨ x ∈ y.id :: T → x ∈ putP O y.id ∨ x ∈ T ++ y.deps := fun x hh => by
    rw [mem_putP, List.mem_append]
    rcases hh with hh | hh
    · exact .inl (.inr hh)
    · rcases List.mem_cons.1 hh with e | hh
      · exact .inl (.inl e)
      · exact .inr (.inl hh)
  refine ⟨asc_putP h.asc, fun x hx => ?_, fun x hx hi => ?_, fun x hx => key x (h.dir x hx), fun z hz x hx => ?_⟩
  · rcases (mem_putP _ _ _).1 hx with e | hx
    · subst e; exact hb
    · exact h.out x hx
  · rcases List.mem_append.1 hx with hx | hx
    · exact h.todo x (List.mem_cons_of_mem _ hx) hi
    · exact hb.rt_r (.one ⟨hi, y, hy, rfl, hx⟩)
  · rcases (mem_putP _ _ _).1 hz with e | hz
    · subst e
      obtain ⟨_, y', hy', e, hd⟩ := hx
      rw [getD_uniq hv hy' hy e] at hd
      exact .inr (List.mem_append_right _ hd)
    · exact key x (h.on z hz x hx)
theorem Rq.done {N : List Nd} (hv : nodB N = true) {a : Pid} {O : List Pid} (h : Rq N a O []) : O = selP N (Rp (EI N) a) := by
  refine selP_ext (nod_of hv).2.2 h.asc fun x => ⟨fun hx => ⟨rp_r (h.out x hx), h.out x hx⟩, fun hx => ?_⟩
  obtain ⟨_, c, h1, h2⟩ := hx
  refine h2.closed (P := fun x => x ∈ O) (fun i hi j hj => ?_) ?_
  · exact (h.on i hi j hj).resolve_right (by simp)
  · exact (h.dir c h1).resolve_right (by simp)
theorem asc_in_len {N : List Nd} (hv : nodB N = true) {O : List Pid} (h : Asc O) (hi : ∀ x ∈ O, x ∈ idsN N) : O.length ≤ N.length := by
  rw [selP_ext (P := fun x => x ∈ O) (nod_of hv).2.2 h (fun x => ⟨fun hx => ⟨hi x hx, hx⟩, fun hx => hx.2⟩)]
  exact selP_len N _
theorem Rq.len {N : List Nd} (hv : nodB N = true) {a : Pid} {O T : List Pid} (h : Rq N a O T) : O.length ≤ N.length := asc_in_len hv h.asc fun x hx => rp_r (h.out x hx)
theorem nod_deps {N : List Nd} (hv : nodB N = true) {k : Nat} (hk : k < N.length) : srtB (N.getD k nd0).deps = true := by
  have := (nod_of hv).2.1 _ (getD_mem hk)
  simp only [ndB, Bool.and_eq_true] at this
  exact this.2.2.1
theorem nod_dlen {N : List Nd} (hv : nodB N = true) {k : Nat} (hk : k < N.length) : (N.getD k nd0).deps.length ≤ 12 := (srt_of (nod_deps hv hk)).1
/-- How much is left. -/
def mu (O T : List Pid) : Nat := 13 * (12 - O.length) + T.length
theorem mu_put {N : List Nd} (hv : nodB N = true) {a : Pid} {y : Nd} {O T : List Pid} (h : Rq N a O (y.id :: T)) (hy : y ∈ N) (hn : ¬ y.id ∈ O) (hd : y.deps.length ≤ 12) : mu (putP O y.id) (T ++ y.deps) < mu O (y.id :: T) := by
  have h1 := (h.put hv hy).len hv
  have h2 := (nod_of hv).1
  unfold mu
  rw [putP_out hn, len_insB] at h1 ⊢
  rw [List.length_append, List.length_cons]
  omega

theorem sc_parts {N : List Nd} {a b : Pid} : Sc (EI N) a b ↔ b = a ∨ Rp (EI N) a b ∧ Rp (EI N) b a := by
  constructor
  · rintro ⟨h1, h2⟩
    rcases h1.cases with e | h1
    · exact .inl e.symm
    · rcases h2.cases with e | h2
      · exact .inl e
      · exact .inr ⟨h1, h2⟩
  · rintro (e | ⟨h1, h2⟩)
    · subst e; exact .refl _
    · exact ⟨h1.rt, h2.rt⟩

open Classical in
/-- Those of the first k nodes with a property. -/
noncomputable def selK (N : List Nd) (P : Pid → Prop) (k : Nat) : List Pid := ((idsN N).take k).filter fun a => decide (P a)
theorem selK_zero (N : List Nd) (P : Pid → Prop) : selK N P 0 = [] := by unfold selK; simp
open Classical in
theorem selK_next {N : List Nd} {P : Pid → Prop} {k : Nat} (hk : k < N.length) (h : P (N.getD k nd0).id) : selK N P (k + 1) = selK N P k ++ [(N.getD k nd0).id] := by
  unfold selK
  rw [take_next (by rw [idsN_len]; exact hk), List.filter_append, idsN_get hk, List.filter_cons, if_pos (decide_eq_true h), List.filter_nil]
open Classical in
theorem selK_miss {N : List Nd} {P : Pid → Prop} {k : Nat} (hk : k < N.length) (h : ¬ P (N.getD k nd0).id) : selK N P (k + 1) = selK N P k := by
  unfold selK
  rw [take_next (by rw [idsN_len]; exact hk), List.filter_append, idsN_get hk, List.filter_cons, if_neg (by rw [decide_eq_true_eq]; exact h), List.filter_nil, List.append_nil]
theorem selK_all (N : List Nd) (P : Pid → Prop) : selK N P N.length = selP N P := by
  unfold selK selP; rw [List.take_of_length_le (by rw [idsN_len]; exact Nat.le_refl _)]
theorem selK_len (N : List Nd) (P : Pid → Prop) (k : Nat) : (selK N P k).length ≤ k := by
  unfold selK
  refine Nat.le_trans (List.length_filter_le _ _) ?_
  rw [List.length_take]; omega

/-- The soonest one of some: as far as they have been looked at. -/
def FirstP (N : List Nd) (L D : List Pid) (k : Nat) (o : Option Pid) : Prop :=
  match o with
  | none => ∀ x ∈ L.take k, x ∈ D
  | some a => a ∈ L.take k ∧ ¬ a ∈ D ∧ ∀ x ∈ L.take k, x ∈ D ∨ x = a ∨ Soon N a x
theorem FirstP.start (N : List Nd) (L D : List Pid) : FirstP N L D 0 none := fun x hx => by simp at hx
theorem FirstP.known {N : List Nd} {L D : List Pid} {k : Nat} {o : Option Pid} (h : FirstP N L D k o) (hk : k < L.length) (hd : L.getD k nop ∈ D) : FirstP N L D (k + 1) o := by
  unfold FirstP at *
  rw [take_next hk]
  cases o with
  | none =>
    intro x hx
    rcases List.mem_append.1 hx with hx | hx
    · exact h x hx
    · rw [List.mem_singleton] at hx; rw [hx]; exact hd
  | some a =>
    refine ⟨List.mem_append_left _ h.1, h.2.1, fun x hx => ?_⟩
    rcases List.mem_append.1 hx with hx | hx
    · exact h.2.2 x hx
    · rw [List.mem_singleton] at hx; rw [hx]; exact .inl hd
theorem FirstP.later {N : List Nd} {L D : List Pid} {k : Nat} {a : Pid} (h : FirstP N L D k (some a)) (hk : k < L.length) (hs : ¬ Soon N (L.getD k nop) a) : FirstP N L D (k + 1) (some a) := by
  unfold FirstP at *
  rw [take_next hk]
  refine ⟨List.mem_append_left _ h.1, h.2.1, fun x hx => ?_⟩
  rcases List.mem_append.1 hx with hx | hx
  · exact h.2.2 x hx
  · rw [List.mem_singleton] at hx
    subst hx
    rcases Soon.tri N a (L.getD k nop) with hh | hh | hh
    · exact .inr (.inr hh)
    · exact .inr (.inl hh.symm)
    · exact absurd hh hs
theorem FirstP.take {N : List Nd} {L D : List Pid} {k : Nat} {o : Option Pid} (h : FirstP N L D k o) (hk : k < L.length) (hd : ¬ L.getD k nop ∈ D) (hs : ∀ a, o = some a → Soon N (L.getD k nop) a) : FirstP N L D (k + 1) (some (L.getD k nop)) := by
  unfold FirstP at *
  rw [take_next hk]
  refine ⟨List.mem_append_right _ (List.mem_singleton.2 rfl), hd, fun x hx => ?_⟩
  rcases List.mem_append.1 hx with hx | hx
  · cases o with
    | none => exact .inl (h x hx)
    | some a =>
      have hsa := hs a rfl
      rcases h.2.2 x hx with hh | hh | hh
      · exact .inl hh
      · subst hh; exact .inr (.inr hsa)
      · exact .inr (.inr (hsa.trans hh))
  · rw [List.mem_singleton] at hx; exact .inr (.inl hx)
/-- What l5First answers. -/
def FirstA (N : List Nd) (L D : List Pid) : Option Pid → Prop
  | none => ∀ x ∈ L, x ∈ D
  | some a => a ∈ L ∧ ¬ a ∈ D ∧ ∀ x ∈ L, x ∈ D ∨ x = a ∨ Soon N a x
theorem FirstP.all {N : List Nd} {L D : List Pid} {o : Option Pid} (h : FirstP N L D L.length o) : FirstA N L D o := by
  unfold FirstP at h
  rw [List.take_length] at h
  cases o <;> exact h

/-- A group that is being put behind others: M are there already. -/
structure Gro (N : List Nd) (a : Pid) (A M : List Pid) : Prop where
  sub : ∀ x ∈ M, Sc (EI N) a x
  srt : M.Pairwise (Soon N)
  low : ∀ x ∈ M, ∀ y, Sc (EI N) a y → ¬ y ∈ M → Soon N x y
theorem Gro.start (N : List Nd) (a : Pid) (A : List Pid) : Gro N a A [] := ⟨fun _ h => (nomatch h), List.Pairwise.nil, fun _ h => nomatch h⟩
theorem Gro.next {N : List Nd} {a b : Pid} {A M : List Pid} (h : Gro N a A M) (hb : Sc (EI N) a b) (hn : ¬ b ∈ A ++ M) (hl : ∀ x, Sc (EI N) a x → x ∈ A ++ M ∨ x = b ∨ Soon N b x) (hA : ∀ x, Sc (EI N) a x → ¬ x ∈ A) : Gro N a A (M ++ [b]) := by
  have hbM : ¬ b ∈ M := fun hh => hn (List.mem_append_right _ hh)
  refine ⟨fun x hx => ?_, List.pairwise_append.2 ⟨h.srt, List.pairwise_singleton _ _, fun x hx y hy => ?_⟩, fun x hx y hy hny => ?_⟩
  · rcases List.mem_append.1 hx with hx | hx
    · exact h.sub x hx
    · rw [List.mem_singleton] at hx; rw [hx]; exact hb
  · rw [List.mem_singleton] at hy
    subst hy; exact h.low x hx _ hb hbM
  · have hyM : ¬ y ∈ M := fun hh => hny (List.mem_append_left _ hh)
    rcases List.mem_append.1 hx with hx | hx
    · exact h.low x hx y hy hyM
    · rw [List.mem_singleton] at hx
      subst hx
      rcases hl y hy with hh | hh | hh
      · rcases List.mem_append.1 hh with hh | hh
        · exact absurd hh (hA y hy)
        · exact absurd hh hyM
      · exact absurd (List.mem_append_right _ (List.mem_singleton.2 hh)) hny
      · exact hh
/-- What has run so far, of the whole order. -/
def Pre (N : List Nd) (A : List Pid) : Prop := Clo N (fun b => b ∈ A) ∧ A.Nodup ∧ (∀ x ∈ A, x ∈ idsN N) ∧ ∀ L, Ord N (fun b => b ∈ A) L → Ord N (fun _ => False) (A ++ L)
theorem Pre.start (N : List Nd) : Pre N [] := ⟨fun a b h => (nomatch h), List.nodup_nil, fun _ h => (nomatch h), fun L h => by simpa using h⟩
theorem Pre.stop {N : List Nd} {A : List Pid} (h : Pre N A) (hn : ∀ a, ¬ FreeI N (fun b => b ∈ A) a) : Ord N (fun _ => False) A := by
  have := h.2.2.2 [] (.stop _ hn); simpa using this
theorem Pre.next {N : List Nd} {A M : List Pid} {a : Pid} (h : Pre N A) (hi : FreeI N (fun b => b ∈ A) a) (hf : ∀ b, FreeI N (fun b => b ∈ A) b → b = a ∨ Soon N a b) (hM : ∀ b, b ∈ M ↔ Sc (EI N) a b) (hs : M.Pairwise (Soon N)) : Pre N (A ++ M) := by
  have hR : (fun b => b ∈ A ++ M) = fun b => b ∈ A ∨ b ∈ M := by funext b; exact propext List.mem_append
  have hnew := hi.new hM h.1
  refine ⟨by rw [hR]; exact hi.clo hM h.1, List.nodup_append.2 ⟨h.2.1, soon_nodup hs, fun x hx y hy e => ?_⟩, fun x hx => ?_, fun L hL => ?_⟩
  · subst e; exact (hnew x hy).1 hx
  · rcases List.mem_append.1 hx with hx | hx
    · exact h.2.2.1 x hx
    · exact (hnew x hx).2.1
  · rw [hR] at hL
    rw [List.append_assoc]
    exact h.2.2.2 _ (.run _ a M L hi hf hM hs hL)
theorem nodup_len : ∀ {A B : List Pid}, A.Nodup → (∀ x ∈ A, x ∈ B) → A.length ≤ B.length
  | [], B, _, _ => Nat.zero_le _
  | a :: A, B, h, hs => by
    have h' := List.nodup_cons.1 h
    have ha := hs a List.mem_cons_self
    obtain ⟨X, Y, rfl⟩ := List.append_of_mem ha
    have := nodup_len (B := X ++ Y) h'.2 fun x hx => by
      have hxx := hs x (List.mem_cons_of_mem _ hx)
      rcases List.mem_append.1 hxx with h1 | h1
      · exact List.mem_append_left _ h1
      · rcases List.mem_cons.1 h1 with e | h1
        · subst e; exact absurd hx h'.1
        · exact List.mem_append_right _ h1
    simp only [List.length_append, List.length_cons] at this ⊢
    omega
theorem Pre.len {N : List Nd} {A : List Pid} (h : Pre N A) : A.length ≤ N.length := by rw [← idsN_len]; exact nodup_len h.2.1 h.2.2.1
/-- With as many as there are nodes, all have run. -/
theorem Pre.full {N : List Nd} {A : List Pid} (h : Pre N A) (hl : N.length ≤ A.length) : ∀ a, ¬ FreeI N (fun b => b ∈ A) a := by
  intro a hf
  have := nodup_len (A := a :: A) (B := idsN N) (List.nodup_cons.2 ⟨hf.2.1, h.2.1⟩) (fun x hx => by
    rcases List.mem_cons.1 hx with e | hx
    · subst e; exact hf.1
    · exact h.2.2.1 x hx)
  rw [idsN_len, List.length_cons] at this
  omega
end Go.Proofs.Ytbklkhndjckckaa

/- What NodesOrder answers. -/
namespace Go.Proofs.Ytbklkhndjckckaa
open Go.RowKit
set_option linter.unusedVariables false

/-- What NodesOrder answers. -/
def OrdP (N : List Nd) (L : List Pid) : Prop := (nodB N = false → L = []) ∧ (nodB N = true → Ord N (fun _ => False) L)
theorem OrdP.det {N : List Nd} {L L' : List Pid} (h : OrdP N L) (g : OrdP N L') : L = L' := by
  cases hv : nodB N with
  | false => rw [h.1 hv, g.1 hv]
  | true => exact (h.2 hv).det (g.2 hv)
/-- What NodesOrder leaves. -/
def OnP (N : List Nd) (w : World) (e : Ending) (w' : World) : Prop := ∃ b v L, w.heap.size ≤ b ∧ e = .returned v ∧ OwnP w' b v L ∧ OrdP N L ∧ L.length ≤ 12 ∧ Below w.heap.size w w'
end Go.Proofs.Ytbklkhndjckckaa

/- The program's NodesOrder. -/
namespace Go.Proofs.Ytbklkhndjckckaa
open Go.RowKit
set_option linter.unusedVariables false

theorem soon_of {N : List Nd} (hv : nodB N = true) {i j : Nat} (hi : i < N.length) (hj : j < N.length) : Soon N (N.getD i nd0).id (N.getD j nd0).id ↔ soonK N i j := by
  unfold Soon soonK; rw [seqP_of hv (getD_mem hi), seqP_of hv (getD_mem hj)]
theorem FreeI.sc {N : List Nd} {T : Pid → Prop} {a b : Pid} (h : FreeI N T a) (hs : Sc (EI N) a b) (hT : Clo N T) : FreeI N T b := by
  obtain ⟨h1, h2, h3, h4⟩ := h
  refine ⟨sc_in hs h1, fun hb => h2 (hT b a hb hs.2), h3.on hs.1, fun c hc => ?_⟩
  rcases h4 c (hs.1.rp hc) with h | h
  · exact .inl h
  · exact .inr (hs.symm.trans h)
theorem GrpH.head {w : World} {gb : Nat} {N : List Nd} {U : Us} {i k : Nat} (hv : nodB N = true) (h : GrpH w gb N U i) (hi : i < N.length) (hk : k < N.length) (hs : Sc (EI N) (N.getD i nd0).id (N.getD k nd0).id) : k = i ∨ soonK N i k := by
  obtain ⟨mb, cap, Q, f, r, rd, h, e⟩ := h
  have hm := (h.gm.mem k).2 ((sc_iff hv hi hk).2 hs)
  obtain ⟨m, hmq, hme⟩ := List.getElem_of_mem hm
  have h0 : Q[0]'(by omega) = i := by rw [← e, List.getD_eq_getElem?_getD, List.getElem?_eq_getElem (by omega)]; rfl
  by_cases hm0 : m = 0
  · subst hm0; exact .inl (hme.symm.trans h0)
  · have := List.pairwise_iff_getElem.1 h.gm.srt 0 m (by omega) hmq (by omega)
    rw [h0, hme] at this; exact .inr this
theorem sfR_none {w : World} {N : List Nd} {U : Us} {gs : List Nat} {H : Nat → Nat} {T : Pid → Prop} (hG : GH w N U gs H) (hT : Clo N T) (h : ∀ j, j < gs.length → ¬ FreeI N T (N.getD (H j) nd0).id) : ∀ a, ¬ FreeI N T a := by
  intro a ha
  obtain ⟨i, hi, rfl⟩ := mem_idsN.1 ha.1
  obtain ⟨j, hj, hs⟩ := hG.cov i hi
  exact h j hj (ha.sc hs.symm hT)
theorem sfR_best {w : World} {N : List Nd} {U : Us} {gs : List Nat} {H : Nat → Nat} {T : Pid → Prop} (hv : nodB N = true) (hG : GH w N U gs H) (hT : Clo N T) {j : Nat} (hj : j < gs.length)
    (h : ∀ j', j' < gs.length → FreeI N T (N.getD (H j') nd0).id → H j' = H j ∨ soonK N (H j) (H j')) : ∀ b, FreeI N T b → b = (N.getD (H j) nd0).id ∨ Soon N (N.getD (H j) nd0).id b := by
  intro b hb
  obtain ⟨i, hi, rfl⟩ := mem_idsN.1 hb.1
  obtain ⟨j', hj', hs⟩ := hG.cov i hi
  obtain ⟨hl', hG'⟩ := hG.at_ j' hj'
  have hl := (hG.at_ j hj).1
  rcases hG'.head hv hl' hi hs with e | e <;> rcases h j' hj' (hb.sc hs.symm hT) with e' | e'
  · rw [e, e']; exact .inl rfl
  · rw [e]; exact .inr ((soon_of hv hl hl').2 e')
  · rw [e'] at e; exact .inr ((soon_of hv hl hi).2 e)
  · exact .inr ((soon_of hv hl hi).2 (e'.trans e))
/-- The ids of a group's nodes. -/
def memI (N : List Nd) (Q : List Nat) : List Pid := Q.map fun i => (N.getD i nd0).id
theorem GM.mem_memI {N : List Nd} {i : Nat} {Q : List Nat} {f r : Nat → Nat} {rd : Bool} (hv : nodB N = true) (hi : i < N.length) (h : GM N i Q f r rd) (b : Pid) : b ∈ memI N Q ↔ Sc (EI N) (N.getD i nd0).id b := by
  unfold memI
  rw [List.mem_map]
  constructor
  · rintro ⟨k, hk, rfl⟩
    have hs := (h.mem k).1 hk
    exact (sc_iff hv hi (rt_lt hs.1 hi)).1 hs
  · intro hs
    obtain ⟨j, hj, e, _⟩ := rt_en hv hs.1 i hi rfl
    subst e
    exact ⟨j, (h.mem j).2 ((sc_iff hv hi hj).2 hs), rfl⟩
theorem GM.srt_memI {N : List Nd} {i : Nat} {Q : List Nat} {f r : Nat → Nat} {rd : Bool} (hv : nodB N = true) (hi : i < N.length) (h : GM N i Q f r rd) : (memI N Q).Pairwise (Soon N) := by
  unfold memI
  rw [List.pairwise_map]
  refine List.Pairwise.imp_of_mem (fun {a b} ha hb hab => ?_) h.srt
  exact (soon_of hv (rt_lt ((h.mem a).1 ha).1 hi) (rt_lt ((h.mem b).1 hb).1 hi)).2 hab

/-- Groups are kept where their blocks are. -/
theorem GrpAt.kb {w w' : World} {gb : Nat} {N : List Nd} {U : Us} {i mb cap : Nat} {Q : List Nat} {f r : Nat → Nat} {rd : Bool} (h : GrpAt w gb N U i mb cap Q f r rd) (hk : ∀ b, Typ w b 60 ∨ Typ w b 33 → w'.heap[b]? = w.heap[b]?) : GrpAt w' gb N U i mb cap Q f r rd :=
  ⟨h.gb.same (hk _ (.inl h.gb.typ)), h.row.same (hk _ (.inr h.typ)), h.typ.same (hk _ (.inr h.typ)), h.cap, h.gm⟩
theorem GH.kb {w w' : World} {N : List Nd} {U : Us} {gs : List Nat} {H : Nat → Nat} (h : GH w N U gs H) (hk : ∀ b, Typ w b 60 ∨ Typ w b 33 → w'.heap[b]? = w.heap[b]?) : GH w' N U gs H :=
  ⟨fun j hj => ⟨(h.at_ j hj).1, by obtain ⟨_, mb, cap, Q, f, r, rd, hA, e⟩ := h.at_ j hj; exact ⟨mb, cap, Q, f, r, rd, hA.kb hk, e⟩⟩, h.cov⟩
theorem Set5.typ {w : World} {b : Nat} {f : Nat → Nat} (h : Set5 w b f) : Typ w b 56 := ⟨_, h⟩

/-- Where the order is. -/
structure OS (w0 wr : World) (N : List Nd) (U : Us) (gs : List Nat) (H : Nat → Nat) (gv : Value) (xb : Nat) (R : Nat → Nat) (A : List Pid) (sv : Value) : Prop where
  row : Row wr w0.heap.size sv A
  grow : wr.ownsRow w0.heap.size 57 1 gv gs.length (gs.map pv)
  gh : GH wr N U gs H
  rb : Set5 wr xb R
  xl : w0.heap.size ≤ xb
  bel : Below w0.heap.size w0 wr
section
variable {w0 wr w' : World} {N : List Nd} {U : Us} {gs : List Nat} {H : Nat → Nat} {gv : Value} {xb : Nat} {R : Nat → Nat} {A : List Pid} {sv : Value}
theorem OS.up (h : OS w0 wr N U gs H gv xb R A sv) (hb : Below wr.heap.size wr w') : OS w0 w' N U gs H gv xb R A sv :=
  ⟨h.row.up hb, row_same h.grow (fun k hk => hb.block k (ownb_typ h.grow hk).lt), h.gh.keep (Exv.of hb), (hb.block xb h.rb.lt).trans h.rb, h.xl, bstep h.bel hb⟩
theorem Row.typ {w : World} {B : Nat} {v : Value} {O : List Pid} (h : Row w B v O) {k : Nat} (hk : v.ownBlock = some k) : Typ w k 31 := ownb_typ h.1 hk
theorem OS.push (h : OS w0 wr N U gs H gv xb R A sv) {o : Obj} {v' : Value} {x y : Int}
    (hown : w'.ownsRow w0.heap.size 31 2 v' (A.length + 1) (flatP A ++ [.int .i64 x, .int .i64 y])) (hg : (wr.alloc o).grownBy w' (Value.ownBlock sv)) (hn : v' ≠ .slice none 0 0) :
    OS w0 w' N U gs H gv xb R (A ++ [(x, y)]) v' ∧ ∀ b, Typ wr b 60 ∨ Typ wr b 33 → w'.heap[b]? = wr.heap[b]? := by
  have hb0 : Below wr.heap.size wr (wr.alloc o) := (Below.refl _ _).alloc (Nat.le_refl _) o
  have hU := h.up hb0
  have hk : ∀ b t, Typ (wr.alloc o) b t → t ≠ 31 → w'.heap[b]? = (wr.alloc o).heap[b]? := fun b t ht hne => hg.block b ht.lt fun e => hne (ht.uniq (hU.row.typ e.symm))
  have hk2 : ∀ b, Typ (wr.alloc o) b 60 ∨ Typ (wr.alloc o) b 33 → w'.heap[b]? = (wr.alloc o).heap[b]? := fun b hh => hh.elim (fun ht => hk b _ ht (by decide)) (fun ht => hk b _ ht (by decide))
  refine ⟨⟨hU.row.put hown hn, row_same hU.grow (fun k hk' => hk k _ (ownb_typ hU.grow hk') (by decide)), hU.gh.kb hk2, (hk xb _ hU.rb.typ (by decide)).trans hU.rb, h.xl, ?_⟩, fun b hb => ?_⟩
  · exact hU.bel.trans (grown_below hU.row hg (by have := hU.bel.size; omega))
  · have hlt : b < wr.heap.size := hb.elim (fun ht => ht.lt) (fun ht => ht.lt)
    have e := hb0.block b hlt
    exact (hk2 b (hb.imp (fun ht => ht.same e) (fun ht => ht.same e))).trans e
theorem OS.fill (h : OS w0 wr N U gs H gv xb R A sv) (g : Nat → Nat) :
    OS w0 (((((wr.setCell ⟨xb, 0, none⟩ (.int .u64 (g 0))).setCell ⟨xb, 1, none⟩ (.int .u64 (g 1))).setCell ⟨xb, 2, none⟩ (.int .u64 (g 2))).setCell ⟨xb, 3, none⟩ (.int .u64 (g 3))).setCell ⟨xb, 4, none⟩ (.int .u64 (g 4))) N U gs H gv xb g A sv := by
  have ho : ∀ b, b ≠ xb → (((((wr.setCell ⟨xb, 0, none⟩ (.int .u64 (g 0))).setCell ⟨xb, 1, none⟩ (.int .u64 (g 1))).setCell ⟨xb, 2, none⟩ (.int .u64 (g 2))).setCell ⟨xb, 3, none⟩ (.int .u64 (g 3))).setCell ⟨xb, 4, none⟩ (.int .u64 (g 4))).heap[b]? = wr.heap[b]? := fun b hb => by
    rw [heap_setCell_other _ _ _ _ hb, heap_setCell_other _ _ _ _ hb, heap_setCell_other _ _ _ _ hb, heap_setCell_other _ _ _ _ hb, heap_setCell_other _ _ _ _ hb]
  have ht : ∀ b t, Typ wr b t → t ≠ 56 → b ≠ xb := fun b t h1 h2 e => h2 (by subst e; exact h1.uniq h.rb.typ)
  refine ⟨⟨row_same h.row.1 fun k hk => ho k (ht k _ (h.row.typ hk) (by decide)), h.row.2⟩, row_same h.grow (fun k hk => ho k (ht k _ (ownb_typ h.grow hk) (by decide))), h.gh.kb (fun b hb => ho b (hb.elim (fun x => ht b _ x (by decide)) (fun x => ht b _ x (by decide)))), h.rb.fill g, h.xl, ?_⟩
  exact ((((h.bel.setCell (p := ⟨xb, 0, none⟩) h.xl _).setCell (p := ⟨xb, 1, none⟩) h.xl _).setCell (p := ⟨xb, 2, none⟩) h.xl _).setCell (p := ⟨xb, 3, none⟩) h.xl _).setCell (p := ⟨xb, 4, none⟩) h.xl _
end
theorem memI_take {N : List Nd} {Q : List Nat} {m : Nat} (hm : m < Q.length) : memI N (Q.take (m + 1)) = memI N (Q.take m) ++ [(N.getD (Q.getD m 0) nd0).id] := by
  have e : Q.getD m 0 = Q[m] := by rw [List.getD_eq_getElem?_getD, List.getElem?_eq_getElem hm]; rfl
  rw [e]
  unfold memI
  rw [List.take_succ_eq_append_getElem hm, List.map_append]; rfl
theorem memI_len (N : List Nd) (Q : List Nat) : (memI N Q).length = Q.length := List.length_map _

def lenO : Value → Nat
  | .slice _ n _ => n
  | _ => 0
theorem one_cellId (w : World) (x y : Value) (t : TypeId) : ∀ j u, [x, y][j]? = some u → (w.alloc (.cells #[x, y] t)).cell? ((⟨w.heap.size, 0, none⟩ : Addr).add j) = some u := two_cells w t x y _ rfl

set_option maxRecDepth 100000 in
set_option maxHeartbeats 2000000 in
theorem sfree_no (ga : Option Addr) (gc : Nat) (x0 x1 x2 x3 x4 : Value) (w : World) :
    Calls Try.prog 33 #[.slice ga 0 gc, .agg #[x0, x1, x2, x3, x4]] w fun e w' => e = .returned (.pointer none) ∧ Below w.heap.size w w' := by
  go_enter Try.func33, Try.ntmps33
  go_wp2_with fail
  refine wp_loop_rounds 1 ?_
  rw [rounds_succ]
  go_wp2_with fail
  go_ret
  exact ⟨rfl, (Below.refl _ _).alloc (Nat.le_refl _) _⟩

set_option maxRecDepth 100000 in
set_option maxHeartbeats 4000000 in
theorem iorder_any (u : Value) (N : List Nd) (w : World) (h : Nds w u N) :
    Calls Try.prog 11 #[u] w (OnP N w) := by
  have D0 := (Below.refl w.heap.size w).alloc (Nat.le_refl _) (.cells #[] 31)
  have gr := groups_any u N _ (h.up D0 (Nat.le_refl _))
  have R0 : Row (w.alloc (.cells #[] 31)) w.heap.size (.slice (some ⟨w.heap.size, 0, none⟩) 0 0) [] := row_new w _ (Nat.le_refl _)
  have R0 := Lib.hid R0
  have D0 := Lib.hid D0
  clear h
  obtain ⟨i0, hi, hz0, hz1, hz2⟩ := info_parts infoP
  go_enter Try.func11, Try.ntmps11
  go_wp2_with fail
  refine gr.mono ?_
  rintro e w1 ⟨gs, gv, U, rfl, hrow, hgl, B, hno, hyes⟩
  have D1 := Lib.hid (bstep D0.out B)
  have R1 := Lib.hid (R0.out.up B)
  have hbase : w.heap.size ≤ (w.alloc (.cells #[] 31)).heap.size := by simp
  have hrow := Lib.hid (row_base hrow hbase)
  clear B gr D0 R0 hbase
  cases hv : nodB N with
  | false =>
    have hg0 := hno hv
    subst hg0
    obtain ⟨ga, gc, rfl⟩ := row_shape hrow.out
    have hv := Lib.hid hv
    have hbox := Lib.hid (heap_alloc_new w1 (.cells #[.int .u64 0, .int .u64 0, .int .u64 0, .int .u64 0, .int .u64 0] 56))
    have D2 := Lib.hid (D1.out.alloc D1.out.size (.cells #[.int .u64 0, .int .u64 0, .int .u64 0, .int .u64 0, .int .u64 0] 56))
    have R2 := Lib.hid (R1.out.up ((Below.refl _ _).alloc (Nat.le_refl _) (.cells #[.int .u64 0, .int .u64 0, .int .u64 0, .int .u64 0, .int .u64 0] 56)))
    clear hno hyes hrow R1
    simp only [List.length_nil]
    go_wp2_with fail
    refine (sfree_no ga gc _ _ _ _ _ _).mono ?_
    rintro e w2 ⟨rfl, B⟩
    have D3 := Lib.hid (bstep D2.out B)
    have R3 := Lib.hid (R2.out.up B)
    clear B D2 R2
    go_wp2_with fail
    refine wp_loop_rounds 1 ?_
    rw [rounds_succ]
    go_wp2_with fail
    go_ret
    obtain ⟨b, hb, hO⟩ := R3.out.own (by simp)
    exact ⟨b, _, [], hb, rfl, hO, ⟨fun _ => rfl, fun x => by rw [hv.out] at x; cases x⟩, by simp, D3.out⟩
  | true =>
    obtain ⟨H, hH⟩ := GH.of hv (hyes hv)
    have hO1 : Hid (OS w (w1.alloc (.cells #[.int .u64 0, .int .u64 0, .int .u64 0, .int .u64 0, .int .u64 0] 56)) N U gs H gv w1.heap.size (fun _ => 0) [] (.slice (some ⟨w.heap.size, 0, none⟩) 0 0)) := by
      have b := (Below.refl w1.heap.size w1).alloc (Nat.le_refl _) (.cells #[.int .u64 0, .int .u64 0, .int .u64 0, .int .u64 0, .int .u64 0] 56)
      exact Lib.hid ⟨R1.out.up b, row_same hrow.out (fun k hk => b.block k (ownb_typ hrow.out hk).lt), hH.keep (Exv.of b), heap_alloc_new w1 _, D1.out.size, bstep D1.out b⟩
    have hv := Lib.hid hv
    have hxl := D1.out.size
    have hgl := Lib.hid hgl
    obtain ⟨s0, s1, s2, s3, s4⟩ := hO1.out.rb.five
    have sl := hO1.out.rb.lt
    have sf := sfree_any w.heap.size gv gs N U H (fun _ => 0) (fun x => x ∈ ([] : List Pid)) _ hv.out hO1.out.grow hgl.out hO1.out.gh (Bits.zero.ext fun x => ⟨fun hh => hh.elim, fun hh => nomatch hh⟩) (Pre.start N).1
    unfold setV at sf
    clear hno hyes hrow R1 hH D1
    go_wp2_with fail
    refine sf.mono ?_
    rintro e w2 ⟨gp, rfl, hS, B⟩
    have hS := Lib.hid hS
    have hO2 := Lib.hid (hO1.out.up B)
    clear B hO1 sf s0 s1 s2 s3 s4 sl
    go_wp2_with fail
    obtain ⟨xb, hxb⟩ : ∃ b, b = w1.heap.size := ⟨_, rfl⟩
    rw [← hxb] at hO2 ⊢
    clear hxb hxl
    go_loopw [3, 6] (fun vo vg wr => ∃ (A : List Pid) (R : Nat → Nat), Hid (OS w wr N U gs H gv xb R A vo) ∧ Hid (Bits R (fun x => x ∈ A)) ∧ Hid (Pre N A) ∧ Hid (SfR N (fun x => x ∈ A) gs H gs.length vg)) (fun vo _ _ => 12 - lenO vo)
    case atStart => exact ⟨[], _, hO2, Lib.hid (Bits.zero.ext fun x => ⟨fun hh => hh.elim, fun hh => nomatch hh⟩), Lib.hid (Pre.start N), hS⟩
    case round =>
      clear hO2 hS
      obtain ⟨A, R, hO, hB, hP, hS⟩ := hrel
      have hA12 : A.length ≤ 12 := Nat.le_trans hP.out.len (nod_of hv.out).1
      rcases hS.out with ⟨rfl, hno⟩ | ⟨j, hj, rfl, hjf, hjm⟩
      · have hfin := Lib.hid (hP.out.stop (sfR_none hO.out.gh hP.out.1 hno))
        obtain ⟨b, hb, hOw⟩ := hO.out.row.own (by omega)
        have hOw := Lib.hid hOw
        go_wp2_with fail
        go_ret
        exact ⟨b, _, A, hb, rfl, hOw.out, ⟨fun x => (by rw [hv.out] at x; cases x), fun _ => hfin.out⟩, hA12, hO.out.bel⟩
      · have hbest := sfR_best hv.out hO.out.gh hP.out.1 hj hjm
        obtain ⟨hHl, mb, cap, Q, f, r, rd, hGA, hQ0⟩ := hO.out.gh.at_ j hj
        have hMm := hGA.gm.mem_memI hv.out hHl
        have hMs := hGA.gm.srt_memI hv.out hHl
        have hP2 := Lib.hid (hP.out.next hjf hbest hMm hMs)
        have hA2 := hP2.out.len
        rw [List.length_append, memI_len] at hA2
        have hAQ : A.length + Q.length ≤ 12 := Nat.le_trans hA2 (nod_of hv.out).1
        have hpos := hGA.pos
        have hcapQ := hGA.cap
        have hbf := Lib.hid hGA.gm.ids
        have hMm := Lib.hid hMm
        obtain ⟨gb, hgb⟩ : ∃ b, Hid (gs.getD j 0 = b) := ⟨_, Lib.hid rfl⟩
        unfold pv
        rw [hgb.out] at hGA ⊢
        have hc0 := hGA.gb.c0
        have hgbl := hGA.gb.lt
        have hGA := Lib.hid hGA
        obtain ⟨n, hn⟩ : ∃ n, Hid (Q.length = n) := ⟨_, Lib.hid rfl⟩
        rw [hn.out] at hc0 hAQ hpos hcapQ
        clear hbest hMs hjf hQ0 hA2
        have hjm := Lib.hid hjm
        have hS := Lib.hid hS
        obtain ⟨oa, oc, rfl⟩ := row_shape hO.out.row.1
        go_wp2_with fail
        have hPN := hv
        have hmlen := hO.out.row.1.1
        have hGb := Lib.hid (⟨_, rfl⟩ : ∃ b, b = gb)
        go_loopw [3, 25] (fun vo i wr => ∃ m : Nat, m ≤ n ∧ i = .int .i64 m ∧ Hid (OS w wr N U gs H gv xb R (A ++ memI N (Q.take m)) vo) ∧ Hid (GrpAt wr gb N U (H j) mb cap Q f r rd)) (fun _ i _ => n - (intOf i).toNat)
        case atStart => exact ⟨0, Nat.zero_le _, rfl, Lib.hid (by simpa [memI] using hO.out), hGA⟩
        case round =>
          clear hO hGA
          obtain ⟨m, hm, rfl, hO, hGA⟩ := hrel
          obtain ⟨oa, oc, rfl⟩ := row_shape hO.out.row.1
          by_cases hlt : m < n
          · have hmQ : m < Q.length := by rw [hn.out]; exact hlt
            obtain ⟨c1, c2, c3, c4⟩ := hGA.out.row.cell hmQ
            have hml := hGA.out.row.lt
            have htk := memI_take (N := N) hmQ
            obtain ⟨d, hd⟩ : ∃ d, Hid ((N.getD (Q.getD m 0) nd0).id = d) := ⟨_, Lib.hid rfl⟩
            rw [hd.out] at c1 c2 htk
            obtain ⟨p, q⟩ := d
            dsimp only at c1 c2
            have htk := Lib.hid htk
            obtain ⟨sq, hsq⟩ : ∃ x, (N.getD (Q.getD m 0) nd0).seq = x := ⟨_, rfl⟩
            obtain ⟨⟨ua, un, uc⟩, hu⟩ : ∃ x, U (Q.getD m 0) = x := ⟨_, rfl⟩
            rw [hsq] at c3
            rw [hu] at c4
            dsimp only at c4
            clear hsq hu
            have hO2 := Lib.hid (hO.out.up ((Below.refl wr.heap.size wr).alloc (Nat.le_refl _) (.cells #[.int .i64 p, .int .i64 q, .int .i64 sq, .slice ua un uc] 33)))
            have hG2 := Lib.hid (hGA.out.kb (w' := wr.alloc (.cells #[.int .i64 p, .int .i64 q, .int .i64 sq, .slice ua un uc] 33)) (fun b hb => (Below.heap_alloc _ _ _ (hb.elim (fun x => x.lt) (fun x => x.lt)))))
            obtain ⟨A2, hA2⟩ : ∃ L, Hid (A ++ memI N (Q.take m) = L) := ⟨_, Lib.hid rfl⟩
            have hA2l : A2.length ≤ 12 := by rw [← hA2.out, List.length_append, memI_len, List.length_take]; omega
            have hA3 := Lib.hid (show A ++ memI N (Q.take (m + 1)) = A2 ++ [(p, q)] by rw [htk.out, ← List.append_assoc, hA2.out])
            rw [hA2.out] at hO2 ⊢
            have hwl : w.heap.size ≤ wr.heap.size := hO.out.bel.size
            clear hO hGA htk
            go_wp2_with (at_builtin; refine wpList_append_own _ rfl _ _ 25 rfl w.heap.size 31 i0 (.agg #[.int .i64 0, .int .i64 0]) 2 16 Try.underlying25 hi hz0 hz1 hz2 rfl (by decide) _ _ _ rfl (hO2.out.row.1.alloc _) ⟨wr.heap.size + 1, 0, none⟩ 1 1 [.int .i64 p, .int .i64 q] rfl rfl ?c1 ?c2 ?c3 ?c4 ?c5 ?_)
            case c1 => exact two_cells _ _ _ _ _ (by simp)
            case c2 => intro u hu; simp at hu; rcases hu with rfl | rfl <;> rfl
            case c3 => unfold maxLen; omega
            case c4 => omega
            case c5 => simp; omega
            intro v' w4 hown' hgrow hnil
            obtain ⟨hO4, hk4⟩ := hO2.out.push hown' hgrow (fun e => hnil e)
            have hG4 := Lib.hid (hG2.out.kb hk4)
            rw [← hA3.out] at hO4
            have hO4 := Lib.hid hO4
            clear hown' hgrow hnil hk4 hO2 hG2
            go_wp2_with fail
            refine ⟨⟨m + 1, by omega, by go_num, hO4, hG4⟩, ?_⟩
            simp [intOf]; omega
          · obtain rfl : m = n := by omega
            have hQt : Q.take m = Q := by rw [← hn.out]; exact List.take_length
            rw [hQt] at hO ⊢
            obtain ⟨s0, s1, s2, s3, s4⟩ := hO.out.rb.five
            have sl := hO.out.rb.lt
            obtain ⟨f1, f2, f3, f4, f5⟩ := hGA.out.gb.fs
            have gl := hGA.out.gb.lt
            have sj := fun W => join_any (nrm R) (nrm f) W hB.out.nrm_lt hbf.out.nrm_lt
            obtain ⟨jq, hjq⟩ : ∃ j, Hid (joinF (nrm R) (nrm f) = j) := ⟨_, Lib.hid rfl⟩
            rw [hjq.out, nrm_set, nrm_set] at sj
            unfold setV at sj
            have hJ : Hid (Bits jq (fun x => x ∈ A ++ memI N Q)) := Lib.hid (by rw [← hjq.out]; exact (hB.out.nrm.join hbf.out.nrm).ext fun x => by rw [List.mem_append, hMm.out])
            have hlen : (A ++ memI N Q).length = A.length + m := by rw [List.length_append, memI_len, hn.out]
            obtain ⟨A2, hA2⟩ : ∃ L, Hid (A ++ memI N Q = L) := ⟨_, Lib.hid rfl⟩
            rw [hA2.out] at hO hJ hP2 hlen ⊢
            replace hlen := Lib.hid hlen
            go_wp2_with fail
            go_region_with (go_at_call 34; (with_reducible refine (sj _).mono ?_); rintro e w9 ⟨rfl, hb⟩; have O9 := Lib.hid ((hO.out.up (Below.drew (Below.refl _ _))).up hb); obtain ⟨s0, s1, s2, s3, s4⟩ := O9.out.rb.five; have sl := O9.out.rb.lt; have q0 := O9.out.rb.free 0; have q1 := O9.out.rb.free 1; have q2 := O9.out.rb.free 2; have q3 := O9.out.rb.free 3; have q4 := O9.out.rb.free 4; clear hb hO hGA f1 f2 f3 f4 f5 gl)
            all_goals
              obtain ⟨W10, hW10⟩ : ∃ W, ((((w9.setCell ⟨xb, 0, none⟩ (.int .u64 (jq 0))).setCell ⟨xb, 1, none⟩ (.int .u64 (jq 1))).setCell ⟨xb, 2, none⟩ (.int .u64 (jq 2))).setCell ⟨xb, 3, none⟩ (.int .u64 (jq 3))).setCell ⟨xb, 4, none⟩ (.int .u64 (jq 4)) = W := ⟨_, rfl⟩
              have O10 := O9.out.fill jq
              rw [hW10] at O10 ⊢
              obtain ⟨s0, s1, s2, s3, s4⟩ := O10.rb.five
              have sl := O10.rb.lt
              have sf := sfree_any w.heap.size gv gs N U H jq (fun x => x ∈ A2) _ hv.out O10.grow hgl.out O10.gh hJ.out hP2.out.1
              unfold setV at sf
              have O10 := Lib.hid O10
              clear hW10 O9 q0 q1 q2 q3 q4 sj
              go_wp2_with fail
              refine sf.mono ?_
              rintro e w11 ⟨gp2, rfl, hS2, hb⟩
              have hS2 := Lib.hid hS2
              have O11 := Lib.hid (O10.out.up hb)
              clear hb O10 sf s0 s1 s2 s3 s4 sl
              go_wp2_with fail
              refine ⟨⟨A2, jq, O11, hJ, hP2, hS2⟩, ?_⟩
              have := hlen.out
              simp only [lenO]
              omega
end Go.Proofs.Ytbklkhndjckckaa

/- A queue of ids: taken from ahead, appended behind. -/
namespace Go.Proofs.Ytbklkhndjckckaa
open Go.RowKit
set_option linter.unusedVariables false

theorem setCells_exc (g : Nat) : ∀ (vs : List Value) (o : Nat) (w : World), Exc (fun b => b = g) w (w.setCells g o vs)
  | [], o, w => Exc.refl _ _
  | v :: r, o, w => ((Exc.refl (fun b => b = g) w).set (b := g) (.inl rfl) o v).trans (setCells_exc g r (o + 1) _) (fun b _ h => h)
theorem setCells_size (g : Nat) : ∀ (vs : List Value) (o : Nat) (w : World), (w.setCells g o vs).heap.size = w.heap.size
  | [], o, w => rfl
  | v :: r, o, w => by
    show ((w.setCell ⟨g, o, none⟩ v).setCells g (o + 1) r).heap.size = _
    rw [setCells_size g r]; exact World.size_setCell _ _ _

/-- A slice of ids at some place of a block. -/
def Que (w : World) (g : Nat) (v : Value) (L : List Pid) : Prop :=
  ∃ off cap, v = .slice (some ⟨g, off, none⟩) L.length cap ∧ g < w.heap.size ∧ L.length ≤ cap ∧ cap ≤ maxLen ∧ (∀ j, j < L.length * 2 → w.cell? ⟨g, off + j, none⟩ = (flatP L)[j]?) ∧ ∀ j, j < cap * 2 → (w.cell? ⟨g, off + j, none⟩).isSome = true ∧ w.frozen? ⟨g, off + j, none⟩ = false
theorem Que.lt {w : World} {g : Nat} {v : Value} {L : List Pid} (h : Que w g v L) : g < w.heap.size := by obtain ⟨_, _, _, h, _⟩ := h; exact h
theorem Que.shape {w : World} {g : Nat} {v : Value} {L : List Pid} (h : Que w g v L) : ∃ off cap, v = .slice (some ⟨g, off, none⟩) L.length cap ∧ L.length ≤ cap := by obtain ⟨o, c, e, _, h, _⟩ := h; exact ⟨o, c, e, h⟩
theorem Que.same {w w' : World} {g : Nat} {v : Value} {L : List Pid} (h : Que w g v L) (hb : w'.heap[g]? = w.heap[g]?) (hs : w.heap.size ≤ w'.heap.size) : Que w' g v L := by
  obtain ⟨off, cap, e, h2, h3, h4, h5, h6⟩ := h
  refine ⟨off, cap, e, Nat.lt_of_lt_of_le h2 hs, h3, h4, fun j hj => ?_, fun j hj => ?_⟩
  · rw [World.cell?_of_block (a := ⟨g, off + j, none⟩) hb]; exact h5 j hj
  · rw [World.cell?_of_block (a := ⟨g, off + j, none⟩) hb, World.frozen?_of_block (a := ⟨g, off + j, none⟩) hb]; exact h6 j hj
theorem Que.up {w w' : World} {g : Nat} {v : Value} {L : List Pid} (h : Que w g v L) (hb : Below w.heap.size w w') : Que w' g v L := h.same (hb.block g h.lt) hb.size
theorem que_new (w : World) : Que (w.alloc (.cells #[] 31)) w.heap.size (.slice (some ⟨w.heap.size, 0, none⟩) 0 0) [] :=
  ⟨0, 0, rfl, by simp, Nat.le_refl _, Nat.zero_le _, fun j hj => absurd hj (by simp), fun j hj => absurd hj (by simp)⟩
theorem Que.read {w : World} {g : Nat} {v : Value} {L : List Pid} (h : Que w g v L) (hl : L.length ≤ 2000000) : Ids w v L := by
  obtain ⟨off, cap, rfl, h2, h3, h4, h5, h6⟩ := h
  refine ⟨_, cap, rfl, h3, hl, .inr ⟨g, off, rfl, h2, fun i hi => ?_⟩⟩
  have := flatP_get L i hi
  rw [show (⟨g, off + i * 2 + 1, none⟩ : Addr) = ⟨g, off + (i * 2 + 1), none⟩ from rfl, h5 _ (by omega), h5 _ (by omega)]
  exact this
/-- The first one is taken. -/
theorem Que.pop {w : World} {g off cap : Nat} {a : Pid} {L : List Pid} (h : Que w g (.slice (some ⟨g, off, none⟩) (L.length + 1) cap) (a :: L)) :
    (cap ≠ 1 → Que w g (.slice (some ⟨g, off + 2, none⟩) L.length (cap - 1)) L) ∧ (cap = 1 → Que w g (.slice (some ⟨g, off, none⟩) L.length 0) L) := by
  obtain ⟨off', cap', e, h2, h3, h4, h5, h6⟩ := h
  injection e with e1 e2 e3
  injection e1 with e1
  injection e1 with e4 e5
  subst e3; subst e5
  have hs : ∀ j, (flatP (a :: L))[j + 2]? = (flatP L)[j]? := fun j => by simp [flatP, idv]
  have h3' : L.length + 1 ≤ cap := by simpa using h3
  constructor
  · intro hc
    refine ⟨off + 2, cap - 1, rfl, h2, by omega, by omega, fun j hj => ?_, fun j hj => ?_⟩
    · rw [Nat.add_assoc, Nat.add_comm 2 j, h5 (j + 2) (by simp; omega), hs]
    · rw [Nat.add_assoc, Nat.add_comm 2 j]; exact h6 (j + 2) (by omega)
  · intro hc
    have : L = [] := List.eq_nil_of_length_eq_zero (by omega)
    subst this
    exact ⟨off, 0, rfl, h2, by simp, by omega, fun j hj => absurd hj (by simp), fun j hj => absurd hj (by simp)⟩

/-- Ids as what is appended. -/
theorem ids_src {P : Program} {w : World} {v : Value} {M : List Pid} {t e : TypeId} (hk : P.underlying t = some (.slice e)) (h : Ids w v M) : Src P 2 t v M.length (flatP M) w := by
  obtain ⟨a, cap, rfl, h1, h2, h3⟩ := h
  cases a with
  | none =>
    rcases h3 with h3 | ⟨b, off, e, _⟩
    · have : M = [] := List.eq_nil_of_length_eq_zero h3
      subst this
      exact Src.ofNil w hk cap
    · cases e
  | some a =>
    refine Src.ofSlice w hk a M.length cap (flatP M) (flatP_len M) (fun j u hu => ?_) (flatP_one M)
    rcases h3 with h3 | ⟨b, off, e, _, h4⟩
    · have : M = [] := List.eq_nil_of_length_eq_zero h3
      subst this
      simp [flatP] at hu
    · cases e
      have hj : j < M.length * 2 := by
        have := (List.getElem?_eq_some_iff.1 hu).1
        rw [flatP_len] at this; exact this
      obtain ⟨q1, q2⟩ := h4 (j / 2) (by omega)
      obtain ⟨r1, r2⟩ := flatP_get M (j / 2) (by omega)
      rw [Addr.add_lit]
      rcases Nat.mod_two_eq_zero_or_one j with e | e
      · have ej : j / 2 * 2 = j := by omega
        rw [ej] at q1 r1
        rw [q1, ← r1]; exact hu
      · have ej : j / 2 * 2 + 1 = j := by omega
        rw [Nat.add_assoc, ej] at q2; rw [ej] at r2
        rw [q2, ← r2]; exact hu

/-- Ids are appended. -/
theorem run_append_que {P : Program} (w : World) (g : Nat) (t ty : TypeId) (i : TypeInfo) (ht : P.underlying t = some (.slice 31)) (hi : P.info? 31 = some i) (hz : i.zero = some (.agg #[.int .i64 0, .int .i64 0])) (hs : i.size = 2) (hby : i.bytes = 16)
    {v x : Value} {L M : List Pid} (hq : Que w g v L) (hM : Ids w x M) (hl : L.length + M.length ≤ 1000000) :
    ∃ v' w', (Builtin.append_ #[t, t] ty #[v, x]).run P w = .ok v' w' ∧ ∃ g', (g' = g ∨ w.heap.size ≤ g') ∧ Que w' g' v' (L ++ M) ∧ Exc (fun b => b = g) w w' := by
  have src := ids_src ht hM
  obtain ⟨off, cap, rfl, h2, h3, h4, h5, h6⟩ := hq
  have fl := flatP_len M
  by_cases hr : L.length + M.length ≤ cap
  · have hsome : ∀ j, j < (flatP M).length → (w.cell? ⟨g, off + L.length * 2 + j, none⟩).isSome = true := fun j hj => by rw [Nat.add_assoc]; exact (h6 _ (by omega)).1
    have hrun := run_append_room_src (P := P) w t t ty _ i ht hi g off L.length cap x M.length (flatP M) (by rw [hs]; exact src) hr
      (fun j hj => by rw [hs]; exact hsome j hj) (fun j hj => by rw [hs, Nat.add_assoc]; exact (h6 _ (by omega)).2)
    rw [hs] at hrun
    have hin := World.cell?_setCells_in g (flatP M) (off + L.length * 2) w hsome
    refine ⟨_, _, hrun, g, .inl rfl, ⟨off, cap, by rw [List.length_append], by rw [setCells_size]; exact h2, by rw [List.length_append]; exact hr, h4, fun j hj => ?_, fun j hj => ⟨?_, ?_⟩⟩, setCells_exc g _ _ _⟩
    · rw [flatP_app]
      rw [List.length_append] at hj
      by_cases hjl : j < L.length * 2
      · rw [World.cell?_setCells_out g _ _ _ _ (fun _ _ => Or.inl (by show off + j < off + L.length * 2; omega)), List.getElem?_append_left (by rw [flatP_len]; exact hjl)]
        exact h5 j hjl
      · have := hin (j - L.length * 2) (by omega)
        rw [show off + L.length * 2 + (j - L.length * 2) = off + j by omega] at this
        rw [List.getElem?_append_right (by rw [flatP_len]; omega), flatP_len]; exact this.trans (List.getElem?_eq_getElem (by omega)).symm
    · by_cases hjl : L.length * 2 ≤ j ∧ j < L.length * 2 + M.length * 2
      · have := hin (j - L.length * 2) (by omega)
        rw [show off + L.length * 2 + (j - L.length * 2) = off + j by omega] at this
        rw [this]; rfl
      · rw [World.cell?_setCells_out g _ _ _ _ (fun _ _ => by show off + j < off + L.length * 2 ∨ off + L.length * 2 + (flatP M).length ≤ off + j; omega)]
        exact (h6 j hj).1
    · rw [World.frozen?_setCells]; exact (h6 j hj).2
  · have hold : (Builtin.firstCells i.size L.length (.slice (some ⟨g, off, none⟩) L.length cap)).run P w.drew = .ok (flatP L).toArray w.drew := by
      rw [hs]
      refine run_firstCells_some w.drew 2 L.length ⟨g, off, none⟩ L.length cap (flatP L) (flatP_len L) (fun j u hu => ?_)
      rw [Addr.add_lit]
      have hj := (List.getElem?_eq_some_iff.1 hu).1
      rw [flatP_len] at hj
      exact (h5 j hj).trans hu
    have hrun := run_append_grow_src (P := P) w t t ty _ i _ ht hi hz (some ⟨g, off, none⟩) L.length cap (flatP L) hold x M.length (flatP M) (by rw [hs]; exact src) (by omega) (by omega) (by rw [hby]; exact growslice_fits (by omega) (by omega))
    have hge := grownCap_ge w (L.length + M.length) cap 31
    have hcm := grownCap_le_maxLen w (L.length + M.length) cap 31 (by unfold maxLen; omega)
    have hcell : ∀ j, (w.drew.alloc (.cells ((flatP L ++ flatP M).toArray ++ Builtin.zeroCells (Value.cells (.agg #[.int .i64 0, .int .i64 0])) (grownCap w (L.length + M.length) cap 31 - (L.length + M.length))) 31)).cell? ⟨w.heap.size, 0 + j, none⟩ = ((flatP L ++ flatP M).toArray ++ Builtin.zeroCells (Value.cells (.agg #[.int .i64 0, .int .i64 0])) (grownCap w (L.length + M.length) cap 31 - (L.length + M.length)))[j]? := fun j => by
      rw [Nat.zero_add]; exact World.cell?_alloc_new w.drew _ _ j
    have hsz : ((flatP L ++ flatP M).toArray ++ Builtin.zeroCells (Value.cells (.agg #[.int .i64 0, .int .i64 0])) (grownCap w (L.length + M.length) cap 31 - (L.length + M.length))).size = grownCap w (L.length + M.length) cap 31 * 2 := by
      rw [Array.size_append, List.size_toArray, List.length_append, flatP_len, flatP_len, size_zeroCells]
      show _ + _ * 2 = _
      omega
    refine ⟨_, _, hrun, w.heap.size, .inr (Nat.le_refl _), ⟨0, _, by rw [List.length_append], by simp, by rw [List.length_append]; exact hge, hcm, fun j hj => ?_, fun j hj => ⟨?_, ?_⟩⟩, ((Exc.refl _ w).drew).alloc _⟩
    · rw [hcell, flatP_app]
      rw [List.length_append] at hj
      rw [Array.getElem?_append_left (by simp only [List.size_toArray, List.length_append, flatP_len]; omega), List.getElem?_toArray]
    · rw [hcell, Array.getElem?_eq_getElem (by rw [hsz]; exact hj)]; rfl
    · exact World.frozen?_alloc_new w.drew _ _ _

theorem wpList_append_que {P : Program} (w : World) {ops : Array Oper} {rest : List Oper} {o : Oper} {a : Act} {Q : Exit → Act → World → Prop} (hgd : o.guard = none) (s x : Operand) (t : TypeId)
    (ho : o.op = .call { callee := .builtin .append, args := #[s, x], argTypes := #[t, t] }) (g : Nat) (i : TypeInfo) (ht : P.underlying t = some (.slice 31)) (hi : P.info? 31 = some i) (hz : i.zero = some (.agg #[.int .i64 0, .int .i64 0])) (hs : i.size = 2) (hby : i.bytes = 16)
    (v xv : Value) (L M : List Pid) (hv : a.eval s = v) (hx : a.eval x = xv) (hq : Que w g v L) (hM : Ids w xv M) (hl : L.length + M.length ≤ 1000000)
    (h : ∀ v' w' g', Hid ((g' = g ∨ w.heap.size ≤ g') ∧ Que w' g' v' (L ++ M) ∧ Exc (fun b => b = g) w w') → wpList P ops Q rest (a.put o.dst v') w') : wpList P ops Q (o :: rest) a w := by
  refine wpList_plain hgd fun K hK => ?_
  obtain ⟨v', w', hr, g', h1, h2, h3⟩ := run_append_que (P := P) w g t o.type i ht hi hz hs hby hq hM hl
  unfold Oper.wp execOp
  simp only [ho, resolve, invoke, builtin, Sem.run_bind, Sem.run_pure, Result.andThen_ok, List.map_toArray, List.map_cons, List.map_nil, hv, hx, hr]
  exact hK _ _ (h v' w' g' (Lib.hid ⟨h1, h2, h3⟩))
end Go.Proofs.Ytbklkhndjckckaa

/- The model's l5At. -/
namespace Go.Proofs.Ytbklkhndjckckaa
open Go.RowKit
set_option linter.unusedVariables false

/-- Where a node is. -/
def AtP (N : List Nd) (a : Pid) (z : Int) : Prop := (z = -1 ∧ ¬ a ∈ idsN N) ∨ ∃ k : Nat, z = k ∧ k < N.length ∧ (N.getD k nd0).id = a
theorem AtP.none {N : List Nd} {a : Pid} (h : ∀ j, j < N.length → ¬ (N.getD j nd0).id = a) : AtP N a (-1) := by
  refine .inl ⟨rfl, fun hm => ?_⟩
  obtain ⟨k, hk, e⟩ := mem_idsN.1 hm
  exact h k hk e

set_option maxRecDepth 100000 in
set_option maxHeartbeats 2000000 in
theorem sat_at (b off ca : Nat) (N : List Nd) (x y : Int) (w : World) (hb : b < w.heap.size) (hm : N.length ≤ 2000000) (h : ∀ i, i < N.length → NdIn w b (off + i * 4) (N.getD i nd0)) :
    Calls Try.prog 53 #[.slice (some ⟨b, off, none⟩) N.length ca, .agg #[.int .i64 x, .int .i64 y]] w fun e w' => (∃ z, e = .returned (.int .i64 z) ∧ AtP N (x, y) z) ∧ Below w.heap.size w w' := by
  have h := Lib.hid h
  obtain ⟨n, hn⟩ : ∃ n, Hid (N.length = n) := ⟨_, Lib.hid rfl⟩
  rw [hn.out] at hm ⊢
  go_enter Try.func53, Try.ntmps53
  go_wp2_with fail
  go_loopw [5] (fun i wr => ∃ k : Nat, k ≤ n ∧ i = .int .i64 k ∧ Hid (∀ j, j < k → ¬ (N.getD j nd0).id = (x, y)) ∧ wr.cell? ⟨w.heap.size, 0, none⟩ = some (.int .i64 x) ∧ wr.cell? ⟨w.heap.size, 1, none⟩ = some (.int .i64 y) ∧ Below w.heap.size w wr) (fun i _ => n - (intOf i).toNat)
  case atStart => exact ⟨0, Nat.zero_le _, rfl, Lib.hid (fun j hj => absurd hj (Nat.not_lt_zero _)), by go_simp, by go_simp, (Below.refl _ _).alloc (Nat.le_refl _) _⟩
  case round =>
    obtain ⟨k, hk, rfl, hno, x0, x1, hnx⟩ := hrel
    by_cases hlt : k < n
    · obtain ⟨_, _, _, h0, h1, _, _, _⟩ := h.out k (by rw [hn.out]; exact hlt)
      have q0 := (hnx.cell (p := ⟨b, off + k * 4, none⟩) hb).trans h0
      have q1 := (hnx.cell (p := ⟨b, off + k * 4 + 1, none⟩) hb).trans h1
      clear h0 h1
      obtain ⟨c, hc⟩ : ∃ c, Hid ((N.getD k nd0).id = c) := ⟨_, Lib.hid rfl⟩
      rw [hc.out] at q0 q1
      obtain ⟨p, r⟩ := c
      dsimp only at q0 q1
      have hnx := Lib.hid hnx
      clear h
      by_cases e1 : p = x
      · subst e1
        by_cases e2 : r = y
        · subst e2
          have R := Lib.hid (show AtP N (p, r) k from .inr ⟨k, rfl, by rw [hn.out]; exact hlt, hc.out⟩)
          go_wp2_with fail
          go_quiet (fail)
          go_wp2_with fail
          go_ret
          exact ⟨⟨_, rfl, R.out⟩, bdrewN hnx.out _⟩
        · have R := Lib.hid (up_to hno.out (show ¬ (N.getD k nd0).id = (p, y) by rw [hc.out]; intro e; exact e2 (congrArg Prod.snd e)))
          go_wp2_with fail
          go_quiet (fail)
          go_wp2_with fail
          go_roundw
          case rel => exact ⟨k + 1, by omega, by go_num, R, by go_simp, by go_simp, bdrewN hnx.out _⟩
          case measure => simp [intOf]; omega
      · have R := Lib.hid (up_to hno.out (show ¬ (N.getD k nd0).id = (x, y) by rw [hc.out]; intro e; exact e1 (congrArg Prod.fst e)))
        go_wp2_with fail
        go_quiet (fail)
        go_wp2_with fail
        go_roundw
        case rel => exact ⟨k + 1, by omega, by go_num, R, by go_simp, by go_simp, bdrewN hnx.out _⟩
        case measure => simp [intOf]; omega
    · obtain rfl : k = n := by omega
      have R := Lib.hid (AtP.none (N := N) (fun j hj => hno.out j (by rw [← hn.out]; exact hj)))
      have hnx := Lib.hid hnx
      clear h hno
      go_wp2_with fail
      go_ret
      exact ⟨⟨_, rfl, R.out⟩, hnx.out⟩

theorem sat_nil (a : Option Addr) (ca : Nat) (x y : Int) (w : World) :
    Calls Try.prog 53 #[.slice a 0 ca, .agg #[.int .i64 x, .int .i64 y]] w fun e w' => (∃ z, e = .returned (.int .i64 z) ∧ AtP [] (x, y) z) ∧ Below w.heap.size w w' := by
  have R : AtP [] (x, y) (-1) := .inl ⟨rfl, by simp [idsN]⟩
  go_enter Try.func53, Try.ntmps53
  go_wp2_with fail
  refine wp_loop_rounds 1 ?_
  rw [rounds_succ]
  go_wp2_with fail
  go_ret
  exact ⟨⟨_, rfl, R⟩, (Below.refl _ _).alloc (Nat.le_refl _) _⟩

theorem sat_any (u : Value) (N : List Nd) (x y : Int) (w : World) (h : Nds w u N) :
    Calls Try.prog 53 #[u, .agg #[.int .i64 x, .int .i64 y]] w fun e w' => (∃ z, e = .returned (.int .i64 z) ∧ AtP N (x, y) z) ∧ Below w.heap.size w w' := by
  obtain ⟨a, cap, rfl, h1, h2, h3⟩ := h
  rcases h3 with h3 | ⟨b, off, rfl, h4, h5⟩
  · obtain rfl : N = [] := List.length_eq_zero_iff.1 h3
    exact sat_nil a cap x y w
  · exact sat_at b off cap N x y w h4 h2 h5
end Go.Proofs.Ytbklkhndjckckaa

/- The laws' copies of ids. -/
namespace Go.Proofs.Ytbklkhndjckckaa
open Go.RowKit
set_option linter.unusedVariables false

theorem toId_any (r n : Int) (w : World) :
    Calls Try.prog 25 #[.agg #[.int .i64 r, .int .i64 n]] w fun e w' => e = .returned (.agg #[.int .i64 r, .int .i64 n]) ∧ Below w.heap.size w w' := by
  go_enter Try.func25, Try.ntmps25
  go_wp2_with fail
  exact bodyPost_ret (v := .agg #[.int .i64 r, .int .i64 n]) (by simp [results, Try.results25, go_sem]) rfl ⟨rfl, by repeat (first | with_reducible exact Below.refl _ _ | with_reducible refine Below.setCell ?_ (by first | (simp; done) | (simp; omega)) _ | with_reducible refine Below.alloc ?_ (by first | (simp; done) | (simp; omega)) _)⟩

end Go.Proofs.Ytbklkhndjckckaa

/- The laws' copies, comparisons and marks of slices of ids. -/
namespace Go.Proofs.Ytbklkhndjckckaa
open Go.RowKit
set_option linter.unusedVariables false

theorem madeP (n j : Nat) (h : j < n * 2) : (madeCells #[.int .i64 0, .int .i64 0] (n * 2))[j]? = some (.int .i64 0) := by
  unfold madeCells
  rw [Array.getElem?_map, Array.getElem?_range]
  rw [if_pos h]
  have : j % 2 = 0 ∨ j % 2 = 1 := by omega
  rcases this with e | e <;> simp [e]

theorem repP_get (n i : Nat) : (List.replicate n nop).getD i nop = nop := by
  rw [List.getD_eq_getElem?_getD, List.getElem?_replicate]
  split <;> rfl

theorem ownP_made (w : World) (n : Nat) (hn : n ≤ 2000000) (t : TypeId) : OwnP (w.alloc (.cells (madeCells #[.int .i64 0, .int .i64 0] (n * 2)) t)) w.heap.size (.slice (some ⟨w.heap.size, 0, none⟩) n n) (List.replicate n nop) := by
  refine ⟨n, _, t, by simp, heap_alloc_new w _, by simp, by simpa using hn, fun i hi => ?_⟩
  rw [List.length_replicate] at hi
  rw [madeP n _ (by omega), madeP n _ (by omega), repP_get]
  exact ⟨rfl, rfl⟩

theorem info_id : (Try.prog.info? 31).map (fun i => (i.zero, i.size, i.bytes)) = some (some (.agg #[.int .i64 0, .int .i64 0]), 2, 16) := by kernel_rfl

theorem made_ids (n : Nat) (hn : n ≤ 2000000) (w : World) : (Instr.makeSlice 25 (.int .i64 n) (.int .i64 n)).run Try.prog w = .ok (.slice (some ⟨w.heap.size, 0, none⟩) n n) (w.alloc (.cells (madeCells #[.int .i64 0, .int .i64 0] (n * 2)) 31)) := by
  obtain ⟨i, hi, hz, hs, hb⟩ := info_parts info_id
  have hr := run_make (P := Try.prog) w 25 31 i _ Try.underlying25 hi hz .i64 .i64 n n (by omega) (Int.le_refl _) (by rw [hb]; omega) (by omega)
  simp only [Int.toNat_natCast, hs] at hr
  exact hr

theorem id_same {A B : List Pid} (hl : A.length = B.length) (h : ∀ j, j < A.length → A.getD j nop = B.getD j nop) : A = B := by
  apply List.ext_getElem hl
  intro i h1 h2
  have := h i h1
  rw [List.getD_eq_getElem?_getD, List.getD_eq_getElem?_getD, List.getElem?_eq_getElem h1, List.getElem?_eq_getElem h2] at this
  simpa using this
theorem id_up {M C : List Pid} {k : Nat} (hM : k < M.length) (h : ∀ j, j < k → M.getD j nop = C.getD j nop) : ∀ j, j < k + 1 → (M.set k (C.getD k nop)).getD j nop = C.getD j nop := by
  intro j hj
  by_cases e : j = k
  · subst e; rw [List.getD_eq_getElem?_getD, List.getElem?_set_self hM]; rfl
  · rw [List.getD_eq_getElem?_getD, List.getElem?_set_ne (fun x => e x.symm), ← List.getD_eq_getElem?_getD]; exact h j (by omega)

/-- What toIdS leaves: a copy in a block of its own. -/
def CopPPost (C : List Pid) (w : World) (e : Ending) (w' : World) : Prop :=
  ∃ b u, w.heap.size ≤ b ∧ e = .returned u ∧ OwnP w' b u C ∧ Below w.heap.size w w'

set_option maxRecDepth 100000 in
set_option maxHeartbeats 2000000 in
theorem toP_at (b off ca : Nat) (C : List Pid) (w : World) (hb : b < w.heap.size) (hm : C.length ≤ 2000000) (h : ∀ i, i < C.length → w.cell? ⟨b, off + i * 2, none⟩ = some (.int .i64 (C.getD i nop).1) ∧ w.cell? ⟨b, off + i * 2 + 1, none⟩ = some (.int .i64 (C.getD i nop).2)) :
    Calls Try.prog 68 #[.slice (some ⟨b, off, none⟩) C.length ca] w (CopPPost C w) := by
  have hmk := made_ids C.length hm
  have h := Lib.hid h
  have hO := Lib.hid (ownP_made w C.length hm 31)
  obtain ⟨n, hn⟩ : ∃ n, Hid (C.length = n) := ⟨_, Lib.hid rfl⟩
  rw [hn.out] at hmk hm hO ⊢
  go_enter Try.func68, Try.ntmps68
  go_wp2_with fail
  clear hmk
  go_loopw [4] (fun i wr => ∃ k : Nat, k ≤ n ∧ i = .int .i64 k ∧ ∃ M : List Pid, Hid (M.length = n ∧ (∀ j, j < k → M.getD j nop = C.getD j nop) ∧ OwnP wr w.heap.size (.slice (some ⟨w.heap.size, 0, none⟩) n n) M) ∧ Below w.heap.size w wr) (fun i _ => n - (intOf i).toNat)
  case atStart => exact ⟨0, Nat.zero_le _, rfl, List.replicate n nop, Lib.hid ⟨by simp, fun j hj => absurd hj (Nat.not_lt_zero _), hO.out⟩, (Below.refl _ _).alloc (Nat.le_refl _) _⟩
  case round =>
    obtain ⟨k, hk, rfl, M, hM, hnx⟩ := hrel
    clear hO
    by_cases hlt : k < n
    · obtain ⟨h0, h1⟩ := h.out k (by rw [hn.out]; exact hlt)
      have q0 := (hnx.cell (p := ⟨b, off + k * 2, none⟩) hb).trans h0
      have q1 := (hnx.cell (p := ⟨b, off + k * 2 + 1, none⟩) hb).trans h1
      clear h0 h1
      obtain ⟨c, hc⟩ : ∃ c, Hid (C.getD k nop = c) := ⟨_, Lib.hid rfl⟩
      rw [hc.out] at q0 q1
      obtain ⟨x, y⟩ := c
      dsimp only at q0 q1
      have hs := Lib.hid hM.out.2.2.lt
      have hnx := Lib.hid hnx
      go_wp2_with fail
      refine (toId_any x y _).mono ?_
      rintro e w1 ⟨rfl, B⟩
      have hO1 := hM.out.2.2.up B hs.out
      obtain ⟨d0, d1⟩ := hO1.cell k (by rw [hM.out.1]; exact hlt)
      have f0 := hO1.free (k * 2)
      have f1 := hO1.free (k * 2 + 1)
      have hs1 := hO1.lt
      have R := Lib.hid (hO1.set k (by rw [hM.out.1]; exact hlt) (x, y))
      have R2 := Lib.hid (id_up (C := C) (by rw [hM.out.1]; exact hlt) hM.out.2.1)
      have hl := Lib.hid hM.out.1
      have D1 := Lib.hid (hnx.out.trans (B.mono hnx.out.size))
      generalize M.getD k nop = y0 at d0 d1
      clear hM h hO1 B hnx q0 q1 hs
      go_wp2_with fail
      go_roundw
      case rel => exact ⟨k + 1, by omega, by go_num, M.set k (x, y), Lib.hid ⟨by rw [List.length_set]; exact hl.out, by rw [← hc.out]; exact R2.out, R.out⟩, (D1.out.setCell (by simp) _).setCell (by simp) _⟩
      case measure => simp [intOf]; omega
    · obtain rfl : k = n := by omega
      have e : Hid (M = C) := Lib.hid (id_same (hM.out.1.trans hn.out.symm) (fun j hj => hM.out.2.1 j (by rw [← hM.out.1]; exact hj)))
      have hnx := Lib.hid hnx
      clear h
      go_wp2_with fail
      go_ret
      exact ⟨w.heap.size, _, Nat.le_refl _, rfl, by rw [← e.out]; exact hM.out.2.2, hnx.out⟩

theorem toP_nil (a : Option Addr) (ca : Nat) (w : World) :
    Calls Try.prog 68 #[.slice a 0 ca] w (CopPPost [] w) := by
  have hmk : ∀ w : World, (Instr.makeSlice 25 (.int .i64 0) (.int .i64 0)).run Try.prog w = .ok (.slice (some ⟨w.heap.size, 0, none⟩) 0 0) (w.alloc (.cells (madeCells #[.int .i64 0, .int .i64 0] (0 * 2)) 31)) := made_ids 0 (by omega)
  have hO := Lib.hid (ownP_made w 0 (by omega) 31)
  go_enter Try.func68, Try.ntmps68
  go_wp2_with fail
  refine wp_loop_rounds 1 ?_
  rw [rounds_succ]
  go_wp2_with fail
  go_ret
  exact ⟨w.heap.size, _, Nat.le_refl _, rfl, hO.out, (Below.refl _ _).alloc (Nat.le_refl _) _⟩

/-- A COPY. -/
theorem toP_any (u : Value) (C : List Pid) (w : World) (h : Ids w u C) :
    Calls Try.prog 68 #[u] w (CopPPost C w) := by
  obtain ⟨a, cap, rfl, h1, h2, h3⟩ := h
  rcases h3 with h3 | ⟨b, off, rfl, h4, h5⟩
  · obtain rfl : C = [] := List.length_eq_zero_iff.1 h3
    exact toP_nil a cap w
  · exact toP_at b off cap C w h4 h2 h5

theorem eqP1 (x y : Int) (w : World) :
    Calls Try.prog 54 #[.agg #[.int .i64 x, .int .i64 y], .agg #[.int .i64 x, .int .i64 y]] w fun e w' => e = .returned (.bool true) ∧ Below w.heap.size w w' := by
  go_enter Try.func54, Try.ntmps54
  go_wp2_with fail
  go_ret
  exact ⟨rfl, ((Below.refl _ _).alloc (Nat.le_refl _) _).alloc (by simp) _⟩

set_option maxRecDepth 100000 in
set_option maxHeartbeats 2000000 in
theorem eqP_at (a b oa ob ca cb : Nat) (C : List Pid) (w : World) (hm : C.length ≤ 2000000) (ha : a < w.heap.size) (hb : b < w.heap.size)
    (hA : ∀ i, i < C.length → w.cell? ⟨a, oa + i * 2, none⟩ = some (.int .i64 (C.getD i nop).1) ∧ w.cell? ⟨a, oa + i * 2 + 1, none⟩ = some (.int .i64 (C.getD i nop).2))
    (hB : ∀ i, i < C.length → w.cell? ⟨b, ob + i * 2, none⟩ = some (.int .i64 (C.getD i nop).1) ∧ w.cell? ⟨b, ob + i * 2 + 1, none⟩ = some (.int .i64 (C.getD i nop).2)) :
    Calls Try.prog 26 #[.slice (some ⟨a, oa, none⟩) C.length ca, .slice (some ⟨b, ob, none⟩) C.length cb] w fun e w' => e = .returned (.bool true) ∧ Below w.heap.size w w' := by
  have hA := Lib.hid hA
  have hB := Lib.hid hB
  obtain ⟨n, hn⟩ : ∃ n, Hid (C.length = n) := ⟨_, Lib.hid rfl⟩
  rw [hn.out] at hm ⊢
  go_enter Try.func26, Try.ntmps26
  go_wp2_with fail
  go_loopw [5] (fun i wr => ∃ k : Nat, k ≤ n ∧ i = .int .i64 k ∧ Below w.heap.size w wr) (fun i _ => n - (intOf i).toNat)
  case atStart => exact ⟨0, Nat.zero_le _, rfl, Below.refl _ _⟩
  case round =>
    obtain ⟨k, hk, rfl, hnx⟩ := hrel
    by_cases hlt : k < n
    · obtain ⟨h0, h1⟩ := hA.out k (by rw [hn.out]; exact hlt)
      have q0 := (hnx.cell (p := ⟨a, oa + k * 2, none⟩) ha).trans h0
      have q1 := (hnx.cell (p := ⟨a, oa + k * 2 + 1, none⟩) ha).trans h1
      clear h0 h1
      obtain ⟨h0, h1⟩ := hB.out k (by rw [hn.out]; exact hlt)
      have r0 := (hnx.cell (p := ⟨b, ob + k * 2, none⟩) hb).trans h0
      have r1 := (hnx.cell (p := ⟨b, ob + k * 2 + 1, none⟩) hb).trans h1
      clear h0 h1 hA hB
      generalize C.getD k nop = c at q0 q1 r0 r1
      obtain ⟨x, y⟩ := c
      dsimp only at q0 q1 r0 r1
      have hnx := Lib.hid hnx
      go_wp2_with fail
      go_region_with (first | (go_at_call 54; refine (eqP1 x y _).mono ?_; rintro e w1 ⟨rfl, B⟩; have D1 := Lib.hid (bstep (Below.drew hnx.out) B); clear B))
      all_goals
        go_wp2_with fail
        go_roundw
        case rel => exact ⟨k + 1, by omega, by go_num, D1.out⟩
        case measure => simp [intOf]; omega
    · obtain rfl : k = n := by omega
      have hnx := Lib.hid hnx
      clear hA hB
      go_wp2_with fail
      go_ret
      exact ⟨rfl, hnx.out⟩

theorem eqP_nil (a b : Option Addr) (ca cb : Nat) (w : World) :
    Calls Try.prog 26 #[.slice a 0 ca, .slice b 0 cb] w fun e w' => e = .returned (.bool true) ∧ Below w.heap.size w w' := by
  go_enter Try.func26, Try.ntmps26
  go_wp2_with fail
  refine wp_loop_rounds 1 ?_
  rw [rounds_succ]
  go_wp2_with fail
  go_ret
  exact ⟨rfl, Below.refl _ _⟩

theorem eqP_any (u x : Value) (C : List Pid) (w : World) (h : Ids w u C) (g : Ids w x C) :
    Calls Try.prog 26 #[u, x] w fun e w' => e = .returned (.bool true) ∧ Below w.heap.size w w' := by
  obtain ⟨a, cap, rfl, h1, h2, h3⟩ := h
  obtain ⟨b, cap', rfl, g1, g2, g3⟩ := g
  rcases h3 with h3 | ⟨a, off, rfl, h4, h5⟩
  · obtain rfl : C = [] := List.length_eq_zero_iff.1 h3
    exact eqP_nil a b cap cap' w
  · rcases g3 with g3 | ⟨b, off', rfl, g4, g5⟩
    · obtain rfl : C = [] := List.length_eq_zero_iff.1 g3
      exact eqP_nil _ b cap cap' w
    · exact eqP_at a b off off' cap cap' C w h2 h4 g4 h5 g5
end Go.Proofs.Ytbklkhndjckckaa

/- The laws' copies of nodes. -/
namespace Go.Proofs.Ytbklkhndjckckaa
open Go.RowKit
set_option linter.unusedVariables false

/-- A slice of nodes in a block of its own, with lists in blocks of their own, all from B on. -/
def NdO (w : World) (B : Nat) (v : Value) (N : List Nd) : Prop :=
  ∃ g cap cur t, v = .slice (some ⟨g, 0, none⟩) N.length cap ∧ B ≤ g ∧ w.heap[g]? = some (.cells cur t (0, 0)) ∧ N.length ≤ cap ∧ N.length ≤ 2000000 ∧
    ∀ i, i < N.length → cur[i * 4]? = some (.int .i64 (N.getD i nd0).id.1) ∧ cur[i * 4 + 1]? = some (.int .i64 (N.getD i nd0).id.2) ∧ cur[i * 4 + 2]? = some (.int .i64 (N.getD i nd0).seq) ∧ ∃ b u, B ≤ b ∧ b ≠ g ∧ cur[i * 4 + 3]? = some u ∧ OwnP w b u (N.getD i nd0).deps
theorem NdO.read {w : World} {B : Nat} {v : Value} {N : List Nd} (h : NdO w B v N) : Nds w v N := by
  obtain ⟨g, cap, cur, t, rfl, _, hg, h1, h2, h3⟩ := h
  refine ⟨_, cap, rfl, h1, h2, .inr ⟨g, 0, rfl, lt_of_heap hg, fun i hi => ?_⟩⟩
  obtain ⟨c0, c1, c2, b, u, _, _, c3, ho⟩ := h3 i hi
  obtain ⟨uc, rfl, _⟩ := ho.shape
  refine ⟨_, _, uc, ?_, ?_, ?_, ?_, ho.read⟩ <;> rw [Nat.zero_add, cell_of_cells hg] <;> assumption
theorem NdO.up {w w' : World} {B : Nat} {v : Value} {N : List Nd} (h : NdO w B v N) (hb : Below w.heap.size w w') : NdO w' B v N := by
  obtain ⟨g, cap, cur, t, rfl, h0, hg, h1, h2, h3⟩ := h
  refine ⟨g, cap, cur, t, rfl, h0, (hb.block g (lt_of_heap hg)).trans hg, h1, h2, fun i hi => ?_⟩
  obtain ⟨c0, c1, c2, b, u, q1, q2, c3, ho⟩ := h3 i hi
  exact ⟨c0, c1, c2, b, u, q1, q2, c3, ho.up hb ho.lt⟩

theorem info_nd : (Try.prog.info? 33).map (fun i => (i.zero, i.size, i.bytes)) = some (some (.agg #[.int .i64 0, .int .i64 0, .int .i64 0, .slice none 0 0]), 4, 48) := by kernel_rfl
theorem made_nds (n : Nat) (hn : n ≤ 2000000) (w : World) : (Instr.makeSlice 23 (.int .i64 n) (.int .i64 n)).run Try.prog w = .ok (.slice (some ⟨w.heap.size, 0, none⟩) n n) (w.alloc (.cells (madeCells #[.int .i64 0, .int .i64 0, .int .i64 0, .slice none 0 0] (n * 4)) 33)) := by
  obtain ⟨i, hi, hz, hs, hb⟩ := info_parts info_nd
  have hr := run_make (P := Try.prog) w 23 33 i _ Try.underlying23 hi hz .i64 .i64 n n (by omega) (Int.le_refl _) (by rw [hb]; omega) (by omega)
  simp only [Int.toNat_natCast, hs] at hr
  exact hr

theorem hold {w : World} {o x : Obj} {b : Nat} (h : w.heap[b]? = some x) : (w.alloc o).heap[b]? = some x := (Below.heap_alloc _ _ _ (lt_of_heap h)).trans h

theorem nd_res (tm : Array Value) (w : World) (b : Nat) (x y z u : Value) (t : TypeId) (h2 : tm[2]? = some (.pointer (some ⟨b, 0, none⟩))) (h : w.heap[b]? = some (.cells #[x, y, z, u] t (0, 0))) :
    (results Try.f51 tm).run Try.prog w = .ok (.agg #[x, y, z, u]) w := by
  obtain ⟨t0, t1, t2, t3⟩ := four_cells h
  simp [results, Try.results51, go_sem, h2, t0, t1, t2, t3]

/-- A node's copy. -/
def NdCPost (x : Nd) (w : World) (e : Ending) (w' : World) : Prop :=
  ∃ b cap, w.heap.size ≤ b ∧ e = .returned (.agg #[.int .i64 x.id.1, .int .i64 x.id.2, .int .i64 x.seq, .slice (some ⟨b, 0, none⟩) x.deps.length cap]) ∧ OwnP w' b (.slice (some ⟨b, 0, none⟩) x.deps.length cap) x.deps ∧ Below w.heap.size w w'

set_option maxRecDepth 100000 in
set_option maxHeartbeats 2000000 in
theorem toN_any (x : Nd) (u : Value) (w : World) (h : Ids w u x.deps) :
    Calls Try.prog 51 #[ndv x u] w (NdCPost x w) := by
  have sc := fun W (hb : Below w.heap.size w W) => toP_any u x.deps W (h.up hb (Nat.le_refl _))
  obtain ⟨ua, uc, rfl, _⟩ := h
  obtain ⟨⟨p, r⟩, s, C⟩ := x
  unfold NdCPost
  dsimp only [ndv] at sc ⊢
  obtain ⟨n, hn⟩ : ∃ n, Hid (C.length = n) := ⟨_, Lib.hid rfl⟩
  rw [hn.out] at sc ⊢
  have hbox := Lib.hid ((((Below.refl w.heap.size w).alloc (Nat.le_refl _) (.cells #[.int .i64 p, .int .i64 r, .int .i64 s, .slice ua n uc] 78)).alloc (by simp) (.cells #[.int .i64 0, .int .i64 0, .int .i64 0, .slice none 0 0] 33)).alloc (by simp; omega) (.cells #[.int .i64 0, .int .i64 0, .int .i64 0, .slice none 0 0] 33))
  go_enter Try.func51, Try.ntmps51
  go_wp2_with fail
  refine (toId_any p r _).mono ?_
  rintro e w1 ⟨rfl, B⟩
  have D1 := Lib.hid (hbox.out.trans (B.mono hbox.out.size))
  have A1 := Lib.hid ((B.block w.heap.size (by simp; omega)).trans (hold (hold (heap_alloc_new w (.cells #[.int .i64 p, .int .i64 r, .int .i64 s, .slice ua n uc] 78)))))
  have O1 := Lib.hid ((B.block (w.heap.size + 1) (by simp)).trans (hold (heap_alloc_at (w.alloc _) (.cells #[.int .i64 0, .int .i64 0, .int .i64 0, .slice none 0 0] 33) (w.heap.size + 1) (by simp))))
  have V1 := Lib.hid ((B.block (w.heap.size + 1 + 1) (by simp)).trans (heap_alloc_at _ (.cells #[.int .i64 0, .int .i64 0, .int .i64 0, .slice none 0 0] 33) _ (by simp)))
  have s1 := lt_of_heap V1.out
  obtain ⟨a0, a1, a2, a3⟩ := four_cells A1.out
  obtain ⟨v0, v1, v2, v3⟩ := four_cells V1.out
  have f0 := frozen_of_row w1 _ 0 _ _ V1.out
  have f1 := frozen_of_row w1 _ 1 _ _ V1.out
  have f2 := frozen_of_row w1 _ 2 _ _ V1.out
  clear B hbox
  go_wp2_with fail
  have V2 := Lib.hid (heap_setCell_same _ _ 2 _ _ (.int .i64 s) (heap_setCell_same _ _ 1 _ _ (.int .i64 r) (heap_setCell_same _ _ 0 _ _ (.int .i64 p) V1.out)))
  have D2 := Lib.hid (((D1.out.setCell (p := ⟨w.heap.size + 1 + 1, 0, none⟩) (by show w.heap.size ≤ w.heap.size + 1 + 1; omega) (.int .i64 p)).setCell (p := ⟨w.heap.size + 1 + 1, 1, none⟩) (by show w.heap.size ≤ w.heap.size + 1 + 1; omega) (.int .i64 r)).setCell (p := ⟨w.heap.size + 1 + 1, 2, none⟩) (by show w.heap.size ≤ w.heap.size + 1 + 1; omega) (.int .i64 s))
  have O2 := Lib.hid ((heap_setCell_other _ ⟨w.heap.size + 1 + 1, 2, none⟩ (w.heap.size + 1) (.int .i64 s) (by simp)).trans ((heap_setCell_other _ ⟨w.heap.size + 1 + 1, 1, none⟩ (w.heap.size + 1) (.int .i64 r) (by simp)).trans ((heap_setCell_other _ ⟨w.heap.size + 1 + 1, 0, none⟩ (w.heap.size + 1) (.int .i64 p) (by simp)).trans O1.out)))
  clear V1 O1 A1 D1 a0 a1 a2 a3 v0 v1 v2 v3 f0 f1 f2 s1
  refine (sc _ D2.out).mono ?_
  rintro e w2 ⟨b, u, hbu, rfl, hO, B⟩
  obtain ⟨cap, rfl, _⟩ := hO.shape
  rw [hn.out] at hO ⊢
  have D3 := Lib.hid (bstep D2.out B)
  have hble := Lib.hid (Nat.le_trans D2.out.size hbu)
  have hne1 : b ≠ w.heap.size + 1 + 1 := by have := lt_of_heap V2.out; omega
  have hne2 : b ≠ w.heap.size + 1 := by have := lt_of_heap O2.out; omega
  have V3 := Lib.hid (bblk B (lt_of_heap V2.out) V2.out)
  have O3 := Lib.hid (bblk B (lt_of_heap O2.out) O2.out)
  have hO := Lib.hid hO
  clear V2 O2 D2 B hbu sc
  have s3 := lt_of_heap V3.out
  obtain ⟨v0, v1, v2, v3⟩ := four_cells (show w2.heap[w.heap.size + 1 + 1]? = some (.cells #[.int .i64 p, .int .i64 r, .int .i64 s, .slice none 0 0] 33 (0, 0)) from V3.out)
  have f3 := frozen_of_row w2 _ 3 _ _ V3.out
  obtain ⟨o0, o1, o2, o3⟩ := four_cells O3.out
  have g0 := frozen_of_row w2 _ 0 _ _ O3.out
  have g1 := frozen_of_row w2 _ 1 _ _ O3.out
  have g2 := frozen_of_row w2 _ 2 _ _ O3.out
  have g3 := frozen_of_row w2 _ 3 _ _ O3.out
  go_wp2_with fail
  have U : ∀ k ≠ w.heap.size + 1 + 1, k ≠ w.heap.size + 1 → (((((w2.setCell ⟨w.heap.size + 1 + 1, 3, none⟩ (.slice (some ⟨b, 0, none⟩) n cap)).setCell ⟨w.heap.size + 1, 0, none⟩ (.int .i64 p)).setCell ⟨w.heap.size + 1, 1, none⟩ (.int .i64 r)).setCell ⟨w.heap.size + 1, 2, none⟩ (.int .i64 s)).setCell ⟨w.heap.size + 1, 3, none⟩ (.slice (some ⟨b, 0, none⟩) n cap)).heap[k]? = w2.heap[k]? := fun k h1 h2 => by
    rw [heap_setCell_other _ _ _ _ h2, heap_setCell_other _ _ _ _ h2, heap_setCell_other _ _ _ _ h2, heap_setCell_other _ _ _ _ h2, heap_setCell_other _ _ _ _ h1]
  have O4 := heap_setCell_same _ _ 3 _ _ (.slice (some ⟨b, 0, none⟩) n cap) (heap_setCell_same _ _ 2 _ _ (.int .i64 s) (heap_setCell_same _ _ 1 _ _ (.int .i64 r) (heap_setCell_same _ _ 0 _ _ (.int .i64 p) ((heap_setCell_other w2 ⟨w.heap.size + 1 + 1, 3, none⟩ (w.heap.size + 1) (.slice (some ⟨b, 0, none⟩) n cap) (by simp)).trans O3.out))))
  exact bodyPost_ret (nd_res _ _ _ _ _ _ _ _ rfl O4) rfl ⟨b, cap, hble.out, rfl, hO.out.same (U b hne1 hne2), ((((D3.out.setCell (by simp; omega) _).setCell (by simp) _).setCell (by simp) _).setCell (by simp) _).setCell (by simp) _⟩
/-- Copies so far. -/
def NdK (w : World) (B g n k : Nat) (N : List Nd) : Prop :=
  ∃ cur t, w.heap[g]? = some (.cells cur t (0, 0)) ∧ cur.size = n * 4 ∧
    ∀ i, i < k → cur[i * 4]? = some (.int .i64 (N.getD i nd0).id.1) ∧ cur[i * 4 + 1]? = some (.int .i64 (N.getD i nd0).id.2) ∧ cur[i * 4 + 2]? = some (.int .i64 (N.getD i nd0).seq) ∧ ∃ b u, B ≤ b ∧ b ≠ g ∧ cur[i * 4 + 3]? = some u ∧ OwnP w b u (N.getD i nd0).deps
theorem NdK.lt {w : World} {B g n k : Nat} {N : List Nd} (h : NdK w B g n k N) : g < w.heap.size := by obtain ⟨cur, t, h, _⟩ := h; exact lt_of_heap h
theorem NdK.up {w w' : World} {B g n k : Nat} {N : List Nd} (h : NdK w B g n k N) (hb : Below w.heap.size w w') : NdK w' B g n k N := by
  obtain ⟨cur, t, h1, h2, h3⟩ := h
  refine ⟨cur, t, (hb.block g (lt_of_heap h1)).trans h1, h2, fun i hi => ?_⟩
  obtain ⟨c0, c1, c2, b, u, q1, q2, c3, ho⟩ := h3 i hi
  exact ⟨c0, c1, c2, b, u, q1, q2, c3, ho.up hb ho.lt⟩
theorem NdK.old {w : World} {B g n k : Nat} {N : List Nd} (h : NdK w B g n k N) {j : Nat} (hj : j < n * 4) : (∃ y, w.cell? ⟨g, j, none⟩ = some y) ∧ w.frozen? ⟨g, j, none⟩ = false := by
  obtain ⟨cur, t, h1, h2, _⟩ := h
  exact ⟨⟨_, (cell_of_cells h1).trans (Array.getElem?_eq_getElem (by omega))⟩, frozen_of_row w g j _ _ h1⟩
theorem NdK.put {w : World} {B g n k : Nat} {N : List Nd} (h : NdK w B g n k N) (hk : k < n) {b : Nat} {u : Value} (hB : B ≤ b) (hbg : b ≠ g) (ho : OwnP w b u (N.getD k nd0).deps) :
    NdK ((((w.setCell ⟨g, k * 4, none⟩ (.int .i64 (N.getD k nd0).id.1)).setCell ⟨g, k * 4 + 1, none⟩ (.int .i64 (N.getD k nd0).id.2)).setCell ⟨g, k * 4 + 2, none⟩ (.int .i64 (N.getD k nd0).seq)).setCell ⟨g, k * 4 + 3, none⟩ u) B g n (k + 1) N := by
  obtain ⟨cur, t, h1, h2, h3⟩ := h
  have H := heap_setCell_same _ _ (k * 4 + 3) _ _ u (heap_setCell_same _ _ (k * 4 + 2) _ _ (.int .i64 (N.getD k nd0).seq) (heap_setCell_same _ _ (k * 4 + 1) _ _ (.int .i64 (N.getD k nd0).id.2) (heap_setCell_same _ _ (k * 4) _ _ (.int .i64 (N.getD k nd0).id.1) h1)))
  have U : ∀ j, j ≠ g → ((((w.setCell ⟨g, k * 4, none⟩ (.int .i64 (N.getD k nd0).id.1)).setCell ⟨g, k * 4 + 1, none⟩ (.int .i64 (N.getD k nd0).id.2)).setCell ⟨g, k * 4 + 2, none⟩ (.int .i64 (N.getD k nd0).seq)).setCell ⟨g, k * 4 + 3, none⟩ u).heap[j]? = w.heap[j]? := fun j hj => by
    rw [heap_setCell_other _ _ _ _ hj, heap_setCell_other _ _ _ _ hj, heap_setCell_other _ _ _ _ hj, heap_setCell_other _ _ _ _ hj]
  refine ⟨_, t, H, by simpa using h2, fun i hi => ?_⟩
  by_cases e : i = k
  · subst e
    refine ⟨?_, ?_, ?_, b, u, hB, hbg, ?_, ho.same (U b hbg)⟩
    · rw [Array.getElem?_setIfInBounds, if_neg (by omega), Array.getElem?_setIfInBounds, if_neg (by omega), Array.getElem?_setIfInBounds, if_neg (by omega), Array.getElem?_setIfInBounds, if_pos rfl, if_pos (by omega)]
    · rw [Array.getElem?_setIfInBounds, if_neg (by omega), Array.getElem?_setIfInBounds, if_neg (by omega), Array.getElem?_setIfInBounds, if_pos rfl, if_pos (by simp; omega)]
    · rw [Array.getElem?_setIfInBounds, if_neg (by omega), Array.getElem?_setIfInBounds, if_pos rfl, if_pos (by simp; omega)]
    · rw [Array.getElem?_setIfInBounds, if_pos rfl, if_pos (by simp; omega)]
  · obtain ⟨c0, c1, c2, b', u', q1, q2, c3, ho'⟩ := h3 i (by omega)
    refine ⟨?_, ?_, ?_, b', u', q1, q2, ?_, ho'.same (U b' q2)⟩ <;>
      (rw [Array.getElem?_setIfInBounds, if_neg (by omega), Array.getElem?_setIfInBounds, if_neg (by omega), Array.getElem?_setIfInBounds, if_neg (by omega), Array.getElem?_setIfInBounds, if_neg (by omega)]; assumption)
theorem ndK_made (w : World) (n : Nat) (N : List Nd) (t : TypeId) : NdK (w.alloc (.cells (madeCells #[.int .i64 0, .int .i64 0, .int .i64 0, .slice none 0 0] (n * 4)) t)) w.heap.size w.heap.size n 0 N :=
  ⟨_, t, heap_alloc_new w _, by simp [madeCells], fun i hi => absurd hi (Nat.not_lt_zero _)⟩

/-- What toNodeS leaves. -/
def NdsCPost (N : List Nd) (w : World) (e : Ending) (w' : World) : Prop := ∃ v, e = .returned v ∧ NdO w' w.heap.size v N ∧ Below w.heap.size w w'

set_option maxRecDepth 100000 in
set_option maxHeartbeats 2000000 in
theorem toNs_at (b off ca : Nat) (N : List Nd) (w : World) (hb : b < w.heap.size) (hm : N.length ≤ 2000000) (h : ∀ i, i < N.length → NdIn w b (off + i * 4) (N.getD i nd0)) :
    Calls Try.prog 22 #[.slice (some ⟨b, off, none⟩) N.length ca] w (NdsCPost N w) := by
  have hmk := made_nds N.length hm
  have h := Lib.hid h
  have hO := Lib.hid (ndK_made w N.length N 33)
  obtain ⟨n, hn⟩ : ∃ n, Hid (N.length = n) := ⟨_, Lib.hid rfl⟩
  rw [hn.out] at hmk hm hO ⊢
  go_enter Try.func22, Try.ntmps22
  go_wp2_with fail
  clear hmk
  go_loopw [4] (fun i wr => ∃ k : Nat, k ≤ n ∧ i = .int .i64 k ∧ Hid (NdK wr w.heap.size w.heap.size n k N) ∧ Below w.heap.size w wr) (fun i _ => n - (intOf i).toNat)
  case atStart => exact ⟨0, Nat.zero_le _, rfl, hO, (Below.refl _ _).alloc (Nat.le_refl _) _⟩
  case round =>
    obtain ⟨k, hk, rfl, hM, hnx⟩ := hrel
    clear hO
    by_cases hlt : k < n
    · obtain ⟨ua, un, uc, h0, h1, h2, h3, h4⟩ := h.out k (by rw [hn.out]; exact hlt)
      have q0 := (hnx.cell (p := ⟨b, off + k * 4, none⟩) hb).trans h0
      have q1 := (hnx.cell (p := ⟨b, off + k * 4 + 1, none⟩) hb).trans h1
      have q2 := (hnx.cell (p := ⟨b, off + k * 4 + 2, none⟩) hb).trans h2
      have q3 := (hnx.cell (p := ⟨b, off + k * 4 + 3, none⟩) hb).trans h3
      have sc := toN_any (N.getD k nd0) (.slice ua un uc) wr (h4.up hnx (Nat.le_refl _))
      clear h0 h1 h2 h3 h4
      have put := Lib.hid (fun (W : World) (H : NdK W w.heap.size w.heap.size n k N) (b : Nat) (u : Value) => NdK.put (b := b) (u := u) H hlt)
      unfold NdCPost ndv at sc
      generalize N.getD k nd0 = x at q0 q1 q2 put sc
      obtain ⟨⟨p, r⟩, s, C⟩ := x
      dsimp only at q0 q1 q2 sc
      have hnx := Lib.hid hnx
      have hs := Lib.hid hM.out.lt
      go_wp2_with fail
      refine sc.mono ?_
      rintro e w1 ⟨b1, cap, hb1, rfl, hO1, B⟩
      have hK := hM.out.up B
      obtain ⟨⟨y0, d0⟩, f0⟩ := hK.old (j := k * 4) (by omega)
      obtain ⟨⟨y1, d1⟩, f1⟩ := hK.old (j := k * 4 + 1) (by omega)
      obtain ⟨⟨y2, d2⟩, f2⟩ := hK.old (j := k * 4 + 2) (by omega)
      obtain ⟨⟨y3, d3⟩, f3⟩ := hK.old (j := k * 4 + 3) (by omega)
      have hs1 := hK.lt
      have R := Lib.hid (put.out w1 hK b1 _ (Nat.le_trans hnx.out.size hb1) (by have := hs.out; omega) hO1)
      have D1 := Lib.hid (hnx.out.trans (B.mono hnx.out.size))
      clear hM h hO1 B hnx q0 q1 q2 q3 hs hK sc put hb1
      go_wp2_with fail
      go_roundw
      case rel => exact ⟨k + 1, by omega, by go_num, Lib.hid R.out, (((D1.out.setCell (by simp) _).setCell (by simp) _).setCell (by simp) _).setCell (by simp) _⟩
      case measure => simp [intOf]; omega
    · obtain rfl : k = n := by omega
      have hnx := Lib.hid hnx
      clear h
      go_wp2_with fail
      go_ret
      refine ⟨_, rfl, ?_, hnx.out⟩
      obtain ⟨cur, t, h1, h2, h3⟩ := hM.out
      exact ⟨w.heap.size, k, cur, t, by have e := hn.out; subst e; rfl, Nat.le_refl _, h1, by rw [hn.out]; exact Nat.le_refl _, by rw [hn.out]; exact hm, fun i hi => h3 i (by rw [← hn.out]; exact hi)⟩

set_option maxRecDepth 100000 in
theorem toNs_nil (a : Option Addr) (ca : Nat) (w : World) :
    Calls Try.prog 22 #[.slice a 0 ca] w (NdsCPost [] w) := by
  have hmk : ∀ w : World, (Instr.makeSlice 23 (.int .i64 0) (.int .i64 0)).run Try.prog w = .ok (.slice (some ⟨w.heap.size, 0, none⟩) 0 0) (w.alloc (.cells (madeCells #[.int .i64 0, .int .i64 0, .int .i64 0, .slice none 0 0] (0 * 4)) 33)) := made_nds 0 (by omega)
  have hO := Lib.hid (ndK_made w 0 [] 33)
  go_enter Try.func22, Try.ntmps22
  go_wp2_with fail
  refine wp_loop_rounds 1 ?_
  rw [rounds_succ]
  go_wp2_with fail
  go_ret
  obtain ⟨cur, t, h1, h2, h3⟩ := hO.out
  exact ⟨_, rfl, ⟨_, 0, cur, t, rfl, Nat.le_refl _, h1, Nat.le_refl _, Nat.zero_le _, h3⟩, (Below.refl _ _).alloc (Nat.le_refl _) _⟩

/-- A COPY OF NODES. -/
theorem toNs_any (u : Value) (N : List Nd) (w : World) (h : Nds w u N) :
    Calls Try.prog 22 #[u] w (NdsCPost N w) := by
  obtain ⟨a, cap, rfl, h1, h2, h3⟩ := h
  rcases h3 with h3 | ⟨b, off, rfl, h4, h5⟩
  · obtain rfl : N = [] := List.length_eq_zero_iff.1 h3
    exact toNs_nil a cap w
  · exact toNs_at b off cap N w h4 h2 h5
end Go.Proofs.Ytbklkhndjckckaa
