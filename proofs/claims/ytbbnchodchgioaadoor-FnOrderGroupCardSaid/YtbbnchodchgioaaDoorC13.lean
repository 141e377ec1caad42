/- Texts laid together. -/
import Derived.Test.YtbbnchodchgioaaDoorC02
import Derived.Test.YtbbnchodchgioaaDoorC01
import Derived.Deep.RegionWith
import Derived.Test.YtbbnchodchgioaaDoorC06
import Derived.Test.YtbbnchodchgioaaDoorC03
import Derived.Test.YtbbnchodchgioaaDoorC15
/- Plain facts: how the model finds what is reached, groups, what is ready, and the order. -/
namespace Go.Proofs.YtbbnchodchgioaaDoor
set_option linter.unusedVariables false

/-- What the search knows: O are found, T are to be looked at. -/
structure Rq (N : List Nd) (a : Pid) (O T : List Pid) : Prop where
  asc : Asc O
  out : ∀ x ∈ O, Rp (EI N) a x
  todo : ∀ x ∈ T, x ∈ idsN N → Rp (EI N) a x
  dir : ∀ x, EI N a x → x ∈ O ∨ x ∈ T
  on : ∀ y ∈ O, ∀ x, EI N y x → x ∈ O ∨ x ∈ T
theorem Rq.start {N : List Nd} (hv : nodB N = true) {x : Nd} (hx : x ∈ N) : Rq N x.id [] x.deps :=
  ⟨asc_nil, fun _ h => (nomatch h), fun y hy hi => Rp.one ⟨hi, x, hx, rfl, hy⟩, fun y ⟨_, x', hx', e, hd⟩ => .inr (by rw [getD_uniq hv hx' hx e] at hd; exact hd), fun _ h => nomatch h⟩
theorem Rq.skip {N : List Nd} {a b : Pid} {O T : List Pid} (h : Rq N a O (b :: T)) (hb : ¬ b ∈ idsN N ∨ b ∈ O) : Rq N a O T := by
  have key : ∀ x, x ∈ idsN N → x ∈ O ∨ x ∈ b :: T → x ∈ O ∨ x ∈ T := fun x hx hh => by
    rcases hh with hh | hh
    · exact .inl hh
    · rcases List.mem_cons.1 hh with e | hh
      · subst e; exact .inl (hb.resolve_left (fun hn => hn hx))
      · exact .inr hh
  exact ⟨h.asc, h.out, fun x hx => h.todo x (List.mem_cons_of_mem _ hx), fun x hx => key x hx.r (h.dir x hx), fun y hy x hx => key x hx.r (h.on y hy x hx)⟩
theorem Rq.put {N : List Nd} (hv : nodB N = true) {a : Pid} {y : Nd} {O T : List Pid} (h : Rq N a O (y.id :: T)) (hy : y ∈ N) : Rq N a (putP O y.id) (T ++ y.deps) := by
  have hb : Rp (EI N) a y.id := h.todo _ List.mem_cons_self (List.mem_map_of_mem hy)
  have key : ∀ x, x ∈ O ∨ x ∈ y.id :: T → x ∈ putP O y.id ∨ x ∈ T ++ y.deps := fun x hh => by
    rw [mem_putP, List.mem_append]
    rcases hh with hh | hh
    · exact .inl (.inr hh)
    · rcases List.mem_cons.1 hh with e | hh
      · exact .inl (.inl e)
      · exact .inr (.inl hh)
  refine ⟨asc_putP h.asc, fun x hx => ?_, fun x hx hi => ?_, fun x hx => key x (h.dir x hx), fun z hz x hx => ?_⟩
  · rcases (mem_putP _ _ _).1 hx with e | hx
    · subst e; exact hb
    · exact h.out x hx
  · rcases List.mem_append.1 hx with hx | hx
    · exact h.todo x (List.mem_cons_of_mem _ hx) hi
    · exact hb.rt_r (.one ⟨hi, y, hy, rfl, hx⟩)
  · rcases (mem_putP _ _ _).1 hz with e | hz
    · subst e
      obtain ⟨_, y', hy', e, hd⟩ := hx
      rw [getD_uniq hv hy' hy e] at hd
      exact .inr (List.mem_append_right _ hd)
    · exact key x (h.on z hz x hx)
theorem Rq.done {N : List Nd} (hv : nodB N = true) {a : Pid} {O : List Pid} (h : Rq N a O []) : O = selP N (Rp (EI N) a) := by
  refine selP_ext (nod_of hv).2.2 h.asc fun x => ⟨fun hx => ⟨rp_r (h.out x hx), h.out x hx⟩, fun hx => ?_⟩
  obtain ⟨_, c, h1, h2⟩ := hx
  refine h2.closed (P := fun x => x ∈ O) (fun i hi j hj => ?_) ?_
  · exact (h.on i hi j hj).resolve_right (by simp)
  · exact (h.dir c h1).resolve_right (by simp)
theorem asc_in_len {N : List Nd} (hv : nodB N = true) {O : List Pid} (h : Asc O) (hi : ∀ x ∈ O, x ∈ idsN N) : O.length ≤ N.length := by
  rw [selP_ext (P := fun x => x ∈ O) (nod_of hv).2.2 h (fun x => ⟨fun hx => ⟨hi x hx, hx⟩, fun hx => hx.2⟩)]
  exact selP_len N _
theorem Rq.len {N : List Nd} (hv : nodB N = true) {a : Pid} {O T : List Pid} (h : Rq N a O T) : O.length ≤ N.length := asc_in_len hv h.asc fun x hx => rp_r (h.out x hx)
theorem nod_deps {N : List Nd} (hv : nodB N = true) {k : Nat} (hk : k < N.length) : srtB (N.getD k nd0).deps = true := by
  have := (nod_of hv).2.1 _ (getD_mem hk)
  simp only [ndB, Bool.and_eq_true] at this
  exact this.2.2.1
theorem nod_dlen {N : List Nd} (hv : nodB N = true) {k : Nat} (hk : k < N.length) : (N.getD k nd0).deps.length ≤ 12 := (srt_of (nod_deps hv hk)).1
/-- How much is left. -/
def mu (O T : List Pid) : Nat := 13 * (12 - O.length) + T.length
theorem mu_put {N : List Nd} (hv : nodB N = true) {a : Pid} {y : Nd} {O T : List Pid} (h : Rq N a O (y.id :: T)) (hy : y ∈ N) (hn : ¬ y.id ∈ O) (hd : y.deps.length ≤ 12) : mu (putP O y.id) (T ++ y.deps) < mu O (y.id :: T) := by
  have h1 := (h.put hv hy).len hv
  have h2 := (nod_of hv).1
  unfold mu
  rw [putP_out hn, len_insB] at h1 ⊢
  rw [List.length_append, List.length_cons]
  omega

theorem sc_parts {N : List Nd} {a b : Pid} : Sc (EI N) a b ↔ b = a ∨ Rp (EI N) a b ∧ Rp (EI N) b a := by
  constructor
  · rintro ⟨h1, h2⟩
    rcases h1.cases with e | h1
    · exact .inl e.symm
    · rcases h2.cases with e | h2
      · exact .inl e
      · exact .inr ⟨h1, h2⟩
  · rintro (e | ⟨h1, h2⟩)
    · subst e; exact .refl _
    · exact ⟨h1.rt, h2.rt⟩

open Classical in
/-- Those of the first k nodes with a property. -/
noncomputable def selK (N : List Nd) (P : Pid → Prop) (k : Nat) : List Pid := ((idsN N).take k).filter fun a => decide (P a)
theorem selK_zero (N : List Nd) (P : Pid → Prop) : selK N P 0 = [] := by unfold selK; simp
open Classical in
theorem selK_next {N : List Nd} {P : Pid → Prop} {k : Nat} (hk : k < N.length) (h : P (N.getD k nd0).id) : selK N P (k + 1) = selK N P k ++ [(N.getD k nd0).id] := by
  unfold selK
  rw [take_next (by rw [idsN_len]; exact hk), List.filter_append, idsN_get hk, List.filter_cons, if_pos (decide_eq_true h), List.filter_nil]
open Classical in
theorem selK_miss {N : List Nd} {P : Pid → Prop} {k : Nat} (hk : k < N.length) (h : ¬ P (N.getD k nd0).id) : selK N P (k + 1) = selK N P k := by
  unfold selK
  rw [take_next (by rw [idsN_len]; exact hk), List.filter_append, idsN_get hk, List.filter_cons, if_neg (by rw [decide_eq_true_eq]; exact h), List.filter_nil, List.append_nil]
theorem selK_all (N : List Nd) (P : Pid → Prop) : selK N P N.length = selP N P := by
  unfold selK selP; rw [List.take_of_length_le (by rw [idsN_len]; exact Nat.le_refl _)]
theorem selK_len (N : List Nd) (P : Pid → Prop) (k : Nat) : (selK N P k).length ≤ k := by
  unfold selK
  refine Nat.le_trans (List.length_filter_le _ _) ?_
  rw [List.length_take]; omega

/-- The soonest one of some: as far as they have been looked at. -/
def FirstP (N : List Nd) (L D : List Pid) (k : Nat) (o : Option Pid) : Prop :=
  match o with
  | none => ∀ x ∈ L.take k, x ∈ D
  | some a => a ∈ L.take k ∧ ¬ a ∈ D ∧ ∀ x ∈ L.take k, x ∈ D ∨ x = a ∨ Soon N a x
theorem FirstP.start (N : List Nd) (L D : List Pid) : FirstP N L D 0 none := fun x hx => by simp at hx
theorem FirstP.known {N : List Nd} {L D : List Pid} {k : Nat} {o : Option Pid} (h : FirstP N L D k o) (hk : k < L.length) (hd : L.getD k nop ∈ D) : FirstP N L D (k + 1) o := by
  unfold FirstP at *
  rw [take_next hk]
  cases o with
  | none =>
    intro x hx
    rcases List.mem_append.1 hx with hx | hx
    · exact h x hx
    · rw [List.mem_singleton] at hx; rw [hx]; exact hd
  | some a =>
    refine ⟨List.mem_append_left _ h.1, h.2.1, fun x hx => ?_⟩
    rcases List.mem_append.1 hx with hx | hx
    · exact h.2.2 x hx
    · rw [List.mem_singleton] at hx; rw [hx]; exact .inl hd
theorem FirstP.later {N : List Nd} {L D : List Pid} {k : Nat} {a : Pid} (h : FirstP N L D k (some a)) (hk : k < L.length) (hs : ¬ Soon N (L.getD k nop) a) : FirstP N L D (k + 1) (some a) := by
  unfold FirstP at *
  rw [take_next hk]
  refine ⟨List.mem_append_left _ h.1, h.2.1, fun x hx => ?_⟩
  rcases List.mem_append.1 hx with hx | hx
  · exact h.2.2 x hx
  · rw [List.mem_singleton] at hx
    subst hx
    rcases Soon.tri N a (L.getD k nop) with hh | hh | hh
    · exact .inr (.inr hh)
    · exact .inr (.inl hh.symm)
    · exact absurd hh hs
theorem FirstP.take {N : List Nd} {L D : List Pid} {k : Nat} {o : Option Pid} (h : FirstP N L D k o) (hk : k < L.length) (hd : ¬ L.getD k nop ∈ D) (hs : ∀ a, o = some a → Soon N (L.getD k nop) a) : FirstP N L D (k + 1) (some (L.getD k nop)) := by
  unfold FirstP at *
  rw [take_next hk]
  refine ⟨List.mem_append_right _ (List.mem_singleton.2 rfl), hd, fun x hx => ?_⟩
  rcases List.mem_append.1 hx with hx | hx
  · cases o with
    | none => exact .inl (h x hx)
    | some a =>
      have hsa := hs a rfl
      rcases h.2.2 x hx with hh | hh | hh
      · exact .inl hh
      · subst hh; exact .inr (.inr hsa)
      · exact .inr (.inr (hsa.trans hh))
  · rw [List.mem_singleton] at hx; exact .inr (.inl hx)
/-- What l5First answers. -/
def FirstA (N : List Nd) (L D : List Pid) : Option Pid → Prop
  | none => ∀ x ∈ L, x ∈ D
  | some a => a ∈ L ∧ ¬ a ∈ D ∧ ∀ x ∈ L, x ∈ D ∨ x = a ∨ Soon N a x
theorem FirstP.all {N : List Nd} {L D : List Pid} {o : Option Pid} (h : FirstP N L D L.length o) : FirstA N L D o := by
  unfold FirstP at h
  rw [List.take_length] at h
  cases o <;> exact h

/-- A group that is being put behind others: M are there already. -/
structure Gro (N : List Nd) (a : Pid) (A M : List Pid) : Prop where
  sub : ∀ x ∈ M, Sc (EI N) a x
  srt : M.Pairwise (Soon N)
  low : ∀ x ∈ M, ∀ y, Sc (EI N) a y → ¬ y ∈ M → Soon N x y
theorem Gro.start (N : List Nd) (a : Pid) (A : List Pid) : Gro N a A [] := ⟨fun _ h => (nomatch h), List.Pairwise.nil, fun _ h => nomatch h⟩
theorem Gro.next {N : List Nd} {a b : Pid} {A M : List Pid} (h : Gro N a A M) (hb : Sc (EI N) a b) (hn : ¬ b ∈ A ++ M) (hl : ∀ x, Sc (EI N) a x → x ∈ A ++ M ∨ x = b ∨ Soon N b x) (hA : ∀ x, Sc (EI N) a x → ¬ x ∈ A) : Gro N a A (M ++ [b]) := by
  have hbM : ¬ b ∈ M := fun hh => hn (List.mem_append_right _ hh)
  refine ⟨fun x hx => ?_, List.pairwise_append.2 ⟨h.srt, List.pairwise_singleton _ _, fun x hx y hy => ?_⟩, fun x hx y hy hny => ?_⟩
  · rcases List.mem_append.1 hx with hx | hx
    · exact h.sub x hx
    · rw [List.mem_singleton] at hx; rw [hx]; exact hb
  · rw [List.mem_singleton] at hy
    subst hy; exact h.low x hx _ hb hbM
  · have hyM : ¬ y ∈ M := fun hh => hny (List.mem_append_left _ hh)
    rcases List.mem_append.1 hx with hx | hx
    · exact h.low x hx y hy hyM
    · rw [List.mem_singleton] at hx
      subst hx
      rcases hl y hy with hh | hh | hh
      · rcases List.mem_append.1 hh with hh | hh
        · exact absurd hh (hA y hy)
        · exact absurd hh hyM
      · exact absurd (List.mem_append_right _ (List.mem_singleton.2 hh)) hny
      · exact hh
/-- What has run so far, of the whole order. -/
def Pre (N : List Nd) (A : List Pid) : Prop := Clo N (fun b => b ∈ A) ∧ A.Nodup ∧ (∀ x ∈ A, x ∈ idsN N) ∧ ∀ L, Ord N (fun b => b ∈ A) L → Ord N (fun _ => False) (A ++ L)
theorem Pre.start (N : List Nd) : Pre N [] := ⟨fun a b h => (nomatch h), List.nodup_nil, fun _ h => (nomatch h), fun L h => by simpa using h⟩
theorem Pre.stop {N : List Nd} {A : List Pid} (h : Pre N A) (hn : ∀ a, ¬ FreeI N (fun b => b ∈ A) a) : Ord N (fun _ => False) A := by
  have := h.2.2.2 [] (.stop _ hn); simpa using this
theorem Pre.next {N : List Nd} {A M : List Pid} {a : Pid} (h : Pre N A) (hi : FreeI N (fun b => b ∈ A) a) (hf : ∀ b, FreeI N (fun b => b ∈ A) b → b = a ∨ Soon N a b) (hM : ∀ b, b ∈ M ↔ Sc (EI N) a b) (hs : M.Pairwise (Soon N)) : Pre N (A ++ M) := by
  have hR : (fun b => b ∈ A ++ M) = fun b => b ∈ A ∨ b ∈ M := by funext b; exact propext List.mem_append
  have hnew := hi.new hM h.1
  refine ⟨by rw [hR]; exact hi.clo hM h.1, List.nodup_append.2 ⟨h.2.1, soon_nodup hs, fun x hx y hy e => ?_⟩, fun x hx => ?_, fun L hL => ?_⟩
  · subst e; exact (hnew x hy).1 hx
  · rcases List.mem_append.1 hx with hx | hx
    · exact h.2.2.1 x hx
    · exact (hnew x hx).2.1
  · rw [hR] at hL
    rw [List.append_assoc]
    exact h.2.2.2 _ (.run _ a M L hi hf hM hs hL)
theorem nodup_len : ∀ {A B : List Pid}, A.Nodup → (∀ x ∈ A, x ∈ B) → A.length ≤ B.length
  | [], B, _, _ => Nat.zero_le _
  | a :: A, B, h, hs => by
    have h' := List.nodup_cons.1 h
    have ha := hs a List.mem_cons_self
    obtain ⟨X, Y, rfl⟩ := List.append_of_mem ha
    have := nodup_len (B := X ++ Y) h'.2 fun x hx => by
      have hxx := hs x (List.mem_cons_of_mem _ hx)
      rcases List.mem_append.1 hxx with h1 | h1
      · exact List.mem_append_left _ h1
      · rcases List.mem_cons.1 h1 with e | h1
        · subst e; exact absurd hx h'.1
        · exact List.mem_append_right _ h1
    simp only [List.length_append, List.length_cons] at this ⊢
    omega
theorem Pre.len {N : List Nd} {A : List Pid} (h : Pre N A) : A.length ≤ N.length := by rw [← idsN_len]; exact nodup_len h.2.1 h.2.2.1
/-- With as many as there are nodes, all have run. -/
theorem Pre.full {N : List Nd} {A : List Pid} (h : Pre N A) (hl : N.length ≤ A.length) : ∀ a, ¬ FreeI N (fun b => b ∈ A) a := by
  intro a hf
  have := nodup_len (A := a :: A) (B := idsN N) (List.nodup_cons.2 ⟨hf.2.1, h.2.1⟩) (fun x hx => by
    rcases List.mem_cons.1 hx with e | hx
    · subst e; exact hf.1
    · exact h.2.2.1 x hx)
  rw [idsN_len, List.length_cons] at this
  omega
end Go.Proofs.YtbbnchodchgioaaDoor

/- The model's l5At. -/
namespace Go.Proofs.YtbbnchodchgioaaDoor
open Go.RowKit
set_option linter.unusedVariables false

/-- Where a node is. -/
def AtP (N : List Nd) (a : Pid) (z : Int) : Prop := (z = -1 ∧ ¬ a ∈ idsN N) ∨ ∃ k : Nat, z = k ∧ k < N.length ∧ (N.getD k nd0).id = a
theorem AtP.none {N : List Nd} {a : Pid} (h : ∀ j, j < N.length → ¬ (N.getD j nd0).id = a) : AtP N a (-1) := by
  refine .inl ⟨rfl, fun hm => ?_⟩
  obtain ⟨k, hk, e⟩ := mem_idsN.1 hm
  exact h k hk e

set_option maxRecDepth 100000 in
set_option maxHeartbeats 2000000 in
theorem sat_at (b off ca : Nat) (N : List Nd) (x y : Int) (w : World) (hb : b < w.heap.size) (hm : N.length ≤ 2000000) (h : ∀ i, i < N.length → NdIn w b (off + i * 4) (N.getD i nd0)) :
    Calls Tryd.prog 49 #[.slice (some ⟨b, off, none⟩) N.length ca, .agg #[.int .i64 x, .int .i64 y]] w fun e w' => (∃ z, e = .returned (.int .i64 z) ∧ AtP N (x, y) z) ∧ Below w.heap.size w w' := by
  have h := Lib.hid h
  obtain ⟨n, hn⟩ : ∃ n, Hid (N.length = n) := ⟨_, Lib.hid rfl⟩
  rw [hn.out] at hm ⊢
  go_enter Tryd.func49, Tryd.ntmps49
  go_wp2_with fail
  go_loopw [5] (fun i wr => ∃ k : Nat, k ≤ n ∧ i = .int .i64 k ∧ Hid (∀ j, j < k → ¬ (N.getD j nd0).id = (x, y)) ∧ wr.cell? ⟨w.heap.size, 0, none⟩ = some (.int .i64 x) ∧ wr.cell? ⟨w.heap.size, 1, none⟩ = some (.int .i64 y) ∧ Below w.heap.size w wr) (fun i _ => n - (intOf i).toNat)
  case atStart => exact ⟨0, Nat.zero_le _, rfl, Lib.hid (fun j hj => absurd hj (Nat.not_lt_zero _)), by go_simp, by go_simp, (Below.refl _ _).alloc (Nat.le_refl _) _⟩
  case round =>
    obtain ⟨k, hk, rfl, hno, x0, x1, hnx⟩ := hrel
    by_cases hlt : k < n
    · obtain ⟨_, _, _, h0, h1, _, _, _⟩ := h.out k (by rw [hn.out]; exact hlt)
      have q0 := (hnx.cell (p := ⟨b, off + k * 4, none⟩) hb).trans h0
      have q1 := (hnx.cell (p := ⟨b, off + k * 4 + 1, none⟩) hb).trans h1
      clear h0 h1
      obtain ⟨c, hc⟩ : ∃ c, Hid ((N.getD k nd0).id = c) := ⟨_, Lib.hid rfl⟩
      rw [hc.out] at q0 q1
      obtain ⟨p, r⟩ := c
      dsimp only at q0 q1
      have hnx := Lib.hid hnx
      clear h
      by_cases e1 : p = x
      · subst e1
        by_cases e2 : r = y
        · subst e2
          have R := Lib.hid (show AtP N (p, r) k from .inr ⟨k, rfl, by rw [hn.out]; exact hlt, hc.out⟩)
          go_wp2_with fail
          go_quiet (fail)
          go_wp2_with fail
          go_ret
          exact ⟨⟨_, rfl, R.out⟩, bdrewN hnx.out _⟩
        · have R := Lib.hid (up_to hno.out (show ¬ (N.getD k nd0).id = (p, y) by rw [hc.out]; intro e; exact e2 (congrArg Prod.snd e)))
          go_wp2_with fail
          go_quiet (fail)
          go_wp2_with fail
          go_roundw
          case rel => exact ⟨k + 1, by omega, by go_num, R, by go_simp, by go_simp, bdrewN hnx.out _⟩
          case measure => simp [intOf]; omega
      · have R := Lib.hid (up_to hno.out (show ¬ (N.getD k nd0).id = (x, y) by rw [hc.out]; intro e; exact e1 (congrArg Prod.fst e)))
        go_wp2_with fail
        go_quiet (fail)
        go_wp2_with fail
        go_roundw
        case rel => exact ⟨k + 1, by omega, by go_num, R, by go_simp, by go_simp, bdrewN hnx.out _⟩
        case measure => simp [intOf]; omega
    · obtain rfl : k = n := by omega
      have R := Lib.hid (AtP.none (N := N) (fun j hj => hno.out j (by rw [← hn.out]; exact hj)))
      have hnx := Lib.hid hnx
      clear h hno
      go_wp2_with fail
      go_ret
      exact ⟨⟨_, rfl, R.out⟩, hnx.out⟩

theorem sat_nil (a : Option Addr) (ca : Nat) (x y : Int) (w : World) :
    Calls Tryd.prog 49 #[.slice a 0 ca, .agg #[.int .i64 x, .int .i64 y]] w fun e w' => (∃ z, e = .returned (.int .i64 z) ∧ AtP [] (x, y) z) ∧ Below w.heap.size w w' := by
  have R : AtP [] (x, y) (-1) := .inl ⟨rfl, by simp [idsN]⟩
  go_enter Tryd.func49, Tryd.ntmps49
  go_wp2_with fail
  refine wp_loop_rounds 1 ?_
  rw [rounds_succ]
  go_wp2_with fail
  go_ret
  exact ⟨⟨_, rfl, R⟩, (Below.refl _ _).alloc (Nat.le_refl _) _⟩

theorem sat_any (u : Value) (N : List Nd) (x y : Int) (w : World) (h : Nds w u N) :
    Calls Tryd.prog 49 #[u, .agg #[.int .i64 x, .int .i64 y]] w fun e w' => (∃ z, e = .returned (.int .i64 z) ∧ AtP N (x, y) z) ∧ Below w.heap.size w w' := by
  obtain ⟨a, cap, rfl, h1, h2, h3⟩ := h
  rcases h3 with h3 | ⟨b, off, rfl, h4, h5⟩
  · obtain rfl : N = [] := List.length_eq_zero_iff.1 h3
    exact sat_nil a cap x y w
  · exact sat_at b off cap N x y w h4 h2 h5
end Go.Proofs.YtbbnchodchgioaaDoor

/- The model's l5Reach. -/
namespace Go.Proofs.YtbbnchodchgioaaDoor
open Go.RowKit
set_option linter.unusedVariables false

theorem infoQ : (Tryd.prog.info? 25).map (fun i => (i.zero, i.size, i.bytes)) = some (some (.agg #[.int .i64 0, .int .i64 0]), 2, 16) := by kernel_rfl

theorem own_nilQ {w : World} {b : Nat} {t : TypeId} (h : w.heap[b]? = some (.cells #[] t (0, 0))) : OwnP w b (.slice (some ⟨b, 0, none⟩) 0 0) [] := ⟨0, _, t, rfl, h, Nat.le_refl _, Nat.zero_le _, fun i hi => absurd hi (Nat.not_lt_zero _)⟩
/-- How much is left, by the values. -/
def lenV : Value → Nat
  | .slice _ n _ => n
  | _ => 0
/-- What is reached, in memory of its own. -/
def RchP (L : List Pid) (w : World) (e : Ending) (w' : World) : Prop := ∃ b v, w.heap.size ≤ b ∧ e = .returned v ∧ OwnP w' b v L ∧ Below w.heap.size w w'

/-- Where the search is. -/
structure RS (N : List Nd) (a : Pid) (w wr : World) (vO vT : Value) (O T : List Pid) (bO gT : Nat) : Prop where
  out : OwnP wr bO vO O
  todo : Que wr gT vT T
  ne : bO ≠ gT
  bo : w.heap.size ≤ bO
  bt : w.heap.size ≤ gT
  bel : Below w.heap.size w wr
  rq : Rq N a O T
  ml : mu O T ≤ 200
theorem RS.up {N : List Nd} {a : Pid} {w wr w' : World} {vO vT : Value} {O T : List Pid} {bO gT : Nat} (h : RS N a w wr vO vT O T bO gT) (hb : Below wr.heap.size wr w') : RS N a w w' vO vT O T bO gT :=
  ⟨h.out.up hb h.out.lt, h.todo.up hb, h.ne, h.bo, h.bt, h.bel.trans (hb.mono h.bel.size), h.rq, h.ml⟩
theorem OwnP.at00 {w : World} {b : Nat} {u : Value} {C : List Pid} (h : OwnP w b u C) : ∀ i, i < C.length → w.cell? ⟨b, 0 + i * 2, none⟩ = some (.int .i64 (C.getD i nop).1) ∧ w.cell? ⟨b, 0 + i * 2 + 1, none⟩ = some (.int .i64 (C.getD i nop).2) := fun i hi => by
  have := h.cell i hi
  rw [Nat.zero_add]; exact this
theorem mu_skip {O T : List Pid} {b : Pid} (h : mu O (b :: T) ≤ 200) : mu O T ≤ 200 := by simp only [mu, List.length_cons] at h ⊢; omega
theorem mu_tl (N : List Nd) (O T : List Pid) (b : Pid) : 13 * (12 - O.length) + T.length < 13 * (12 - O.length) + (b :: T).length := by simp
theorem Rq.tlen {N : List Nd} (hv : nodB N = true) {a : Pid} {O T : List Pid} (h : Rq N a O T) : O.length ≤ 12 := Nat.le_trans (h.len hv) (nod_of hv).1

set_option maxRecDepth 100000 in
set_option maxHeartbeats 4000000 in
theorem srch_at (g off cp : Nat) (N : List Nd) (U : Us) (x y : Int) (w : World) (hv : nodB N = true) (hA : NdAt w g off N U) (hcp : N.length ≤ cp) :
    Calls Tryd.prog 43 #[.slice (some ⟨g, off, none⟩) N.length cp, .agg #[.int .i64 x, .int .i64 y]] w (RchP (selP N (Rp (EI N) (x, y))) w) := by
  have hNl := (nod_of hv).1
  have sat := fun p q W (hb : Below w.heap.size w W) => sat_at g off cp N p q W (Nat.lt_of_lt_of_le hA.lt hb.size) (by omega) (hA.up hb (Nat.le_refl _)).ins
  obtain ⟨i0, hi, hz0, hz1, hz2⟩ := info_parts infoQ
  have hv := Lib.hid hv
  have hA := Lib.hid hA
  obtain ⟨nn, hnn⟩ : ∃ n, Hid (N.length = n) := ⟨_, Lib.hid rfl⟩
  rw [hnn.out] at sat hNl ⊢
  have D0 := Lib.hid ((((Below.refl w.heap.size w).alloc (Nat.le_refl _) (.cells #[.int .i64 x, .int .i64 y] 25)).alloc (by simp) (.cells #[] 25)))
  go_enter Tryd.func43, Tryd.ntmps43
  go_wp2_with fail
  refine (sat x y _ D0.out).mono ?_
  rintro e w1 ⟨⟨z, rfl, hz⟩, B⟩
  have D1 := Lib.hid (bstep D0.out B)
  have hO := Lib.hid ((B.block (w.heap.size + 1) (by simp)).trans (heap_alloc_at _ (.cells #[] 25) (w.heap.size + 1) (by simp)))
  clear B D0
  rcases hz with ⟨rfl, hno⟩ | ⟨k, rfl, hk, hki⟩
  · have hnil : selP N (Rp (EI N) (x, y)) = [] := List.eq_nil_iff_forall_not_mem.2 fun b hb => hno (rp_l (mem_selP.1 hb).2)
    go_wp2_with fail
    go_ret
    exact ⟨w.heap.size + 1, .slice (some ⟨w.heap.size + 1, 0, none⟩) 0 0, by omega, rfl, by rw [hnil]; exact own_nilQ hO.out, D1.out⟩
  · rw [hnn.out] at hk
    have hA1 := Lib.hid (hA.out.up D1.out (Nat.le_refl _))
    have hids := hA1.out.ids k (by rw [hnn.out]; exact hk)
    obtain ⟨_, _, _, x3⟩ := hA1.out.cell k (by rw [hnn.out]; exact hk)
    have hgl := hA1.out.lt
    have kz : ¬ ((k : Int) < 0) := by omega
    obtain ⟨ua, hua⟩ : ∃ u, U k = u := ⟨_, rfl⟩
    rw [hua] at hids x3
    obtain ⟨ua, un, uc⟩ := ua
    dsimp only at hids x3
    go_wp2_with (at_builtin; refine wpList_append_que _ rfl _ _ 28 rfl w1.heap.size i0 Tryd.underlying28 hi hz0 hz1 hz2 _ _ [] (N.getD k nd0).deps rfl rfl (que_new w1) (hids.up ((Below.refl _ _).alloc (Nat.le_refl _) _) (Nat.le_refl _)) ?c1 ?_)
    case c1 => have := nod_dlen hv.out (k := k) (by rw [hnn.out]; exact hk); rw [List.length_nil]; omega
    intro vT w2 gT hap
    obtain ⟨hgT, hQ, hE⟩ := hap.out
    have hkn : k < N.length := by rw [hnn.out]; exact hk
    have hR : Hid (RS N (x, y) w w2 (.slice (some ⟨w.heap.size + 1, 0, none⟩) 0 0) vT [] (N.getD k nd0).deps (w.heap.size + 1) gT) := by
      have hs := lt_of_heap hO.out
      have hal : (w1.alloc (.cells #[] 25)).heap.size = w1.heap.size + 1 := by simp
      refine Lib.hid ⟨?_, hQ, by omega, by omega, by omega, ?_, by rw [← hki]; exact Rq.start hv.out (getD_mem hkn), by have := nod_dlen hv.out hkn; simp only [mu, List.length_nil]; omega⟩
      · refine own_nilQ ((hE.block _ (by rw [hal]; omega) (by omega)).trans (hold hO.out))
      · exact D1.out.trans ((((Below.refl w1.heap.size w1).alloc (Nat.le_refl _) _).trans (hE.to (B := w1.heap.size) (by rw [hal]; omega) (fun b hb => by omega))).mono D1.out.size)
    clear hO hids x3 hA1 hgl hQ hE hgT hap D1
    go_wp2_with fail
    go_loopw [5, 7] (fun vO vT wr => ∃ (O T : List Pid) (bO gT : Nat), Hid (RS N (x, y) w wr vO vT O T bO gT)) (fun vO vT _ => 13 * (12 - lenV vO) + lenV vT)
    case atStart => exact ⟨_, _, _, _, hR⟩
    case round =>
      clear hR
      obtain ⟨O, T, bO, gT, hR⟩ := hrel
      obtain ⟨oc, rfl, _⟩ := hR.out.out.shape
      obtain ⟨tf, tc, rfl, htc⟩ := hR.out.todo.shape
      have ho12 := hR.out.rq.tlen hv.out
      cases T with
      | nil =>
        have hdone := hR.out.rq.done hv.out
        go_wp2_with fail
        go_ret
        exact ⟨bO, _, hR.out.bo, rfl, by rw [← hdone]; exact hR.out.out, hR.out.bel⟩
      | cons d T =>
        obtain ⟨tf', tc', e, ht2, ht3, ht4, ht5, ht6⟩ := hR.out.todo
        injection e with e1 e2 e3
        injection e1 with e1
        injection e1 with _ e4
        subst e4; subst e3
        obtain ⟨p, q⟩ := d
        have t0 : wr.cell? ⟨gT, tf, none⟩ = some (.int .i64 p) := ht5 0 (by simp)
        have t1 : wr.cell? ⟨gT, tf + 1, none⟩ = some (.int .i64 q) := ht5 1 (by rw [List.length_cons]; omega)
        clear ht4 ht5 ht6 e2
        have hpop := hR.out.todo.pop
        obtain ⟨tn, htn⟩ : ∃ n, Hid (T.length = n) := ⟨_, Lib.hid rfl⟩
        simp only [List.length_cons] at htc ht3 hpop ⊢
        rw [htn.out] at htc ht3 hpop ⊢
        have hcase : (∃ f c, f = tf ∧ c = 0 ∧ tc = 1 ∧ tn = 0 ∧ Hid (Que wr gT (.slice (some ⟨gT, f, none⟩) tn c) T)) ∨ (∃ f c, f = tf + 2 ∧ c = tc - 1 ∧ tc ≠ 1 ∧ Hid (Que wr gT (.slice (some ⟨gT, f, none⟩) tn c) T)) := by
          by_cases h1 : tc = 1
          · exact .inl ⟨_, _, rfl, rfl, h1, by omega, Lib.hid (hpop.2 h1)⟩
          · exact .inr ⟨_, _, rfl, rfl, h1, Lib.hid (hpop.1 h1)⟩
        clear hpop
        have hbel := hR.out.bel
        have DW := Lib.hid (hbel.alloc hbel.size (.cells #[.int .i64 p, .int .i64 q] 25))
        have hws := hbel.size
        have hI := Lib.hid (heap_alloc_new wr (.cells #[.int .i64 p, .int .i64 q] 25))
        clear hbel
        have hdl := fun (k' : Nat) (hk' : k' < nn) => nod_dlen hv.out (k := k') (by rw [hnn.out]; exact hk')
        rcases hcase with ⟨f, c, rfl, rfl, h1, h2, hQ⟩ | ⟨f, c, rfl, rfl, h1, hQ⟩
        case' inl => subst h1; subst h2
        all_goals
          go_wp2_with fail
          refine (sat p q _ DW.out).mono ?_
          rintro e w3 ⟨⟨z, rfl, hz⟩, B⟩
          have Bw : Below wr.heap.size wr w3 := bstep ((Below.refl wr.heap.size wr).alloc (Nat.le_refl _) _) B
          have hI := Lib.hid (bblk B (by simp) hI.out)
          have R3 := Lib.hid (show OwnP w3 bO _ O ∧ Que w3 gT _ T ∧ Below w.heap.size w w3 from ⟨hR.out.out.up Bw hR.out.out.lt, hQ.out.up Bw, bstep DW.out B⟩)
          clear B Bw hQ t0 t1 DW
          rcases hz with ⟨rfl, hno⟩ | ⟨k', rfl, hk', hki'⟩
          · have R4 := Lib.hid (show RS N (x, y) w w3 _ _ O T bO gT from ⟨R3.out.1, R3.out.2.1, hR.out.ne, hR.out.bo, hR.out.bt, R3.out.2.2, hR.out.rq.skip (.inl hno), mu_skip hR.out.ml⟩)
            clear R3 hR hno
            go_wp2_with fail
            exact ⟨⟨_, _, _, _, R4⟩, by simp [lenV]⟩
          · rw [hnn.out] at hk'
            have kz' : ¬ ((k' : Int) < 0) := by omega
            have kz2 : (0 : Int) ≤ k' := by omega
            have hA3 := Lib.hid (hA.out.up R3.out.2.2 (Nat.le_refl _))
            have sh := shas_any (.slice (some ⟨bO, 0, none⟩) O.length oc) O p q w3 R3.out.1.read
            obtain ⟨i1, i2, _, _⟩ := blk2 hI.out
            have hlt := lt_of_heap hI.out
            cases hh : hasP O (p, q) with
            | true =>
              rw [hh] at sh
              have R4 := Lib.hid (show RS N (x, y) w w3 _ _ O T bO gT from ⟨R3.out.1, R3.out.2.1, hR.out.ne, hR.out.bo, hR.out.bt, R3.out.2.2, hR.out.rq.skip (.inr (by simpa [hasP] using hh)), mu_skip hR.out.ml⟩)
              clear R3 hR
              go_wp2_with fail
              refine sh.mono ?_
              rintro e w4 ⟨rfl, B⟩
              have R5 := Lib.hid (R4.out.up B)
              clear R4 B sh
              go_wp2_with fail
              exact ⟨⟨_, _, _, _, R5⟩, by simp [lenV]⟩
            | false =>
              rw [hh] at sh
              have hno : ¬ (p, q) ∈ O := by simpa [hasP] using hh
              go_wp2_with fail
              refine sh.mono ?_
              rintro e w4 ⟨rfl, B⟩
              obtain ⟨i1, i2, _, _⟩ := blk2 (bblk B hlt hI.out)
              have hlt4 := Nat.lt_of_lt_of_le hlt B.size
              have R4 := Lib.hid (show OwnP w4 bO _ O ∧ Que w4 gT _ T ∧ Below w.heap.size w w4 from ⟨R3.out.1.up B R3.out.1.lt, R3.out.2.1.up B, bstep R3.out.2.2 B⟩)
              have sp := sput_at bO 0 oc O p q w4 R4.out.1.lt (by omega) R4.out.1.at00
              clear R3 B sh hI
              go_wp2_with fail
              refine sp.mono ?_
              rintro e w5 ⟨b', u, hb', rfl, hO2, B⟩
              have hkN : k' < N.length := by rw [hnn.out]; exact hk'
              have hput := hR.out.rq
              have hmu := hR.out.ml
              rw [← hki'] at hput hmu hno
              have hmul := mu_put hv.out hput (getD_mem hkN) hno (hdl k' (by omega))
              have hput := hput.put hv.out (getD_mem hkN)
              rw [hki'] at hput hmul hmu
              obtain ⟨O', hO'⟩ : ∃ L, Hid (putP O (p, q) = L) := ⟨_, Lib.hid rfl⟩
              rw [hO'.out] at hO2 hput hmul
              have h6 := hR.out.bt
              have h7 := R4.out.2.1.lt
              have D5 := Lib.hid (bstep R4.out.2.2 B)
              have hs45 := B.size
              have hs4 := R4.out.2.2.size
              have R5 := Lib.hid (show OwnP w5 b' u O' ∧ Que w5 gT _ T from ⟨hO2, R4.out.2.1.up B⟩)
              obtain ⟨c', rfl, _⟩ := hO2.shape
              have hA5 := Lib.hid (hA.out.up D5.out (Nat.le_refl _))
              have hids := hA5.out.ids k' hkN
              obtain ⟨_, _, _, x3⟩ := hA5.out.cell k' hkN
              have hgl5 := hA5.out.lt
              obtain ⟨ua', hua'⟩ : ∃ u, U k' = u := ⟨_, rfl⟩
              rw [hua'] at hids x3
              obtain ⟨ua', un', uc'⟩ := ua'
              dsimp only at hids x3
              have hdk := hdl k' (by omega)
              obtain ⟨Dk, hDk⟩ : ∃ L, Hid ((N.getD k' nd0).deps = L) := ⟨_, Lib.hid rfl⟩
              rw [hDk.out] at hids hput hmul hdk
              have hlen : T.length + Dk.length ≤ 1000000 := by
                simp only [mu, List.length_cons] at hmu
                omega
              obtain ⟨F, hF⟩ : ∃ L, Hid (T ++ Dk = L) := ⟨_, Lib.hid rfl⟩
              have hgoal := Lib.hid (fun (v' : Value) (w6 : World) (g' : Nat) (hx : (g' = gT ∨ w5.heap.size ≤ g') ∧ Que w6 g' v' (T ++ Dk) ∧ Exc (fun b => b = gT) w5 w6) =>
                show RS N (x, y) w w6 (.slice (some ⟨b', 0, none⟩) O'.length c') v' O' F b' g' from
                ⟨hO2.same (hx.2.2.block b' hO2.lt (by omega)), by rw [← hF.out]; exact hx.2.1, by have := hO2.lt; rcases hx.1 with h | h <;> omega, by omega, by rcases hx.1 with h | h <;> omega, D5.out.trans (hx.2.2.to D5.out.size (fun b hb => by omega)), by rw [← hF.out]; exact hput, by rw [← hF.out]; omega⟩)
              have hms : Hid (mu O' F < mu O ((p, q) :: T)) := Lib.hid (by rw [← hF.out]; exact hmul)
              have hQ5 := R5.out.2
              clear R4 B sp hput hmul hR hO2 hno hh R5
              go_wp2_with (at_builtin; refine wpList_append_que _ rfl _ _ 28 rfl gT i0 Tryd.underlying28 hi hz0 hz1 hz2 _ _ T Dk rfl rfl hQ5 hids hlen ?_)
              intro v' w6 g' hap
              have R6 := Lib.hid (hgoal.out v' w6 g' hap.out)
              obtain ⟨of, oc', rfl, _⟩ := R6.out.todo.shape
              clear hgoal hap hQ5 hids
              go_wp2_with fail
              refine ⟨⟨_, _, _, _, R6⟩, ?_⟩
              have := hms.out
              have := htn.out
              simp only [mu, List.length_cons, lenV] at *
              omega

set_option maxRecDepth 100000 in
theorem srch_nil (a : Option Addr) (cp : Nat) (x y : Int) (w : World) :
    Calls Tryd.prog 43 #[.slice a 0 cp, .agg #[.int .i64 x, .int .i64 y]] w (RchP (selP [] (Rp (EI []) (x, y))) w) := by
  have D0 := Lib.hid ((((Below.refl w.heap.size w).alloc (Nat.le_refl _) (.cells #[.int .i64 x, .int .i64 y] 25)).alloc (by simp) (.cells #[] 25)))
  go_enter Tryd.func43, Tryd.ntmps43
  go_wp2_with fail
  refine (sat_nil a cp x y _).mono ?_
  rintro e w1 ⟨⟨z, rfl, hz⟩, B⟩
  have D1 := Lib.hid (bstep D0.out B)
  have hO := Lib.hid ((B.block (w.heap.size + 1) (by simp)).trans (heap_alloc_at _ (.cells #[] 25) (w.heap.size + 1) (by simp)))
  clear B D0
  rcases hz with ⟨rfl, hno⟩ | ⟨k, rfl, hk, hki⟩
  · go_wp2_with fail
    go_ret
    exact ⟨w.heap.size + 1, .slice (some ⟨w.heap.size + 1, 0, none⟩) 0 0, by omega, rfl, own_nilQ hO.out, D1.out⟩
  · exact absurd hk (Nat.not_lt_zero _)

/-- THE MODEL'S REACH. -/
theorem srch_any (u : Value) (N : List Nd) (x y : Int) (w : World) (hv : nodB N = true) (h : Nds w u N) :
    Calls Tryd.prog 43 #[u, .agg #[.int .i64 x, .int .i64 y]] w (RchP (selP N (Rp (EI N) (x, y))) w) := by
  obtain ⟨a, cap, rfl, h1, h2, h3⟩ := h
  rcases h3 with h3 | ⟨b, off, rfl, h4, h5⟩
  · obtain rfl : N = [] := List.length_eq_zero_iff.1 h3
    exact srch_nil a cap x y w
  · obtain ⟨U, hA⟩ := NdAt.of h4 h5
    exact srch_at b off cap N U x y w hv hA h1
end Go.Proofs.YtbbnchodchgioaaDoor

/- The model's l5Has, l5Ready and NodesReady. -/
namespace Go.Proofs.YtbbnchodchgioaaDoor
open Go.RowKit
set_option linter.unusedVariables false

theorem okI_at {N : List Nd} (hv : nodB N = true) {k : Nat} (hk : k < N.length) {a : Pid} (ha : (N.getD k nd0).id = a) : OkI N a ↔ ∀ d ∈ (N.getD k nd0).deps, d ∈ idsN N := by
  constructor
  · intro h d hd; exact h _ (getD_mem hk) ha d hd
  · intro h x hx e d hd
    rw [getD_uniq hv hx (getD_mem hk) (e.trans ha.symm)] at hd
    exact h d hd
theorem okI_row {N : List Nd} {L : List Pid} (h : ∀ j, j < L.length → L.getD j nop ∈ idsN N) : ∀ d ∈ L, d ∈ idsN N := by
  intro d hd
  obtain ⟨j, hj, rfl⟩ := List.getElem_of_mem hd
  have := h j hj
  rw [List.getD_eq_getElem?_getD, List.getElem?_eq_getElem hj] at this; exact this
theorem getD_memQ {L : List Pid} {j : Nat} (hj : j < L.length) : L.getD j nop ∈ L := by
  rw [List.getD_eq_getElem?_getD, List.getElem?_eq_getElem hj]; exact List.getElem_mem hj
/-- A readable slice that is not empty. -/
theorem Ids.some {w : World} {a : Option Addr} {n c : Nat} {C : List Pid} (h : Ids w (.slice a n c) C) (hn : 0 < C.length) : n = C.length ∧ C.length ≤ c ∧ ∃ b off, a = some ⟨b, off, none⟩ ∧ b < w.heap.size ∧ ∀ i, i < C.length → w.cell? ⟨b, off + i * 2, none⟩ = some (.int .i64 (C.getD i nop).1) ∧ w.cell? ⟨b, off + i * 2 + 1, none⟩ = some (.int .i64 (C.getD i nop).2) := by
  obtain ⟨a', c', e, h1, h2, h3⟩ := h
  injection e with e1 e2 e3
  subst e1; subst e3
  rcases h3 with h3 | ⟨b, off, h4, h5, h6⟩
  · omega
  · exact ⟨e2, h1, b, off, h4, h5, h6⟩
theorem Ids.len {w : World} {a : Option Addr} {n c : Nat} {C : List Pid} (h : Ids w (.slice a n c) C) : n = C.length ∧ C.length ≤ c := by
  obtain ⟨a', c', e, h1, h2, h3⟩ := h
  injection e with e1 e2 e3
  subst e3; exact ⟨e2, h1⟩

set_option maxRecDepth 100000 in
set_option maxHeartbeats 4000000 in
theorem sok_at (g off cp : Nat) (N : List Nd) (U : Us) (x y : Int) (w : World) (hv : nodB N = true) (hA : NdAt w g off N U) (hcp : N.length ≤ cp) (hin : (x, y) ∈ idsN N) :
    Calls Tryd.prog 70 #[.slice (some ⟨g, off, none⟩) N.length cp, .agg #[.int .i64 x, .int .i64 y]] w fun e w' => (∃ b : Bool, e = .returned (.bool b) ∧ (b = true ↔ OkI N (x, y))) ∧ Below w.heap.size w w' := by
  have hNl := (nod_of hv).1
  have sat := fun p q W (hb : Below w.heap.size w W) => sat_at g off cp N p q W (Nat.lt_of_lt_of_le hA.lt hb.size) (by omega) (hA.up hb (Nat.le_refl _)).ins
  have hv := Lib.hid hv
  have hA := Lib.hid hA
  obtain ⟨nn, hnn⟩ : ∃ n, Hid (N.length = n) := ⟨_, Lib.hid rfl⟩
  rw [hnn.out] at sat hNl hcp ⊢
  have D0 := Lib.hid ((Below.refl w.heap.size w).alloc (Nat.le_refl _) (.cells #[.int .i64 x, .int .i64 y] 25))
  go_enter Tryd.func70, Tryd.ntmps70
  go_wp2_with fail
  refine (sat x y _ D0.out).mono ?_
  rintro e w1 ⟨⟨z, rfl, hz⟩, B⟩
  have D1 := Lib.hid (bstep D0.out B)
  clear B D0
  rcases hz with ⟨rfl, hno⟩ | ⟨k, rfl, hk, hki⟩
  · exact absurd hin hno
  · have hkN := hk
    rw [hnn.out] at hk
    have hokI := Lib.hid (okI_at hv.out hkN hki)
    have hA1 := Lib.hid (hA.out.up D1.out (Nat.le_refl _))
    have hids := hA1.out.ids k hkN
    obtain ⟨_, _, _, x3⟩ := hA1.out.cell k hkN
    have hgl := hA1.out.lt
    have hdl := nod_dlen hv.out hkN
    obtain ⟨ua, hua⟩ : ∃ u, U k = u := ⟨_, rfl⟩
    rw [hua] at hids x3
    obtain ⟨ua, un, uc⟩ := ua
    dsimp only at hids x3
    obtain ⟨L, hL⟩ : ∃ L, Hid ((N.getD k nd0).deps = L) := ⟨_, Lib.hid rfl⟩
    rw [hL.out] at hids hdl hokI
    obtain ⟨rfl, hul⟩ := hids.len
    have hids := Lib.hid hids
    obtain ⟨n, hn⟩ : ∃ n, Hid (L.length = n) := ⟨_, Lib.hid rfl⟩
    rw [hn.out] at x3 hdl hul hids
    clear hki hkN hin
    go_wp2_with fail
    go_loopw [6] (fun i wr => ∃ k : Nat, k ≤ n ∧ i = .int .i64 k ∧ Hid (∀ j, j < k → L.getD j nop ∈ idsN N) ∧ Hid (Below w1.heap.size w1 wr)) (fun i _ => n - (intOf i).toNat)
    case atStart => exact ⟨0, Nat.zero_le _, rfl, Lib.hid fun j hj => absurd hj (Nat.not_lt_zero _), Lib.hid (Below.refl _ _)⟩
    case round =>
      obtain ⟨j, hj, rfl, hd, hB⟩ := hrel
      by_cases hlt : j < n
      · obtain ⟨-, -, b, of, rfl, hbl, hcs⟩ := hids.out.some (by rw [hn.out]; omega)
        obtain ⟨c0, c1⟩ := hcs j (by rw [hn.out]; exact hlt)
        have c0 := (hB.out.cell (p := ⟨b, of + j * 2, none⟩) hbl).trans c0
        have c1 := (hB.out.cell (p := ⟨b, of + j * 2 + 1, none⟩) hbl).trans c1
        obtain ⟨d, hdd⟩ : ∃ d, Hid (L.getD j nop = d) := ⟨_, Lib.hid rfl⟩
        rw [hdd.out] at c0 c1
        obtain ⟨p, q⟩ := d
        dsimp only at c0 c1
        clear hcs x3
        have DW := Lib.hid (bstep D1.out hB.out)
        go_wp2_with fail
        refine (sat p q _ DW.out).mono ?_
        rintro e w3 ⟨⟨z, rfl, hz⟩, B⟩
        have hB3 := Lib.hid (bstep hB.out B)
        have D3 := Lib.hid (bstep DW.out B)
        clear B DW c0 c1
        rcases hz with ⟨rfl, hno⟩ | ⟨k', rfl, hk', hki'⟩
        · go_wp2_with fail
          go_ret
          exact ⟨⟨false, rfl, ⟨fun h => (nomatch h), fun h => absurd (by rw [← hdd.out]; exact hokI.out.1 h _ (getD_memQ (by rw [hn.out]; exact hlt))) hno⟩⟩, D3.out⟩
        · have kz : ¬ ((k' : Int) < 0) := by omega
          have R := Lib.hid (up_to hd.out (show L.getD j nop ∈ idsN N by rw [hdd.out]; exact mem_idsN.2 ⟨k', hk', hki'⟩))
          clear hk' hki'
          go_wp2_with fail
          go_roundw
          case rel => exact ⟨j + 1, by omega, by go_num, R, hB3⟩
          case measure => simp [intOf]; omega
      · obtain rfl : j = n := by omega
        have DW := Lib.hid (bstep D1.out hB.out)
        go_wp2_with fail
        go_ret
        exact ⟨⟨true, rfl, ⟨fun _ => hokI.out.2 (okI_row fun i hi => hd.out i (by rw [← hn.out]; exact hi)), fun _ => rfl⟩⟩, DW.out⟩

theorem rdI_parts {N : List Nd} {a : Pid} : RdI N a ↔ OkI N a ∧ ∀ b, Rp (EI N) a b → OkI N b := by
  constructor
  · intro h; exact ⟨h a (.refl a), fun b hb => h b hb.rt⟩
  · rintro ⟨h1, h2⟩ b hb
    rcases hb.cases with e | e
    · subst e; exact h1
    · exact h2 b e

set_option maxRecDepth 100000 in
set_option maxHeartbeats 4000000 in
/-- THE MODEL'S READINESS of a node. -/
theorem srdy_at (g off cp : Nat) (N : List Nd) (U : Us) (x y : Int) (w : World) (hv : nodB N = true) (hA : NdAt w g off N U) (hcp : N.length ≤ cp) (hin : (x, y) ∈ idsN N) :
    Calls Tryd.prog 51 #[.slice (some ⟨g, off, none⟩) N.length cp, .agg #[.int .i64 x, .int .i64 y]] w fun e w' => (∃ b : Bool, e = .returned (.bool b) ∧ (b = true ↔ RdI N (x, y))) ∧ Below w.heap.size w w' := by
  have sr := fun p q W (hb : Below w.heap.size w W) => srch_at g off cp N U p q W hv (hA.up hb (Nat.le_refl _)) hcp
  have so := fun p q W (hb : Below w.heap.size w W) (hi : (p, q) ∈ idsN N) => sok_at g off cp N U p q W hv (hA.up hb (Nat.le_refl _)) hcp hi
  have hsl : (selP N (Rp (EI N) (x, y))).length ≤ 12 := Nat.le_trans (selP_len N _) (nod_of hv).1
  have hm : Hid (∀ b, b ∈ selP N (Rp (EI N) (x, y)) ↔ Rp (EI N) (x, y) b) := Lib.hid fun b => ⟨fun h => (mem_selP.1 h).2, fun h => mem_selP.2 ⟨rp_r h, h⟩⟩
  have hrd := Lib.hid (rdI_parts (N := N) (a := (x, y)))
  have hin := Lib.hid hin
  obtain ⟨nn, hnn⟩ : ∃ n, Hid (N.length = n) := ⟨_, Lib.hid rfl⟩
  rw [hnn.out] at sr so ⊢
  have D0 := Lib.hid ((Below.refl w.heap.size w).alloc (Nat.le_refl _) (.cells #[.int .i64 x, .int .i64 y] 25))
  have hI := Lib.hid (heap_alloc_new w (.cells #[.int .i64 x, .int .i64 y] 25))
  have so1 := fun p q W (hb : Below w.heap.size w W) (hi : Hid ((p, q) ∈ idsN N)) => so p q W hb hi.out
  clear hA hcp so
  go_enter Tryd.func51, Tryd.ntmps51
  go_wp2_with fail
  refine (sr x y _ D0.out).mono ?_
  rintro e w1 ⟨b, v, hb, rfl, hO, B⟩
  have D1 := Lib.hid (bstep D0.out B)
  have hI := Lib.hid (bblk B (by simp) hI.out)
  generalize selP N (Rp (EI N) (x, y)) = L at hO hsl hm
  obtain ⟨oc, rfl, hoc⟩ := hO.shape
  have hO := Lib.hid hO
  clear B D0
  obtain ⟨n, hn⟩ : ∃ n, Hid (L.length = n) := ⟨_, Lib.hid rfl⟩
  rw [hn.out] at hoc hsl ⊢
  have hbl := hO.out.lt
  have hil := lt_of_heap hI.out
  go_wp2_with fail
  go_loopw [6] (fun i wr => ∃ k : Nat, k ≤ n ∧ i = .int .i64 k ∧ Hid (∀ j, j < k → OkI N (L.getD j nop)) ∧ Hid (Below w1.heap.size w1 wr)) (fun i _ => n - (intOf i).toNat)
  case atStart => exact ⟨0, Nat.zero_le _, rfl, Lib.hid fun j hj => absurd hj (Nat.not_lt_zero _), Lib.hid (Below.refl _ _)⟩
  case round =>
    obtain ⟨j, hj, rfl, hd, hB⟩ := hrel
    have DW := Lib.hid (bstep D1.out hB.out)
    by_cases hlt : j < n
    · obtain ⟨c0, c1⟩ := hO.out.cell j (by rw [hn.out]; exact hlt)
      have c0 := (hB.out.cell (p := ⟨b, j * 2, none⟩) hbl).trans c0
      have c1 := (hB.out.cell (p := ⟨b, j * 2 + 1, none⟩) hbl).trans c1
      have hr := (hm.out _).1 (getD_memQ (L := L) (j := j) (by rw [hn.out]; exact hlt))
      obtain ⟨d, hdd⟩ : ∃ d, Hid (L.getD j nop = d) := ⟨_, Lib.hid rfl⟩
      rw [hdd.out] at c0 c1 hr
      obtain ⟨p, q⟩ := d
      dsimp only at c0 c1
      have hr := Lib.hid hr
      have hin2 := Lib.hid (rp_r hr.out)
      go_wp2_with fail
      refine (so1 p q _ DW.out hin2).mono ?_
      rintro e w3 ⟨⟨z, rfl, hz⟩, B⟩
      have hB3 := Lib.hid (bstep hB.out B)
      have D3 := Lib.hid (bstep DW.out B)
      have hz := Lib.hid hz
      clear B DW c0 c1
      cases z with
      | false =>
        go_wp2_with fail
        go_ret
        refine ⟨⟨false, rfl, ⟨fun h => (nomatch h), fun h => ?_⟩⟩, D3.out⟩
        exact hz.out.2 ((hrd.out.1 h).2 _ hr.out)
      | true =>
        have R := Lib.hid (up_to hd.out (show OkI N (L.getD j nop) by rw [hdd.out]; exact hz.out.1 rfl))
        clear hz
        go_wp2_with fail
        go_roundw
        case rel => exact ⟨j + 1, by omega, by go_num, R, hB3⟩
        case measure => simp [intOf]; omega
    · obtain rfl : j = n := by omega
      obtain ⟨i1, i2, _, _⟩ := blk2 (bblk hB.out (by omega) hI.out)
      have hil2 := Nat.lt_of_lt_of_le hil hB.out.size
      go_wp2_with fail
      refine (so1 x y _ DW.out hin).mono ?_
      rintro e w3 ⟨⟨z, rfl, hz⟩, B⟩
      have D3 := Lib.hid (bstep DW.out B)
      have hz := Lib.hid hz
      clear B DW
      go_wp2_with fail
      go_ret
      refine ⟨⟨z, rfl, ⟨fun h => hrd.out.2 ⟨hz.out.1 h, fun c hc => ?_⟩, fun h => hz.out.2 (hrd.out.1 h).1⟩⟩, D3.out⟩
      obtain ⟨i, hi, rfl⟩ := List.getElem_of_mem ((hm.out c).2 hc)
      have := hd.out i (by rw [← hn.out]; exact hi)
      rw [List.getD_eq_getElem?_getD, List.getElem?_eq_getElem hi] at this; exact this

set_option maxRecDepth 100000 in
/-- THE MODEL'S NodesReady. -/
theorem sready_any (u : Value) (N : List Nd) (x y : Int) (w : World) (h : Nds w u N) :
    Calls Tryd.prog 25 #[u, .agg #[.int .i64 x, .int .i64 y]] w fun e w' => e = .returned (.bool (readyR N (x, y))) ∧ Below w.heap.size w w' := by
  have D0 := (Below.refl w.heap.size w).alloc (Nat.le_refl _) (.cells #[.int .i64 x, .int .i64 y] 25)
  have sv := snval_any u N _ (h.up D0 (Nat.le_refl _))
  have hI := Lib.hid (heap_alloc_new w (.cells #[.int .i64 x, .int .i64 y] 25))
  have D0 := Lib.hid D0
  have h := Lib.hid h
  have hrr := Lib.hid (readyR_iff (N := N) (a := (x, y)))
  go_enter Tryd.func25, Tryd.ntmps25
  go_wp2_with fail
  refine sv.mono ?_
  rintro e w1 ⟨rfl, B⟩
  have D1 := Lib.hid (bstep D0.out B)
  have hI := Lib.hid (bblk B (by simp) hI.out)
  clear B D0 sv
  cases hv : nodB N with
  | false =>
    have hq : readyR N (x, y) = false := Bool.eq_false_iff.2 fun hh => by have := (hrr.out.1 hh).1; rw [hv] at this; cases this
    have hq := Lib.hid hq
    clear hv
    go_wp2_with fail
    go_ret
    exact ⟨ret_bool hq.out.symm, D1.out⟩
  | true =>
    have hv := Lib.hid hv
    obtain ⟨i1, i2, _, _⟩ := blk2 hI.out
    have hil := lt_of_heap hI.out
    have sa := sat_any u N x y w1 (h.out.up D1.out (Nat.le_refl _))
    go_wp2_with fail
    refine sa.mono ?_
    rintro e w2 ⟨⟨z, rfl, hz⟩, B⟩
    have D2 := Lib.hid (bstep D1.out B)
    have hI := Lib.hid (bblk B hil hI.out)
    obtain ⟨i1, i2, _, _⟩ := blk2 hI.out
    have hil := lt_of_heap hI.out
    clear B D1 sa
    rcases hz with ⟨rfl, hno⟩ | ⟨k, rfl, hk, hki⟩
    · have hq : readyR N (x, y) = false := Bool.eq_false_iff.2 fun hh => hno (hrr.out.1 hh).2.1
      have hq := Lib.hid hq
      go_wp2_with fail
      go_ret
      exact ⟨ret_bool hq.out.symm, D2.out⟩
    · have kz : (0 : Int) ≤ k := by omega
      have hin := mem_idsN.2 ⟨k, hk, hki⟩
      obtain ⟨a, cap, rfl, h1, h2, h3⟩ := h.out
      rcases h3 with h3 | ⟨b, off, rfl, h4, h5⟩
      · omega
      · obtain ⟨U, hA⟩ := NdAt.of h4 h5
        have sr := srdy_at b off cap N U x y w2 hv.out (hA.up D2.out (Nat.le_refl _)) h1 hin
        have hin := Lib.hid hin
        clear h1 h2 h4 h5 hA hk hki
        go_wp2_with fail
        refine sr.mono ?_
        rintro e w3 ⟨⟨z, rfl, hz⟩, B⟩
        have D3 := Lib.hid (bstep D2.out B)
        have hz := Lib.hid hz
        clear B D2 sr
        go_wp2_with fail
        go_ret
        exact ⟨ret_bool (Bool.eq_iff_iff.2 ⟨fun hh => hrr.out.2 ⟨hv.out, hin.out, hz.out.1 hh⟩, fun hh => hz.out.2 (hrr.out.1 hh).2.2⟩), D3.out⟩
end Go.Proofs.YtbbnchodchgioaaDoor

/- Plain facts: places in lists; orders of fewer nodes; orders of nodes that depend on nothing. -/
namespace Go.Proofs.YtbbnchodchgioaaDoor
set_option linter.unusedVariables false

/-- The place of an id, or -1. -/
def PlP (L : List Pid) (a : Pid) (z : Int) : Prop := (z = -1 ∧ ¬ a ∈ L) ∨ ∃ k : Nat, z = k ∧ k < L.length ∧ L.getD k nop = a ∧ ∀ j, j < k → ¬ L.getD j nop = a
theorem getD_memL {L : List Pid} {j : Nat} (hj : j < L.length) : L.getD j nop ∈ L := by
  rw [List.getD_eq_getElem?_getD, List.getElem?_eq_getElem hj]; exact List.getElem_mem hj
theorem PlP.none {L : List Pid} {a : Pid} (h : ∀ j, j < L.length → ¬ L.getD j nop = a) : PlP L a (-1) := by
  refine .inl ⟨rfl, fun hm => ?_⟩
  obtain ⟨k, hk, e⟩ := List.getElem_of_mem hm
  exact h k hk (by rw [List.getD_eq_getElem?_getD, List.getElem?_eq_getElem hk]; exact e)
theorem PlP.le {L : List Pid} {a : Pid} {z : Int} (h : PlP L a z) {i : Nat} (hi : i < L.length) (e : L.getD i nop = a) : z ≤ i := by
  rcases h with ⟨h, _⟩ | ⟨k, h, _, _, hf⟩
  · omega
  · rcases Nat.lt_or_ge i k with hl | hl
    · exact absurd e (hf i hl)
    · omega
theorem PlP.get {L : List Pid} {a : Pid} {z : Int} (h : PlP L a z) (ha : a ∈ L) : ∃ k : Nat, z = k ∧ k < L.length ∧ L.getD k nop = a := by
  rcases h with ⟨_, h⟩ | ⟨k, h, h1, h2, _⟩
  · exact absurd ha h
  · exact ⟨k, h, h1, h2⟩
theorem pw_getD {R : Pid → Pid → Prop} {L : List Pid} (h : L.Pairwise R) {i j : Nat} (hij : i < j) (hj : j < L.length) : R (L.getD i nop) (L.getD j nop) := by
  have := List.pairwise_iff_getElem.1 h i j (by omega) hj hij
  rw [List.getD_eq_getElem?_getD, List.getD_eq_getElem?_getD, List.getElem?_eq_getElem hj, List.getElem?_eq_getElem (show i < L.length by omega)]
  exact this
theorem nodup_ne {L : List Pid} (h : L.Nodup) {i j : Nat} (hi : i < L.length) (hj : j < L.length) (e : L.getD i nop = L.getD j nop) : i = j := by
  rcases Nat.lt_trichotomy i j with hl | hl | hl
  · exact absurd e (pw_getD h hl hj)
  · exact hl
  · exact absurd e.symm (pw_getD h hl hi)
/-- In a list without doubles places ascend. -/
theorem pl_pw {L : List Pid} (h : L.Nodup) : L.Pairwise fun a b => ∀ x y, PlP L a x → PlP L b y → x ≤ y := by
  refine List.pairwise_iff_getElem.2 fun i j hi hj hij x y hx hy => ?_
  have ei : L.getD i nop = L[i] := by rw [List.getD_eq_getElem?_getD, List.getElem?_eq_getElem hi]; rfl
  have ej : L.getD j nop = L[j] := by rw [List.getD_eq_getElem?_getD, List.getElem?_eq_getElem hj]; rfl
  have h1 := hx.le hi ei
  obtain ⟨k, rfl, hk, e⟩ := hy.get (List.getElem_mem hj)
  have := nodup_ne h hk hj (e.trans ej.symm)
  omega

/-- N' is N without some nodes. -/
structure Few (N' N : List Nd) : Prop where
  v' : nodB N' = true
  v : nodB N = true
  sub : ∀ x ∈ N', x ∈ N
section
variable {N' N : List Nd}
theorem Few.ids (h : Few N' N) {a : Pid} (ha : a ∈ idsN N') : a ∈ idsN N := by
  obtain ⟨x, hx, rfl⟩ := List.mem_map.1 ha
  exact List.mem_map_of_mem (h.sub x hx)
theorem Few.edge (h : Few N' N) {a b : Pid} (e : EI N' a b) : EI N a b := by
  obtain ⟨h1, x, hx, h2, h3⟩ := e
  exact ⟨h.ids h1, x, h.sub x hx, h2, h3⟩
theorem Few.edge' (h : Few N' N) {a b : Pid} (ha : a ∈ idsN N') (hr : RdI N' a) (e : EI N a b) : EI N' a b := by
  obtain ⟨x, hx, rfl⟩ := List.mem_map.1 ha
  obtain ⟨_, y, hy, h2, h3⟩ := e
  have := getD_uniq h.v hy (h.sub x hx) h2
  subst this
  exact ⟨hr _ (.refl _) _ hx rfl b h3, _, hx, rfl, h3⟩
theorem Few.rt (h : Few N' N) {a b : Pid} (e : Rt (EI N') a b) : Rt (EI N) a b := by
  induction e with
  | refl => exact .refl _
  | head e _ ih => exact .head (h.edge e) ih
theorem Few.rt' (h : Few N' N) {a b : Pid} (e : Rt (EI N) a b) : a ∈ idsN N' → RdI N' a → Rt (EI N') a b := by
  induction e with
  | refl => intro _ _; exact .refl _
  | head e _ ih =>
    intro ha hr
    have e' := h.edge' ha hr e
    exact .head e' (ih e'.r (hr.on (.one e')))
theorem Few.rp (h : Few N' N) {a b : Pid} (ha : a ∈ idsN N') (hr : RdI N' a) : Rp (EI N') a b ↔ Rp (EI N) a b := by
  constructor
  · rintro ⟨c, h1, h2⟩; exact ⟨c, h.edge h1, h.rt h2⟩
  · rintro ⟨c, h1, h2⟩
    have e' := h.edge' ha hr h1
    exact ⟨c, e', h.rt' h2 e'.r (hr.on (.one e'))⟩
theorem Few.sc (h : Few N' N) {a b : Pid} (ha : a ∈ idsN N') (hr : RdI N' a) : Sc (EI N') a b ↔ Sc (EI N) a b := by
  constructor
  · rintro ⟨h1, h2⟩; exact ⟨h.rt h1, h.rt h2⟩
  · rintro ⟨h1, h2⟩
    have h1' := h.rt' h1 ha hr
    exact ⟨h1', h.rt' h2 (rt_in h1' ha) (hr.on h1')⟩
theorem Few.rdy (h : Few N' N) {a : Pid} (ha : a ∈ idsN N') (hr : RdI N' a) : RdI N a := by
  intro b hb x hx e d hd
  have hb' := h.rt' hb ha hr
  have hbi := rt_in hb' ha
  obtain ⟨y, hy, hye⟩ := List.mem_map.1 hbi
  have := getD_uniq h.v hx (h.sub y hy) (e.trans hye.symm)
  subst this
  exact h.ids (hr b hb' _ hy e d hd)
theorem Few.seq (h : Few N' N) {a : Pid} (ha : a ∈ idsN N') : seqP N' a = seqP N a := by
  obtain ⟨x, hx, rfl⟩ := List.mem_map.1 ha
  rw [seqP_of h.v' hx, seqP_of h.v (h.sub x hx)]
theorem Few.soon (h : Few N' N) {a b : Pid} (ha : a ∈ idsN N') (hb : b ∈ idsN N') : Soon N' a b ↔ Soon N a b := by
  unfold Soon; rw [h.seq ha, h.seq hb]
/-- What is ready with fewer nodes runs in the same order. -/
theorem Few.order (h : Few N' N) {R : Pid → Prop} {L : List Pid} (o : Ord N R L) (hc : Clo N R) : ∀ {R' : Pid → Prop} {L' : List Pid}, Ord N' R' L' → (∀ a, a ∈ idsN N' → RdI N' a → (R' a ↔ R a)) → L'.Sublist L := by
  -- which are free
  have fr : ∀ {R R' : Pid → Prop}, (∀ a, a ∈ idsN N' → RdI N' a → (R' a ↔ R a)) → ∀ a, a ∈ idsN N' → RdI N' a → (FreeI N' R' a ↔ FreeI N R a) := by
    intro R R' hR a ha hr
    constructor
    · rintro ⟨_, h2, _, h4⟩
      refine ⟨h.ids ha, fun hh => h2 ((hR a ha hr).2 hh), h.rdy ha hr, fun b hb => ?_⟩
      have hb' := (h.rp ha hr).2 hb
      exact (h4 b hb').imp (hR b (rp_r hb') (hr.on hb'.rt)).1 (h.sc ha hr).1
    · rintro ⟨_, h2, _, h4⟩
      refine ⟨ha, fun hh => h2 ((hR a ha hr).1 hh), hr, fun b hb' => ?_⟩
      exact (h4 b ((h.rp ha hr).1 hb')).imp (hR b (rp_r hb') (hr.on hb'.rt)).2 (h.sc ha hr).2
  induction o with
  | stop R hs =>
    intro R' L' o' hR
    cases o' with
    | stop => exact List.Sublist.slnil
    | run _ a M L hi => exact absurd ((fr hR a hi.1 hi.2.2.1).1 hi) (hs a)
  | run R a M L hi hf hM hs t ih =>
    intro R' L' o' hR
    have hc' := hi.clo hM hc
    by_cases ha : a ∈ idsN N' ∧ RdI N' a
    · obtain ⟨ha, hr⟩ := ha
      have hi' := (fr hR a ha hr).2 hi
      cases o' with
      | stop _ hs' => exact absurd hi' (hs' a)
      | run _ a2 M2 L2 hi2 hf2 hM2 hs2 t2 =>
        have e : a2 = a := by
          rcases hf a2 ((fr hR a2 hi2.1 hi2.2.2.1).1 hi2) with e | e
          · exact e
          · rcases hf2 a hi' with e2 | e2
            · exact e2.symm
            · exact absurd ((h.soon ha hi2.1).2 e) e2.asym
        subst e
        have em : M2 = M := by
          refine soon_ext (N := N) (List.Pairwise.imp_of_mem (fun {x y} hx hy hxy => ?_) hs2) hs fun x => by rw [hM2, hM, h.sc ha hr]
          exact (h.soon (sc_in ((hM2 x).1 hx) ha) (sc_in ((hM2 y).1 hy) ha)).1 hxy
        subst em
        refine List.Sublist.append (List.Sublist.refl _) (ih hc' t2 fun b hb hbr => ?_)
        exact or_congr (hR b hb hbr) Iff.rfl
    · refine List.Sublist.trans (ih hc' o' fun b hb hbr => ?_) (List.sublist_append_right M L)
      rw [hR b hb hbr]
      constructor
      · exact .inl
      · rintro (hh | hh)
        · exact hh
        · have hsc := ((hM b).1 hh).symm
          have := (h.sc hb hbr).2 hsc
          exact absurd ⟨rt_in this.1 hb, hbr.on this.1⟩ ha
end
/-- Orders of nodes, and of fewer of them. -/
theorem less_pl {N' N : List Nd} (h : Few N' N) {L L' : List Pid} (o : Ord N (fun _ => False) L) (o' : Ord N' (fun _ => False) L') : L'.Pairwise fun a b => ∀ x y, PlP L a x → PlP L b y → x ≤ y :=
  List.Pairwise.sublist (h.order o (clo_none N) o' fun _ _ _ => Iff.rfl) (pl_pw (o.nodup (clo_none N)))

/-- Without anything to wait for. -/
theorem bare_rt {N : List Nd} (h : ∀ x ∈ N, x.deps = []) {a b : Pid} (e : Rt (EI N) a b) : a = b := by
  cases e with
  | refl => rfl
  | head e _ =>
    obtain ⟨_, x, hx, _, hd⟩ := e
    rw [h x hx] at hd; cases hd
theorem bare_order {N : List Nd} (h : ∀ x ∈ N, x.deps = []) {R : Pid → Prop} {L : List Pid} (o : Ord N R L) (hc : Clo N R) : L.Pairwise (Soon N) := by
  induction o with
  | stop => exact List.Pairwise.nil
  | run R a M L hi hf hM hs t ih =>
    have hc' := hi.clo hM hc
    have hMa : ∀ b, b ∈ M → b = a := fun b hb => (bare_rt h ((hM b).1 hb).1).symm
    refine List.pairwise_append.2 ⟨hs, ih hc', fun x hx y hy => ?_⟩
    rw [hMa x hx]
    have hm := (t.mem hc' y).1 hy
    have hy' : FreeI N R y := ⟨hm.1, fun hh => hm.2.2 (.inl hh), hm.2.1, fun b hb => .inr (by rw [bare_rt h hb.rt]; exact .refl _)⟩
    rcases hf y hy' with e | e
    · subst e; exact absurd (.inr ((hM _).2 (.refl _))) hm.2.2
    · exact e
theorem bare_rdy {N : List Nd} (h : ∀ x ∈ N, x.deps = []) (a : Pid) : RdI N a := fun b _ x hx _ d hd => by rw [h x hx] at hd; cases hd
theorem bare_pl {N : List Nd} (h : ∀ x ∈ N, x.deps = []) {L : List Pid} (o : Ord N (fun _ => False) L) {a b : Pid} (ha : a ∈ idsN N) (hb : b ∈ idsN N) (hs : Soon N a b) {x y : Int} (hx : PlP L a x) (hy : PlP L b y) : x ≤ y := by
  have hp := bare_order h o (clo_none N)
  have inL : ∀ c, c ∈ idsN N → c ∈ L := fun c hc => (o.mem (clo_none N) c).2 ⟨hc, bare_rdy h c, id⟩
  obtain ⟨i, rfl, hi, ei⟩ := hx.get (inL a ha)
  obtain ⟨j, rfl, hj, ej⟩ := hy.get (inL b hb)
  rcases Nat.lt_or_ge j i with hl | hl
  · have := pw_getD hp hl hi
    rw [ei, ej] at this
    exact absurd hs this.asym
  · omega
theorem bare_len {N : List Nd} (hv : nodB N = true) (h : ∀ x ∈ N, x.deps = []) {L : List Pid} (o : Ord N (fun _ => False) L) : L.length = N.length := by
  rw [← idsN_len]
  have hn : (idsN N).Nodup := List.Pairwise.imp (fun {a b} hab e => by subst e; rw [ltP_irr] at hab; cases hab) (nod_of hv).2.2
  exact Nat.le_antisymm (nodup_len (o.nodup (clo_none N)) fun x hx => ((o.mem (clo_none N) x).1 hx).1) (nodup_len hn fun x hx => (o.mem (clo_none N) x).2 ⟨hx, bare_rdy h x, id⟩)
end Go.Proofs.YtbbnchodchgioaaDoor

/- What NodesOrder answers. -/
namespace Go.Proofs.YtbbnchodchgioaaDoor
open Go.RowKit
set_option linter.unusedVariables false

/-- What NodesOrder answers. -/
def OrdP (N : List Nd) (L : List Pid) : Prop := (nodB N = false → L = []) ∧ (nodB N = true → Ord N (fun _ => False) L)
theorem OrdP.det {N : List Nd} {L L' : List Pid} (h : OrdP N L) (g : OrdP N L') : L = L' := by
  cases hv : nodB N with
  | false => rw [h.1 hv, g.1 hv]
  | true => exact (h.2 hv).det (g.2 hv)
/-- What NodesOrder leaves. -/
def OnP (N : List Nd) (w : World) (e : Ending) (w' : World) : Prop := ∃ b v L, w.heap.size ≤ b ∧ e = .returned v ∧ OwnP w' b v L ∧ OrdP N L ∧ L.length ≤ 12 ∧ Below w.heap.size w w'
end Go.Proofs.YtbbnchodchgioaaDoor

/- Plain facts for the laws of what is reached, groups and what is ready. -/
namespace Go.Proofs.YtbbnchodchgioaaDoor
set_option linter.unusedVariables false

theorem hasP_t {L : List Pid} {a : Pid} : hasP L a = true ↔ a ∈ L := by simp [hasP]
theorem hasP_f {L : List Pid} {a : Pid} : hasP L a = false ↔ ¬ a ∈ L := by simp [hasP]
theorem getD_inL {L : List Pid} {i : Nat} (hi : i < L.length) : L.getD i nop ∈ L := getD_memL hi
theorem memL_getD {L : List Pid} {x : Pid} (h : x ∈ L) : ∃ k, k < L.length ∧ L.getD k nop = x := by
  obtain ⟨k, hk, e⟩ := List.getElem_of_mem h
  exact ⟨k, hk, by rw [List.getD_eq_getElem?_getD, List.getElem?_eq_getElem hk]; exact e⟩
theorem take_nd {N : List Nd} {k : Nat} (hk : k < N.length) : N.take (k + 1) = N.take k ++ [N.getD k nd0] := by
  rw [List.take_succ_eq_append_getElem hk, List.getD_eq_getElem?_getD, List.getElem?_eq_getElem hk]; rfl

/-- Some of the first k nodes has an id. -/
def anyI (N : List Nd) (a : Pid) (k : Nat) : Bool := (N.take k).any fun y => decide (y.id = a)
theorem anyI_zero (N : List Nd) (a : Pid) : anyI N a 0 = false := by simp [anyI]
theorem anyI_next {N : List Nd} {a : Pid} {k : Nat} (hk : k < N.length) : anyI N a (k + 1) = (anyI N a k || decide ((N.getD k nd0).id = a)) := by
  unfold anyI; rw [take_nd hk, List.any_append]; simp
theorem anyI_all (N : List Nd) (a : Pid) : anyI N a N.length = decide (a ∈ idsN N) := by
  unfold anyI
  rw [List.take_length, Bool.eq_iff_iff, List.any_eq_true]
  simp only [decide_eq_true_eq, idsN, List.mem_map]

/-- A step leads from one of the first k nodes. -/
def stB (N : List Nd) (S : List Pid) (a x : Pid) (k : Nat) : Bool := (N.take k).any fun y => (decide (y.id = a) || hasP S y.id) && hasP y.deps x
theorem stB_zero (N : List Nd) (S : List Pid) (a x : Pid) : stB N S a x 0 = false := by simp [stB]
theorem stB_next {N : List Nd} {S : List Pid} {a x : Pid} {k : Nat} (hk : k < N.length) : stB N S a x (k + 1) = (stB N S a x k || ((decide ((N.getD k nd0).id = a) || hasP S (N.getD k nd0).id) && hasP (N.getD k nd0).deps x)) := by
  unfold stB; rw [take_nd hk, List.any_append]; simp
theorem stB_all {N : List Nd} {a x : Pid} (h : x ∈ reachR N a) : stB N (reachR N a) a x N.length = true := by
  unfold stB
  rw [List.take_length, List.any_eq_true]
  obtain ⟨hv, hr⟩ := mem_reachR.1 h
  obtain ⟨c, hc, e⟩ : ∃ c, (c = a ∨ Rp (EI N) a c) ∧ EI N c x := by
    obtain ⟨b, h1, h2⟩ := hr
    clear h
    induction h2 generalizing a with
    | refl b => exact ⟨a, .inl rfl, h1⟩
    | @head p q r g1 g2 ih =>
      obtain ⟨c, hc, e⟩ := ih g1
      refine ⟨c, .inr ?_, e⟩
      rcases hc with rfl | hc
      · exact .one h1
      · exact ⟨p, h1, hc.rt⟩
  obtain ⟨_, y, hy, rfl, hd⟩ := e
  refine ⟨y, hy, ?_⟩
  rw [Bool.and_eq_true, Bool.or_eq_true]
  refine ⟨?_, hasP_t.2 hd⟩
  rcases hc with hc | hc
  · exact .inl (decide_eq_true hc)
  · exact .inr (hasP_t.2 (mem_reachR.2 ⟨hv, hc⟩))
theorem reach_node {N : List Nd} {a x : Pid} (h : x ∈ reachR N a) : anyI N x N.length = true := by
  rw [anyI_all]; exact decide_eq_true (rp_r (mem_reachR.1 h).2)

/-- All that can be reached is reached. -/
theorem reach_on {N : List Nd} (hv : nodB N = true) {a : Pid} {k i : Nat} (hk : k < N.length) (hi : i < N.length) (h : (N.getD k nd0).id = a ∨ hasP (reachR N a) (N.getD k nd0).id = true)
    (hd : hasP (N.getD k nd0).deps (N.getD i nd0).id = true) : hasP (reachR N a) (N.getD i nd0).id = true := by
  rw [hasP_t] at *
  have e : EI N (N.getD k nd0).id (N.getD i nd0).id := ⟨mem_idsN.2 ⟨i, hi, rfl⟩, _, getD_mem hk, rfl, hd⟩
  refine mem_reachR.2 ⟨hv, ?_⟩
  rcases h with h | h
  · rw [h] at e; exact .one e
  · exact (mem_reachR.1 h).2.rt_r (.one e)
theorem reach_step {N : List Nd} {a b x : Pid} (hb : b ∈ reachR N a) (hx : x ∈ reachR N b) : hasP (reachR N a) x = true := by
  rw [hasP_t]
  exact mem_reachR.2 ⟨(mem_reachR.1 hb).1, (mem_reachR.1 hb).2.rt_r (mem_reachR.1 hx).2.rt⟩

/-- In a group all reach each other. -/
theorem group_reach {N : List Nd} {a b : Pid} (hb : b ∈ groupR N a) (hn : ¬ b = a) : hasP (reachR N a) b = true ∧ hasP (reachR N b) a = true := by
  obtain ⟨hv, _, hs⟩ := mem_groupR.1 hb
  rcases sc_parts.1 hs with e | ⟨h1, h2⟩
  · exact absurd e hn
  · exact ⟨hasP_t.2 (mem_reachR.2 ⟨hv, h1⟩), hasP_t.2 (mem_reachR.2 ⟨hv, h2⟩)⟩
theorem group_own {N : List Nd} {a b : Pid} (hb : b ∈ groupR N a) : hasP (groupR N a) a = true := by
  obtain ⟨hv, ha, _⟩ := mem_groupR.1 hb
  exact hasP_t.2 (mem_groupR.2 ⟨hv, ha, .refl a⟩)
theorem group_same {N : List Nd} {a b : Pid} (hb : b ∈ groupR N a) : groupR N b = groupR N a := by
  obtain ⟨hv, ha, hs⟩ := mem_groupR.1 hb
  refine asc_ext (groupR_asc N b) (groupR_asc N a) fun x => ?_
  rw [mem_groupR, mem_groupR]
  exact ⟨fun h => ⟨hv, ha, hs.trans h.2.2⟩, fun h => ⟨hv, sc_in hs ha, hs.symm.trans h.2.2⟩⟩

/-- What is ready misses nothing. -/
theorem ready_reach {N : List Nd} {a x : Pid} (h : readyR N a = true) (hx : x ∈ reachR N a) : readyR N x = true := by
  obtain ⟨hv, ha, hr⟩ := readyR_iff.1 h
  have hp := (mem_reachR.1 hx).2
  exact readyR_iff.2 ⟨hv, rp_r hp, hr.on hp.rt⟩
theorem asc_nodupL {L : List Pid} (h : Asc L) : L.Nodup := List.Pairwise.imp (fun {a b} hab e => by subst e; rw [ltP_irr] at hab; cases hab) h
theorem ready_len {N : List Nd} {a : Pid} (h : readyR N a = true) {k : Nat} (hk : k < N.length) (e : (N.getD k nd0).id = a) : (N.getD k nd0).deps.length ≤ (reachR N a).length := by
  obtain ⟨hv, ha, hr⟩ := readyR_iff.1 h
  refine nodup_len (asc_nodupL (srt_of (nod_deps hv hk)).2.2) fun d hd => ?_
  exact mem_reachR.2 ⟨hv, .one ⟨hr a (.refl a) _ (getD_mem hk) e d hd, _, getD_mem hk, e, hd⟩⟩

/-- Of the first k ids all are one id or in a list. -/
def allD (L X : List Pid) (a : Pid) (k : Nat) : Bool := (L.take k).all fun d => decide (d = a) || hasP X d
theorem allD_zero (L X : List Pid) (a : Pid) : allD L X a 0 = true := by simp [allD]
theorem allD_next {L X : List Pid} {a : Pid} {k : Nat} (hk : k < L.length) : allD L X a (k + 1) = (allD L X a k && (decide (L.getD k nop = a) || hasP X (L.getD k nop))) := by
  unfold allD; rw [take_next hk, List.all_append]; simp
theorem allD_all (L X : List Pid) (a : Pid) : allD L X a L.length = L.all fun d => decide (d = a) || hasP X d := by unfold allD; rw [List.take_length]
/-- Of the first k nodes all that are reached, or are the one, depend on what is reached, or on the one. -/
def allN (N : List Nd) (X : List Pid) (a : Pid) (k : Nat) : Bool := (N.take k).all fun y => !(decide (y.id = a) || hasP X y.id) || y.deps.all fun d => decide (d = a) || hasP X d
theorem allN_zero (N : List Nd) (X : List Pid) (a : Pid) : allN N X a 0 = true := by simp [allN]
theorem allN_next {N : List Nd} {X : List Pid} {a : Pid} {k : Nat} (hk : k < N.length) : allN N X a (k + 1) = (allN N X a k && (!(decide ((N.getD k nd0).id = a) || hasP X (N.getD k nd0).id) || allD (N.getD k nd0).deps X a (N.getD k nd0).deps.length)) := by
  unfold allN; rw [take_nd hk, List.all_append, allD_all]; simp
theorem ready_all {N : List Nd} (hv : nodB N = true) (a : Pid) : readyR N a = (anyI N a N.length && allN N (reachR N a) a N.length) := by
  rw [anyI_all, Bool.eq_iff_iff, readyR_iff, Bool.and_eq_true, decide_eq_true_eq]
  have key : ∀ d, (d = a ∨ hasP (reachR N a) d = true) ↔ (d = a ∨ Rp (EI N) a d) := fun d => by rw [hasP_t, mem_reachR]; simp [hv]
  constructor
  · rintro ⟨_, ha, hr⟩
    refine ⟨ha, ?_⟩
    unfold allN
    rw [List.take_length, List.all_eq_true]
    intro y hy
    rw [Bool.or_eq_true]
    by_cases hyr : (decide (y.id = a) || hasP (reachR N a) y.id) = true
    · refine .inr (List.all_eq_true.2 fun d hd => ?_)
      rw [Bool.or_eq_true, decide_eq_true_eq, key] at hyr
      rw [Bool.or_eq_true, decide_eq_true_eq, key]
      have hrt : Rt (EI N) a y.id := by
        rcases hyr with e | e
        · rw [e]; exact .refl a
        · exact e.rt
      exact .inr (hrt.rp (.one ⟨hr _ hrt y hy rfl d hd, y, hy, rfl, hd⟩))
    · exact .inl (by simpa using hyr)
  · rintro ⟨ha, hn⟩
    refine ⟨hv, ha, fun b hb y hy e d hd => ?_⟩
    unfold allN at hn
    rw [List.take_length, List.all_eq_true] at hn
    have h1 := hn y hy
    rw [Bool.or_eq_true] at h1
    have h2 : (decide (y.id = a) || hasP (reachR N a) y.id) = true := by
      rw [Bool.or_eq_true, decide_eq_true_eq, key, e]
      rcases hb.cases with e | e
      · exact .inl e.symm
      · exact .inr e
    rw [h2] at h1
    have h3 := List.all_eq_true.1 (h1.resolve_left (by simp)) d hd
    rw [Bool.or_eq_true, decide_eq_true_eq, key] at h3
    rcases h3 with e | e
    · rw [e]; exact ha
    · exact rp_r e

/-- The parts of an order at a place. -/
theorem split_at {L : List Pid} {i : Nat} (hi : i < L.length) : L = L.take i ++ L.getD i nop :: L.drop (i + 1) := by
  rw [← drop_next hi]; exact (List.take_append_drop i L).symm
theorem ord_first {N : List Nd} {S : List Pid} (h : OrdP N S) {i : Nat} (hi : i < S.length) {x : Pid} (hx : x ∈ reachR N (S.getD i nop)) (hg : hasP (groupR N (S.getD i nop)) x = false) {z : Int} (hz : PlP S x z) : z ≤ i := by
  obtain ⟨hv, hr⟩ := mem_reachR.1 hx
  have ho := h.2 hv
  rcases ho.deps _ _ _ (split_at hi) x hr with hs | hs | hs
  · exact absurd (mem_groupR.2 ⟨hv, rp_l hr, hs⟩) (hasP_f.1 hg)
  · exact absurd hs id
  · obtain ⟨k, hk, e⟩ := memL_getD hs
    have hk' : k < i := by rw [List.length_take] at hk; omega
    have e' : S.getD k nop = x := by
      rw [← e, List.getD_eq_getElem?_getD, List.getD_eq_getElem?_getD, List.getElem?_take, if_pos hk']
    have := hz.le (i := k) (by omega) e'
    omega
theorem ord_valid {N : List Nd} {S : List Pid} (h : OrdP N S) {i : Nat} (hi : i < S.length) : nodB N = true := by
  cases hv : nodB N with
  | true => rfl
  | false => rw [h.1 hv] at hi; cases hi
theorem ord_in {N : List Nd} {S : List Pid} (h : OrdP N S) {i : Nat} (hi : i < S.length) : S.getD i nop ∈ idsN N :=
  (((h.2 (ord_valid h hi)).mem (clo_none N) _).1 (getD_inL hi)).1
theorem ord_rank {N : List Nd} {S : List Pid} (h : OrdP N S) {i : Nat} (hi : i + 1 < S.length) (hg : hasP (groupR N (S.getD (i + 1) nop)) (S.getD i nop) = true) : Soon N (S.getD i nop) (S.getD (i + 1) nop) := by
  have hv := ord_valid h hi
  have hm := ((h.2 hv).grp (clo_none N) _ _ _ (split_at hi)).1
  refine hm _ ?_ (mem_groupR.1 (hasP_t.1 hg)).2.2
  rw [take_next (by omega)]
  exact List.mem_append_right _ (List.mem_singleton.2 rfl)
theorem ord_apart {N : List Nd} {S : List Pid} (h : OrdP N S) {i : Nat} (hi : i + 1 < S.length) (hg : hasP (groupR N (S.getD (i + 1) nop)) (S.getD i nop) = false) {k : Nat} (hk : k < i + 1) : hasP (groupR N (S.getD (i + 1) nop)) (S.getD k nop) = false := by
  have hv := ord_valid h hi
  have hin := ord_in h hi
  have hm := ((h.2 hv).grp (clo_none N) _ _ _ (split_at hi)).2 (S.take i) (S.getD i nop) (take_next (by omega)) (fun hs => hasP_f.1 hg (mem_groupR.2 ⟨hv, hin, hs⟩))
  rw [hasP_f]
  intro hh
  refine hm (S.getD k nop) ?_ (mem_groupR.1 hh).2.2
  rw [show S.getD k nop = (S.take (i + 1)).getD k nop by rw [List.getD_eq_getElem?_getD, List.getD_eq_getElem?_getD, List.getElem?_take, if_pos hk]]
  exact getD_inL (by rw [List.length_take]; omega)
/-- The rank of an id, as a walk over the first k nodes finds it. -/
def rkK (N : List Nd) (a : Pid) : Nat → Int
  | 0 => 0
  | k + 1 => if (N.getD k nd0).id = a then (N.getD k nd0).seq else rkK N a k
theorem rkK_all {N : List Nd} (hv : nodB N = true) {a : Pid} (ha : a ∈ idsN N) : rkK N a N.length = seqP N a := by
  obtain ⟨j, hj, e⟩ := mem_idsN.1 ha
  have key : ∀ k, j < k → k ≤ N.length → rkK N a k = (N.getD j nd0).seq := by
    intro k
    induction k with
    | zero => intro h; exact absurd h (Nat.not_lt_zero _)
    | succ k ih =>
      intro h1 h2
      show (if (N.getD k nd0).id = a then (N.getD k nd0).seq else rkK N a k) = _
      split
      · rename_i h
        rw [nod_inj hv (by omega) hj (h.trans e.symm)]
      · rename_i h
        refine ih ?_ (by omega)
        rcases Nat.lt_or_ge j k with hl | hl
        · exact hl
        · have : j = k := by omega
          subst this; exact absurd e h
  rw [key N.length hj (Nat.le_refl _), ← seqP_of hv (getD_mem hj), e]
end Go.Proofs.YtbbnchodchgioaaDoor
