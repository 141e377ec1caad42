/- Texts laid together. -/
import Derived.Test.YtbklkhndjckckaaC02
import Derived.Test.YtbklkhndjckckaaC01
import Derived.Deep.RegionHeld3
import Derived.Deep.RegionWith
import Derived.StillTailTactics
/- Plain facts: a group is gathered. -/
namespace Go.Proofs.Ytbklkhndjckckaa
set_option linter.unusedVariables false

/-- The ids of some places. -/
def SI (N : List Nd) (S : List Nat) (a : Pid) : Prop := ∃ i ∈ S, (N.getD i nd0).id = a
/-- What a group's places are. -/
structure GS (N : List Nd) (S : List Nat) : Prop where
  lt : ∀ i ∈ S, i < N.length
  nd : S.Nodup
  sc : ∀ i ∈ S, ∀ j, j ∈ S ↔ Sc (EN N) i j
theorem GS.si {N : List Nd} {S : List Nat} (h : GS N S) (hv : nodB N = true) {i : Nat} (hi : i ∈ S) (x : Pid) : SI N S x ↔ Sc (EI N) (N.getD i nd0).id x := by
  constructor
  · rintro ⟨j, hj, rfl⟩
    exact (sc_iff hv (h.lt i hi) (h.lt j hj)).1 ((h.sc i hi j).1 hj)
  · intro hs
    obtain ⟨j, hj, e, hr⟩ := rt_en hv hs.1 i (h.lt i hi) rfl
    subst e
    exact ⟨j, (h.sc i hi j).2 ((sc_iff hv (h.lt i hi) hj).2 hs), rfl⟩
theorem GS.sis {N : List Nd} {S : List Nat} (h : GS N S) (hv : nodB N = true) (a b : Pid) (ha : SI N S a) : SI N S b ↔ Sc (EI N) a b := by
  obtain ⟨i, hi, rfl⟩ := ha; exact h.si hv hi b
theorem GS.place {N : List Nd} {S : List Nat} (h : GS N S) (hv : nodB N = true) {j : Nat} (hj : j < N.length) : SI N S (N.getD j nd0).id ↔ j ∈ S := by
  constructor
  · rintro ⟨i, hi, e⟩
    rw [← nod_inj hv (h.lt i hi) hj e]; exact hi
  · intro hh; exact ⟨j, hh, rfl⟩
theorem GS.len {N : List Nd} {S : List Nat} (h : GS N S) (hv : nodB N = true) : S.length ≤ 12 := by
  have h1 : S.length ≤ (List.range N.length).length := by
    have : ∀ {A B : List Nat}, A.Nodup → (∀ x ∈ A, x ∈ B) → A.length ≤ B.length := by
      intro A
      induction A with
      | nil => intro B _ _; exact Nat.zero_le _
      | cons a A ih =>
        intro B h hs
        have h' := List.nodup_cons.1 h
        obtain ⟨X, Y, rfl⟩ := List.append_of_mem (hs a List.mem_cons_self)
        have := ih (B := X ++ Y) h'.2 fun x hx => by
          have hxx := hs x (List.mem_cons_of_mem _ hx)
          rcases List.mem_append.1 hxx with h1 | h1
          · exact List.mem_append_left _ h1
          · rcases List.mem_cons.1 h1 with e | h1
            · subst e; exact absurd hx h'.1
            · exact List.mem_append_right _ h1
        simp only [List.length_append, List.length_cons] at this ⊢
        omega
    exact this h.nd fun x hx => List.mem_range.2 (h.lt x hx)
  rw [List.length_range] at h1
  have := (nod_of hv).1
  omega

/-- The deps that have been looked at. -/
def depsL (N : List Nd) (Q : List Nat) (j k : Nat) : List Pid := (Q.take j).flatMap (fun i => (N.getD i nd0).deps) ++ (N.getD (Q.getD j 0) nd0).deps.take k
theorem depsL_start (N : List Nd) (Q : List Nat) : depsL N Q 0 0 = [] := by simp [depsL]
theorem depsL_next {N : List Nd} {Q : List Nat} {j k : Nat} (hk : k < (N.getD (Q.getD j 0) nd0).deps.length) : depsL N Q j (k + 1) = depsL N Q j k ++ [(N.getD (Q.getD j 0) nd0).deps.getD k nop] := by
  unfold depsL; rw [take_next hk, List.append_assoc]
theorem depsL_row {N : List Nd} {Q : List Nat} {j : Nat} (hj : j < Q.length) : depsL N Q (j + 1) 0 = depsL N Q j (N.getD (Q.getD j 0) nd0).deps.length := by
  unfold depsL
  rw [List.take_succ_eq_append_getElem hj, List.flatMap_append, List.take_length]
  have : Q.getD j 0 = Q[j] := by rw [List.getD_eq_getElem?_getD, List.getElem?_eq_getElem hj]; rfl
  rw [this]; simp
theorem depsL_all {N : List Nd} {Q : List Nat} {i : Nat} (hi : i ∈ Q) {d : Pid} (hd : d ∈ (N.getD i nd0).deps) : d ∈ depsL N Q Q.length 0 := by
  unfold depsL
  rw [List.take_length]
  exact List.mem_append_left _ (List.mem_flatMap.2 ⟨i, hi, hd⟩)
theorem depsL_sub {N : List Nd} {Q : List Nat} {d : Pid} (h : d ∈ depsL N Q Q.length 0) : ∃ i ∈ Q, d ∈ (N.getD i nd0).deps := by
  unfold depsL at h
  rw [List.take_length, List.take_zero, List.append_nil] at h
  obtain ⟨i, hi, hd⟩ := List.mem_flatMap.1 h
  exact ⟨i, hi, hd⟩

/-- Within gathering: D are the deps that have been looked at, P what is reached so far. -/
structure GL (N : List Nd) (S : List Nat) (D : List Pid) (P : Pid → Prop) (rd : Bool) : Prop where
  snd : ∀ x, P x → ∃ a, SI N S a ∧ Rp (EI N) a x
  cov : ∀ d ∈ D, d ∈ idsN N → P d ∧ (¬ SI N S d → ∀ x, Rp (EI N) d x → P x)
  rdy : rd = true ↔ ∀ d ∈ D, d ∈ idsN N ∧ (¬ SI N S d → RdI N d)
theorem GL.start (N : List Nd) (S : List Nat) : GL N S [] (fun _ => False) true := ⟨fun _ h => h.elim, fun _ h => (nomatch h), ⟨fun _ _ h => (nomatch h), fun _ => rfl⟩⟩
theorem GL.miss {N : List Nd} {S : List Nat} {D : List Pid} {P : Pid → Prop} {rd : Bool} (h : GL N S D P rd) {d : Pid} (hd : ¬ d ∈ idsN N) : GL N S (D ++ [d]) P false := by
  refine ⟨h.snd, fun e he hi => ?_, ⟨fun x => (nomatch x), fun x => absurd (x d (List.mem_append_right _ (List.mem_singleton.2 rfl))).1 hd⟩⟩
  rcases List.mem_append.1 he with he | he
  · exact h.cov e he hi
  · rw [List.mem_singleton] at he; subst he; exact absurd hi hd
theorem GL.own {N : List Nd} {S : List Nat} {D : List Pid} {P : Pid → Prop} {rd : Bool} (h : GL N S D P rd) {a d : Pid} (ha : SI N S a) (hE : EI N a d) (hs : SI N S d) : GL N S (D ++ [d]) (fun x => (P x ∨ x = d) ∨ (P x ∨ x = d)) (rd && rd) := by
  refine ⟨fun x hx => ?_, fun e he hi => ?_, ?_⟩
  · rw [or_self] at hx
    rcases hx with hx | hx
    · exact h.snd x hx
    · subst hx; exact ⟨a, ha, .one hE⟩
  · rcases List.mem_append.1 he with he | he
    · have := h.cov e he hi
      exact ⟨.inl (.inl this.1), fun hn x hx => .inl (.inl (this.2 hn x hx))⟩
    · rw [List.mem_singleton] at he; subst he
      exact ⟨.inl (.inr rfl), fun hn => absurd hs hn⟩
  · rw [Bool.and_self, h.rdy]
    constructor
    · intro x e he
      rcases List.mem_append.1 he with he | he
      · exact x e he
      · rw [List.mem_singleton] at he; subst he; exact ⟨hE.r, fun hn => absurd hs hn⟩
    · intro x e he; exact x e (List.mem_append_left _ he)
theorem GL.oth {N : List Nd} {S : List Nat} {D : List Pid} {P : Pid → Prop} {rd rd2 : Bool} (h : GL N S D P rd) {a d : Pid} (ha : SI N S a) (hE : EI N a d) (hs : ¬ SI N S d) (h2 : rd2 = true ↔ RdI N d) : GL N S (D ++ [d]) (fun x => (P x ∨ x = d) ∨ Rp (EI N) d x) (rd && rd2) := by
  refine ⟨fun x hx => ?_, fun e he hi => ?_, ?_⟩
  · rcases hx with (hx | hx) | hx
    · exact h.snd x hx
    · subst hx; exact ⟨a, ha, .one hE⟩
    · exact ⟨a, ha, (Rp.one hE).rt_r hx.rt⟩
  · rcases List.mem_append.1 he with he | he
    · have := h.cov e he hi
      exact ⟨.inl (.inl this.1), fun hn x hx => .inl (.inl (this.2 hn x hx))⟩
    · rw [List.mem_singleton] at he; subst he
      exact ⟨.inl (.inr rfl), fun hn x hx => .inr hx⟩
  · rw [Bool.and_eq_true, h.rdy, h2]
    constructor
    · rintro ⟨x, y⟩ e he
      rcases List.mem_append.1 he with he | he
      · exact x e he
      · rw [List.mem_singleton] at he; subst he; exact ⟨hE.r, fun _ => y⟩
    · intro x
      exact ⟨fun e he => x e (List.mem_append_left _ he), (x d (List.mem_append_right _ (List.mem_singleton.2 rfl))).2 hs⟩
/-- All have been looked at. -/
theorem GL.done {N : List Nd} {S Q : List Nat} {f r : Nat → Nat} {P : Pid → Prop} {rd : Bool} (hv : nodB N = true) (hS : GS N S) (hQ : Q.Perm S) (hs : Q.Pairwise (soonK N)) (hf : Bits f (SI N S)) (hr : Bits r P)
    (h : GL N S (depsL N Q Q.length 0) P rd) {i : Nat} (hi : i ∈ S) : GM N i Q f r rd := by
  have ha : SI N S (N.getD i nd0).id := ⟨i, hi, rfl⟩
  have hd : ∀ a, SI N S a → ∀ b, EI N a b → b ∈ depsL N Q Q.length 0 := by
    rintro a ⟨j, hj, rfl⟩ b ⟨_, y, hy, e, hb⟩
    rw [getD_uniq hv hy (getD_mem (hS.lt j hj)) e] at hb
    exact depsL_all (hQ.mem_iff.2 hj) hb
  refine ⟨hs, fun k => by rw [hQ.mem_iff]; exact hS.sc i hi k, hf.ext fun x => hS.si hv hi x, hr.ext fun x => gat_reach hv (hS.sis hv) h.snd (fun a ha b hb => h.cov b (hd a ha b hb) hb.r) ha x, ?_⟩
  rw [h.rdy, gat_ready (hS.sis hv) ha]
  constructor
  · intro x b hb
    refine ⟨fun y hy e d hd' => ?_, fun c hc hn => (x c (hd b hb c hc)).2 hn⟩
    obtain ⟨j, hj, rfl⟩ := hb
    rw [getD_uniq hv hy (getD_mem (hS.lt j hj)) e] at hd'
    exact (x d (depsL_all (hQ.mem_iff.2 hj) hd')).1
  · intro x d hd'
    obtain ⟨j, hj, hdj⟩ := depsL_sub hd'
    have hj' := hQ.mem_iff.1 hj
    have hb : SI N S (N.getD j nd0).id := ⟨j, hj', rfl⟩
    have hdi := (x _ hb).1 _ (getD_mem (hS.lt j hj')) rfl d hdj
    exact ⟨hdi, fun hn => (x _ hb).2 d ⟨hdi, _, getD_mem (hS.lt j hj'), rfl, hdj⟩ hn⟩
theorem srd_pair {N : List Nd} {Q0 Q : List Nat} (h : Srd N Q0 Q Q0.length) : Q.Pairwise (soonK N) := by
  have hl := h.perm.length_eq
  rw [List.pairwise_iff_getElem]
  intro i j hi hj hij
  have := h.ord i j hij (by omega)
  rw [List.getD_eq_getElem?_getD, List.getD_eq_getElem?_getD, List.getElem?_eq_getElem hi, List.getElem?_eq_getElem hj] at this
  exact this
/-- The ids so far. -/
theorem si_next {N : List Nd} {S : List Nat} {k : Nat} (hk : k < S.length) {f : Nat → Nat} (h : Bits f (SI N (S.take k))) (ho : okP (N.getD (S.getD k 0) nd0).id = true) : Bits (addF f (N.getD (S.getD k 0) nd0).id) (SI N (S.take (k + 1))) := by
  refine (h.add ho).ext fun x => ?_
  have e : S.getD k 0 = S[k] := by rw [List.getD_eq_getElem?_getD, List.getElem?_eq_getElem hk]; rfl
  unfold SI
  rw [List.take_succ_eq_append_getElem hk, e]
  constructor
  · rintro (⟨i, hi, h⟩ | h)
    · exact ⟨i, List.mem_append_left _ hi, h⟩
    · exact ⟨_, List.mem_append_right _ (List.mem_singleton.2 rfl), h.symm⟩
  · rintro ⟨i, hi, h⟩
    rcases List.mem_append.1 hi with hi | hi
    · exact .inl ⟨i, hi, h⟩
    · rw [List.mem_singleton] at hi; subst hi; exact .inr h.symm
end Go.Proofs.Ytbklkhndjckckaa

/- Contracts of the functions on ids: valid, compare, IdBefore, of the program and of the model. -/
namespace Go.Proofs.Ytbklkhndjckckaa
open Go.RowKit
set_option linter.unusedVariables false

theorem idB_t {r n : Int} (h1 : 0 ≤ r) (h2 : r ≤ 4) (h3 : 1 ≤ n) (h4 : n ≤ 50) : idB r n = true := by simp [idB]; omega
theorem idB_f {r n : Int} (h : ¬ (0 ≤ r ∧ r ≤ 4 ∧ 1 ≤ n ∧ n ≤ 50)) : idB r n = false := by simp [idB]; omega
theorem idB_of {r n : Int} (h : idB r n = true) : 0 ≤ r ∧ r ≤ 4 ∧ 1 ≤ n ∧ n ≤ 50 := by simpa [idB] using h
theorem idB_no {r n : Int} (h : idB r n = false) : (¬ 0 ≤ r) ∨ (0 ≤ r ∧ ¬ r ≤ 4) ∨ (0 ≤ r ∧ r ≤ 4 ∧ ¬ 1 ≤ n) ∨ (0 ≤ r ∧ r ≤ 4 ∧ 1 ≤ n ∧ ¬ n ≤ 50) := by simp [idB] at h; omega

/-- valid of the program. -/
theorem ivid_any (r n : Int) (w : World) :
    Calls Try.prog 49 #[.agg #[.int .i64 r, .int .i64 n]] w fun e w' => e = .returned (.bool (idB r n)) ∧ Below w.heap.size w w' := by
  by_cases h : idB r n = true
  · obtain ⟨h1, h2, h3, h4⟩ := idB_of h
    rw [h]; clear h
    go_enter Try.func49, Try.ntmps49
    go_wp2_with fail
    go_ret
    exact ⟨rfl, (Below.refl _ _).alloc (Nat.le_refl _) _⟩
  · have h : idB r n = false := by simpa using h
    rw [h]
    rcases idB_no h with h1 | ⟨h1, h2⟩ | ⟨h1, h2, h3⟩ | ⟨h1, h2, h3, h4⟩
    all_goals
      clear h
      go_enter Try.func49, Try.ntmps49
      go_wp2_with fail
      go_ret
      exact ⟨rfl, (Below.refl _ _).alloc (Nat.le_refl _) _⟩

/-- IdValid of the model. -/
theorem svid_any (r n : Int) (w : World) :
    Calls Try.prog 39 #[.agg #[.int .i64 r, .int .i64 n]] w fun e w' => e = .returned (.bool (idB r n)) ∧ Below w.heap.size w w' := by
  have e1 : idB r n = (inB r 0 4 && inB n 1 50) := by
    rw [Bool.eq_iff_iff]; simp [idB, inB]; omega
  rw [e1]
  have s1 := in_any r 0 4
  have s2 := in_any n 1 50
  generalize inB r 0 4 = p at s1 ⊢
  generalize inB n 1 50 = q at s2 ⊢
  clear e1
  cases p
  · go_enter Try.func39, Try.ntmps39
    go_wp2_with (go_at_call 40; (with_reducible refine (s1 _).mono ?_); rintro e w' ⟨rfl, rfl⟩)
    go_ret
    exact ⟨rfl, (Below.refl _ _).alloc (Nat.le_refl _) _⟩
  · go_enter Try.func39, Try.ntmps39
    go_wp2_with (first | (go_at_call 40; (with_reducible refine (s1 _).mono ?_); rintro e w' ⟨rfl, rfl⟩) | (go_at_call 40; (with_reducible refine (s2 _).mono ?_); rintro e w' ⟨rfl, rfl⟩))
    go_ret
    exact ⟨by simp, (Below.refl _ _).alloc (Nat.le_refl _) _⟩

/-- What cmp.Compare answers of numbers. -/
def cmpN (a b : Int) : Int := if a < b then -1 else if b < a then 1 else 0
theorem cmpN_lt {a b : Int} (h : a < b) : cmpN a b = -1 := if_pos h
theorem cmpN_gt {a b : Int} (h : b < a) : cmpN a b = 1 := by unfold cmpN; rw [if_neg (by omega), if_pos h]
theorem cmpN_eq {a b : Int} (h : a = b) : cmpN a b = 0 := by unfold cmpN; rw [if_neg (by omega), if_neg (by omega)]
theorem nan_any (a : Int) (w : World) :
    Calls Try.prog 74 #[.int .i64 a] w fun e w' => e = .returned (.bool false) ∧ w = w' := by
  go_enter Try.func74, Try.ntmps74
  go_wp2_with fail
  go_ret
  exact ⟨by simp, rfl⟩
theorem cmpN_any (a b : Int) (w : World) :
    Calls Try.prog 66 #[.int .i64 a, .int .i64 b] w fun e w' => e = .returned (.int .i64 (cmpN a b)) ∧ w = w' := by
  rcases Int.lt_trichotomy a b with h | h | h
  · rw [cmpN_lt h]
    go_enter Try.func66, Try.ntmps66
    go_wp2_with (go_at_call 74; refine (nan_any _ _).mono ?_; rintro e w' ⟨rfl, rfl⟩)
    go_ret
    exact ⟨rfl, rfl⟩
  · subst h
    rw [cmpN_eq rfl]
    go_enter Try.func66, Try.ntmps66
    go_wp2_with (go_at_call 74; refine (nan_any _ _).mono ?_; rintro e w' ⟨rfl, rfl⟩)
    go_ret
    exact ⟨rfl, rfl⟩
  · rw [cmpN_gt h]
    have h' : ¬ a < b := by omega
    go_enter Try.func66, Try.ntmps66
    go_wp2_with (go_at_call 74; refine (nan_any _ _).mono ?_; rintro e w' ⟨rfl, rfl⟩)
    go_ret
    exact ⟨rfl, rfl⟩

/-- What cmp.Or answers of two. -/
def orN (x y : Int) : Int := if x = 0 then y else x
theorem orN_any (b : Nat) (x y : Int) (w : World) (h0 : w.cell? ⟨b, 0, none⟩ = some (.int .i64 x)) (h1 : w.cell? ⟨b, 1, none⟩ = some (.int .i64 y)) :
    Calls Try.prog 65 #[.slice (some ⟨b, 0, none⟩) 2 2] w fun e w' => e = .returned (.int .i64 (orN x y)) ∧ w = w' := by
  by_cases hx : x = 0
  · subst hx
    rw [show orN 0 y = y from rfl]
    by_cases hy : y = 0
    · subst hy
      go_enter Try.func65, Try.ntmps65
      go_wp2_with fail
      refine wp_loop_rounds 3 ?_
      rw [rounds_succ]
      go_wp2_with fail
      rw [rounds_succ]
      go_wp2_with fail
      rw [rounds_succ]
      go_wp2_with fail
      go_ret
      exact ⟨rfl, rfl⟩
    · have hy' : (y != 0) = true := by simpa using hy
      go_enter Try.func65, Try.ntmps65
      go_wp2_with fail
      refine wp_loop_rounds 3 ?_
      rw [rounds_succ]
      go_wp2_with fail
      rw [rounds_succ]
      go_wp2_with fail
      go_ret
      exact ⟨rfl, rfl⟩
  · rw [show orN x y = x from if_neg hx]
    have hx' : (x != 0) = true := by simpa using hx
    go_enter Try.func65, Try.ntmps65
    go_wp2_with fail
    refine wp_loop_rounds 1 ?_
    rw [rounds_succ]
    go_wp2_with fail
    go_ret
    exact ⟨rfl, rfl⟩

/-- What compare answers. -/
def cmpI (r n r' n' : Int) : Int := orN (cmpN r r') (cmpN n n')
theorem cmpN_neg {a b : Int} : cmpN a b < 0 ↔ a < b := by unfold cmpN; split <;> (try split) <;> omega
theorem cmpN_zero {a b : Int} : cmpN a b = 0 ↔ a = b := by unfold cmpN; split <;> (try split) <;> omega
theorem cmpI_neg (r n r' n' : Int) : decide (cmpI r n r' n' < 0) = ltB r n r' n' := by
  unfold cmpI orN ltB
  by_cases h : cmpN r r' = 0
  · rw [if_pos h]
    have := cmpN_zero.1 h
    rw [Bool.eq_iff_iff]; simp [cmpN_neg]; omega
  · rw [if_neg h]
    have h' : ¬ r = r' := fun e => h (cmpN_zero.2 e)
    rw [Bool.eq_iff_iff]; simp [cmpN_neg, h']
theorem cmpI_zero (r n r' n' : Int) : (cmpI r n r' n' = 0) ↔ (r = r' ∧ n = n') := by
  unfold cmpI orN
  by_cases h : cmpN r r' = 0
  · rw [if_pos h, cmpN_zero, cmpN_zero.1 h]; simp
  · rw [if_neg h]
    have h' : ¬ r = r' := fun e => h (cmpN_zero.2 e)
    simp [h, h']

theorem still_tail {P : Program} {id : Nat} {Q : Exit → Act → World → Prop} {a : Act} {w : World} {l : List Oper} (n : Nat) (hm : P.follows .mixedOrders = true) (hB : Region.lexTailB .any l.toArray n = true) (W : World) (hW : W = w.drew)
    (h : wpStill P l.toArray W (fun a' => wpList P l.toArray Q (l.drop n) a' W) (l.take n) a) : (Code.region id l.toArray true).wp P Q a w := by
  subst hW; exact wp_region_still_tail n hm hB h

set_option maxRecDepth 100000 in
set_option maxHeartbeats 1000000 in
theorem cmpI_any (r n r' n' : Int) (w : World) :
    Calls Try.prog 48 #[.agg #[.int .i64 r, .int .i64 n], .agg #[.int .i64 r', .int .i64 n']] w fun e w' => e = .returned (.int .i64 (cmpI r n r' n')) ∧ Below w.heap.size w w' := by
  have s1 := cmpN_any r r'
  have s2 := cmpN_any n n'
  unfold cmpI
  generalize cmpN r r' = x at s1 ⊢
  generalize cmpN n n' = y at s2 ⊢
  go_enter Try.func48, Try.ntmps48
  go_upto_region 1 with fail
  obtain ⟨W, hW⟩ : ∃ W, W = ((w.alloc (.cells #[.int .i64 r, .int .i64 n] 31)).alloc (.cells #[.int .i64 r', .int .i64 n'] 31)).drew := ⟨_, rfl⟩
  refine still_tail 10 (by kernel_rfl) (by kernel_rfl) W hW ?_
  simp only [List.take_succ_cons, List.take_zero, List.drop_succ_cons, List.drop_zero]
  have D : Hid (Below w.heap.size w W) := Lib.hid (by subst hW; exact (((Below.refl _ _).alloc (Nat.le_refl _) _).alloc (by simp) _).drew)
  have c0 : W.cell? ⟨w.heap.size, 0, none⟩ = some (.int .i64 r) := by subst hW; go_simp
  have c1 : W.cell? ⟨w.heap.size, 1, none⟩ = some (.int .i64 n) := by subst hW; go_simp
  have c2 : W.cell? ⟨w.heap.size + 1, 0, none⟩ = some (.int .i64 r') := by subst hW; go_simp
  have c3 : W.cell? ⟨w.heap.size + 1, 1, none⟩ = some (.int .i64 n') := by subst hW; go_simp
  clear hW
  iterate 4 still_step
  still_call ((s1 _).mono fun e w' h => ⟨h.1, h.2.symm⟩)
  iterate 4 still_step
  still_call ((s2 _).mono fun e w' h => ⟨h.1, h.2.symm⟩)
  refine wpStill_nil ?_
  go_wp2_with fail
  refine (orN_any _ x y _ (by go_simp) (by go_simp)).mono ?_
  rintro e w1 ⟨rfl, rfl⟩
  go_wp2_with fail
  go_ret
  exact ⟨rfl, D.out.alloc D.out.size _⟩
end Go.Proofs.Ytbklkhndjckckaa

/- The program's compare of nodes. -/
namespace Go.Proofs.Ytbklkhndjckckaa
open Go.RowKit
set_option linter.unusedVariables false

/-- What compare of nodes answers. -/
def cmpD (s s' p r p' r' : Int) : Int := orN (cmpN s s') (cmpI p r p' r')
theorem cmpD_neg {s s' p r p' r' : Int} : cmpD s s' p r p' r' < 0 ↔ (s < s' ∨ s = s' ∧ ltB p r p' r' = true) := by
  unfold cmpD orN
  by_cases h : cmpN s s' = 0
  · rw [if_pos h]
    have := cmpN_zero.1 h
    rw [← cmpI_neg, decide_eq_true_iff]; omega
  · rw [if_neg h]
    have h' : ¬ s = s' := fun e => h (cmpN_zero.2 e)
    rw [cmpN_neg]; simp [h']

set_option maxRecDepth 100000 in
set_option maxHeartbeats 2000000 in
theorem cmpD_any (p r s : Int) (ua : Option Addr) (un uc : Nat) (p' r' s' : Int) (ua' : Option Addr) (un' uc' : Nat) (w : World) :
    Calls Try.prog 58 #[.agg #[.int .i64 p, .int .i64 r, .int .i64 s, .slice ua un uc], .agg #[.int .i64 p', .int .i64 r', .int .i64 s', .slice ua' un' uc']] w fun e w' =>
      e = .returned (.int .i64 (cmpD s s' p r p' r')) ∧ Below w.heap.size w w' := by
  have s1 := fun W => (cmpN_any s s' W).mono (R' := fun e w' => e = .returned (.int .i64 (cmpN s s')) ∧ Below W.heap.size W w') (fun e w' hh => ⟨hh.1, hh.2 ▸ Below.refl _ _⟩)
  have s2 := cmpI_any p r p' r'
  unfold cmpD
  generalize cmpN s s' = x at s1 ⊢
  generalize cmpI p r p' r' = y at s2 ⊢
  have hA := heap_alloc_new w (.cells #[.int .i64 p, .int .i64 r, .int .i64 s, .slice ua un uc] 33)
  have hB := heap_alloc_new (w.alloc (.cells #[.int .i64 p, .int .i64 r, .int .i64 s, .slice ua un uc] 33)) (.cells #[.int .i64 p', .int .i64 r', .int .i64 s', .slice ua' un' uc'] 33)
  have D := Lib.hid (((Below.refl w.heap.size w).alloc (Nat.le_refl _) (.cells #[.int .i64 p, .int .i64 r, .int .i64 s, .slice ua un uc] 33)).alloc (by simp) (.cells #[.int .i64 p', .int .i64 r', .int .i64 s', .slice ua' un' uc'] 33))
  have hs : (w.alloc (.cells #[.int .i64 p, .int .i64 r, .int .i64 s, .slice ua un uc] 33)).heap.size = w.heap.size + 1 := by simp
  rw [hs] at hB
  obtain ⟨a0, a1, a2, _⟩ := four_cells ((((Below.refl (w.alloc (.cells #[.int .i64 p, .int .i64 r, .int .i64 s, .slice ua un uc] 33)).heap.size (w.alloc (.cells #[.int .i64 p, .int .i64 r, .int .i64 s, .slice ua un uc] 33))).alloc (Nat.le_refl _) (.cells #[.int .i64 p', .int .i64 r', .int .i64 s', .slice ua' un' uc'] 33)).block w.heap.size (by simp)).trans hA)
  obtain ⟨b0, b1, b2, _⟩ := four_cells hB
  clear hA hB hs
  go_enter Try.func58, Try.ntmps58
  go_upto_region 1 with fail
  refine wp_region_held_drew (S := fun w' => w'.cell? ⟨w.heap.size, 0, none⟩ = some (.int .i64 p) ∧ w'.cell? ⟨w.heap.size, 1, none⟩ = some (.int .i64 r) ∧ w'.cell? ⟨w.heap.size, 2, none⟩ = some (.int .i64 s) ∧ w'.cell? ⟨w.heap.size + 1, 0, none⟩ = some (.int .i64 p') ∧ w'.cell? ⟨w.heap.size + 1, 1, none⟩ = some (.int .i64 r') ∧ w'.cell? ⟨w.heap.size + 1, 2, none⟩ = some (.int .i64 s') ∧ Below ((w.alloc (.cells #[.int .i64 p, .int .i64 r, .int .i64 s, .slice ua un uc] 33)).alloc (.cells #[.int .i64 p', .int .i64 r', .int .i64 s', .slice ua' un' uc'] 33)).heap.size ((w.alloc (.cells #[.int .i64 p, .int .i64 r, .int .i64 s, .slice ua un uc] 33)).alloc (.cells #[.int .i64 p', .int .i64 r', .int .i64 s', .slice ua' un' uc'] 33)) w') (by kernel_rfl) ⟨a0, a1, a2, b0, b1, b2, Below.drew (Below.refl _ _)⟩ (fun hHeld => ?_)
  refine wpAnyH_take (i := 0) (oi := ⟨some 5, _, _, _, _, _⟩) (v := ?_) rfl (by kernel_rfl) (by kernel_rfl) (by kernel_rfl) (fun _ _ _ h => h) (Or.inl ⟨by rfl, ?_⟩) (by assumption) ?_
  rotate_left 1
  · intro w hSw; (try dsimp only at hSw); go_simp; try (with_reducible rfl)
  try simp only [Act.put, List.setIfInBounds_toArray, List.set_cons_zero, List.set_cons_succ]
  refine wpAnyH_take (i := 1) (oi := ⟨some 6, _, _, _, _, _⟩) (v := ?_) rfl (by kernel_rfl) (by kernel_rfl) (by kernel_rfl) (fun _ _ _ h => h) (Or.inl ⟨by rfl, ?_⟩) (by assumption) ?_
  rotate_left 1
  · intro w hSw; (try dsimp only at hSw); go_simp; try (with_reducible rfl)
  try simp only [Act.put, List.setIfInBounds_toArray, List.set_cons_zero, List.set_cons_succ]
  refine wpAnyH_take (i := 2) (oi := ⟨some 7, _, _, _, _, _⟩) (v := ?_) rfl (by kernel_rfl) (by kernel_rfl) (by kernel_rfl) (fun _ _ _ h => h) (Or.inl ⟨by rfl, ?_⟩) (by assumption) ?_
  rotate_left 1
  · intro w hSw; (try dsimp only at hSw); go_simp; try (with_reducible rfl)
  try simp only [Act.put, List.setIfInBounds_toArray, List.set_cons_zero, List.set_cons_succ]
  refine wpAnyH_take (i := 3) (oi := ⟨some 8, _, _, _, _, _⟩) (v := ?_) rfl (by kernel_rfl) (by kernel_rfl) (by kernel_rfl) (fun _ _ _ h => h) (Or.inl ⟨by rfl, ?_⟩) (by assumption) ?_
  rotate_left 1
  · intro w hSw; (try dsimp only at hSw); go_simp; try (with_reducible rfl)
  try simp only [Act.put, List.setIfInBounds_toArray, List.set_cons_zero, List.set_cons_succ]
  refine wpAnyH_take (i := 5) (oi := ⟨some 10, _, _, _, _, _⟩) (v := ?_) rfl (by kernel_rfl) (by kernel_rfl) (by kernel_rfl) (fun _ _ _ h => h) (Or.inl ⟨by rfl, ?_⟩) (by assumption) ?_
  rotate_left 1
  · intro w hSw; (try dsimp only at hSw); go_simp; try (with_reducible rfl)
  try simp only [Act.put, List.setIfInBounds_toArray, List.set_cons_zero, List.set_cons_succ]
  refine wpAnyH_take (i := 6) (oi := ⟨some 11, _, _, _, _, _⟩) (v := ?_) rfl (by kernel_rfl) (by kernel_rfl) (by kernel_rfl) (fun _ _ _ h => h) (Or.inl ⟨by rfl, ?_⟩) (by assumption) ?_
  rotate_left 1
  · intro w hSw; (try dsimp only at hSw); go_simp; try (with_reducible rfl)
  try simp only [Act.put, List.setIfInBounds_toArray, List.set_cons_zero, List.set_cons_succ]
  refine wpAnyH_take (i := 7) (oi := ⟨some 12, _, _, _, _, _⟩) (v := ?_) rfl (by kernel_rfl) (by kernel_rfl) (by kernel_rfl) (fun _ _ _ h => h) (Or.inl ⟨by rfl, ?_⟩) (by assumption) ?_
  rotate_left 1
  · intro w hSw; (try dsimp only at hSw); go_simp; try (with_reducible rfl)
  try simp only [Act.put, List.setIfInBounds_toArray, List.set_cons_zero, List.set_cons_succ]
  refine wpAnyH_take (i := 8) (oi := ⟨some 13, _, _, _, _, _⟩) (v := ?_) rfl (by kernel_rfl) (by kernel_rfl) (by kernel_rfl) (fun _ _ _ h => h) (Or.inl ⟨by rfl, ?_⟩) (by assumption) ?_
  rotate_left 1
  · intro w hSw; (try dsimp only at hSw); go_simp; try (with_reducible rfl)
  try simp only [Act.put, List.setIfInBounds_toArray, List.set_cons_zero, List.set_cons_succ]
  refine wpAnyH_ready (rs := [4]) (by kernel_rfl) (by simp) ?_
  refine AllReadyH.cons (o := ⟨some 9, _, _, _, _, _⟩) rfl (fun K hK => ?_) AllReadyH.nil
  go_simp
  refine (s1 _).mono ?_
  rintro e w2 ⟨rfl, hb⟩
  go_wp2_with fail
  refine hK.out _ _ ?_ (fun hHeld2 => ?_)
  · exact ⟨cell_later hb hHeld.1, cell_later hb hHeld.2.1, cell_later hb hHeld.2.2.1, cell_later hb hHeld.2.2.2.1, cell_later hb hHeld.2.2.2.2.1, cell_later hb hHeld.2.2.2.2.2.1, hHeld.2.2.2.2.2.2.trans (hb.mono hHeld.2.2.2.2.2.2.size)⟩
  clear hK K hHeld hb
  have hHeld := hHeld2
  clear hHeld2
  try simp only [Act.put, List.setIfInBounds_toArray, List.set_cons_zero, List.set_cons_succ]
  refine wpAnyH_ready (rs := [9]) (by kernel_rfl) (by simp) ?_
  refine AllReadyH.cons (o := ⟨some 14, _, _, _, _, _⟩) rfl (fun K hK => ?_) AllReadyH.nil
  go_simp
  refine (s2 _).mono ?_
  rintro e w3 ⟨rfl, hb⟩
  go_wp2_with fail
  refine hK.out _ _ ?_ (fun hHeld2 => ?_)
  · exact ⟨cell_later hb hHeld.1, cell_later hb hHeld.2.1, cell_later hb hHeld.2.2.1, cell_later hb hHeld.2.2.2.1, cell_later hb hHeld.2.2.2.2.1, cell_later hb hHeld.2.2.2.2.2.1, hHeld.2.2.2.2.2.2.trans (hb.mono hHeld.2.2.2.2.2.2.size)⟩
  clear hK K hHeld hb
  have hHeld := hHeld2
  clear hHeld2
  try simp only [Act.put, List.setIfInBounds_toArray, List.set_cons_zero, List.set_cons_succ]
  refine wpAnyH_ready (rs := [10]) (by kernel_rfl) (by simp) ?_
  refine AllReadyH.cons (o := ⟨some 15, _, _, _, _, _⟩) rfl (fun K hK => ?_) AllReadyH.nil
  go_simp
  refine hK.out _ _ ?_ (fun hHeld2 => ?_)
  · have hb := (Below.refl w3.heap.size w3).alloc (Nat.le_refl _) (.cells #[.int .i64 x, .int .i64 y] 3)
    exact ⟨cell_later hb hHeld.1, cell_later hb hHeld.2.1, cell_later hb hHeld.2.2.1, cell_later hb hHeld.2.2.2.1, cell_later hb hHeld.2.2.2.2.1, cell_later hb hHeld.2.2.2.2.2.1, hHeld.2.2.2.2.2.2.trans (hb.mono hHeld.2.2.2.2.2.2.size)⟩
  clear hK K hHeld
  have hHeld := hHeld2
  clear hHeld2
  try simp only [Act.put, List.setIfInBounds_toArray, List.set_cons_zero, List.set_cons_succ]
  refine wpAnyH_ready (rs := [11]) (by kernel_rfl) (by simp) ?_
  refine AllReadyH.cons (o := ⟨some 16, _, _, _, _, _⟩) rfl (fun K hK => ?_) AllReadyH.nil
  go_simp
  refine (orN_any _ x y _ (by go_simp) (by go_simp)).mono ?_
  rintro e w4 ⟨rfl, rfl⟩
  go_wp2_with fail
  refine hK.out _ _ hHeld (fun hHeld2 => ?_)
  clear hK K hHeld
  have hHeld := hHeld2
  clear hHeld2
  try simp only [Act.put, List.setIfInBounds_toArray, List.set_cons_zero, List.set_cons_succ]
  refine wpAnyH_take (i := 12) (oi := ⟨some 4, _, _, _, _, _⟩) (v := ?_) rfl (by kernel_rfl) (by kernel_rfl) (by kernel_rfl) (fun _ _ _ h => h) (Or.inl ⟨by rfl, ?_⟩) (by assumption) ?_
  rotate_left 1
  · intro w hSw; (try dsimp only at hSw); go_simp; try (with_reducible rfl)
  try simp only [Act.put, List.setIfInBounds_toArray, List.set_cons_zero, List.set_cons_succ]
  refine wpAnyH_done (by kernel_rfl) ?_ _
  try simp only [Act.put, List.setIfInBounds_toArray, List.set_cons_zero, List.set_cons_succ]
  have D2 := Lib.hid (D.out.trans (hHeld.2.2.2.2.2.2.mono D.out.size))
  clear hHeld
  go_wp2_with fail
  go_ret
  exact ⟨rfl, D2.out⟩
end Go.Proofs.Ytbklkhndjckckaa

/- slices' insertion sort at nodes. -/
namespace Go.Proofs.Ytbklkhndjckckaa
open Go.RowKit
set_option linter.unusedVariables false

theorem ndc_def (N : List Nd) (U : Us) (k : Nat) : ndc N U k = [.int .i64 (N.getD k nd0).id.1, .int .i64 (N.getD k nd0).id.2, .int .i64 (N.getD k nd0).seq, .slice (U k).1 (U k).2.1 (U k).2.2] := rfl

theorem RowN.drew {w : World} {mb : Nat} {N : List Nd} {U : Us} {Q : List Nat} (h : RowN w mb N U Q) : RowN w.drew mb N U Q := h.same rfl
theorem swap_exc {mb : Nat} {w W : World} (h : Exc (fun b => b = mb) w W) (o0 o1 o2 o3 o4 o5 o6 o7 : Nat) (v0 v1 v2 v3 v4 v5 v6 v7 : Value) :
    Exc (fun b => b = mb) w ((((((((W.setCell ⟨mb, o0, none⟩ v0).setCell ⟨mb, o1, none⟩ v1).setCell ⟨mb, o2, none⟩ v2).setCell ⟨mb, o3, none⟩ v3).setCell ⟨mb, o4, none⟩ v4).setCell ⟨mb, o5, none⟩ v5).setCell ⟨mb, o6, none⟩ v6).setCell ⟨mb, o7, none⟩ v7).drew :=
  ((((((((h.set (.inl rfl) _ _).set (.inl rfl) _ _).set (.inl rfl) _ _).set (.inl rfl) _ _).set (.inl rfl) _ _).set (.inl rfl) _ _).set (.inl rfl) _ _).set (.inl rfl) _ _).drew

set_option maxRecDepth 100000 in
set_option maxHeartbeats 4000000 in
theorem nins_at (mb cap : Nat) (N : List Nd) (U : Us) (Q0 : List Nat) (w : World) (hv : nodB N = true) (hQ : ∀ k ∈ Q0, k < N.length) (hnd : Q0.Nodup) (h1 : 1 ≤ Q0.length) (h2 : Q0.length ≤ 12) (hR : RowN w mb N U Q0) :
    Calls Try.prog 81 #[.slice (some ⟨mb, 0, none⟩) Q0.length cap, .int .i64 0, .int .i64 Q0.length, .func (.func 58) #[] #[]] w fun e w' =>
      e = .returned (.tuple #[]) ∧ ∃ Q, Srd N Q0 Q Q0.length ∧ RowN w' mb N U Q ∧ Exc (fun b => b = mb) w w' := by
  have hR := Lib.hid hR
  have hQ := Lib.hid hQ
  have hnd := Lib.hid hnd
  have hv := Lib.hid hv
  have hmb := hR.out.lt
  obtain ⟨n, hn⟩ : ∃ n, Hid (Q0.length = n) := ⟨_, Lib.hid rfl⟩
  rw [hn.out] at h1 h2 ⊢
  go_enter Try.func81, Try.ntmps81
  go_wp2_with fail
  go_loopw [8] (fun i wr => ∃ k : Nat, 1 ≤ k ∧ k ≤ n ∧ i = .int .i64 k ∧ ∃ Q, Hid (Srd N Q0 Q k ∧ RowN wr mb N U Q ∧ Exc (fun b => b = mb) w wr)) (fun i _ => n - (intOf i).toNat)
  case atStart => exact ⟨1, Nat.le_refl _, h1, rfl, Q0, Lib.hid ⟨⟨List.Perm.refl _, by rw [hn.out]; exact h1, fun a b hab hb => by omega⟩, hR.out, Exc.refl _ _⟩⟩
  case round =>
    obtain ⟨k, hk1, hk, rfl, Q, hS⟩ := hrel
    clear hR
    by_cases hlt : k < n
    · have hI := Lib.hid (hS.out.1.ins (by rw [hS.out.1.perm.length_eq, hn.out]; exact hlt))
      have hc : decide ((k : Int) < (n : Int)) = true := by simp; omega
      go_wp2_with fail
      try simp only [hc]
      go_loopw [9] (fun i wr2 => ∃ j : Nat, j ≤ k ∧ i = .int .i64 j ∧ ∃ Q, Hid (Ins N Q0 Q k j ∧ RowN wr2 mb N U Q ∧ Exc (fun b => b = mb) w wr2)) (fun i _ => (intOf i).toNat)
      case atStart => exact ⟨k, Nat.le_refl _, rfl, Q, Lib.hid ⟨hI.out, hS.out.2.1, hS.out.2.2⟩⟩
      case round =>
        clear hI hS
        obtain ⟨j, hjk, rfl, Q, hS⟩ := hrel
        have hln : Q.length = n := by rw [← hn.out]; exact hS.out.1.perm.length_eq
        rcases Nat.eq_zero_or_pos j with hj0 | hj0
        · subst hj0
          have R := Lib.hid (hS.out.1.done (.inl rfl))
          have R2 := Lib.hid hS.out.2
          clear hS hln
          go_upto_region 4 with fail
          refine wp_region_held_drew (S := fun w' => Below wr.heap.size wr w') (by kernel_rfl) (Below.drew (Below.refl _ _)) (fun hHeld => ?_)
          refine wpAnyH_take (i := 0) (oi := ⟨some 18, _, _, _, _, _⟩) (v := ?_) rfl (by kernel_rfl) (by kernel_rfl) (by kernel_rfl) (fun _ _ _ h => h) (Or.inl ⟨by rfl, ?_⟩) (by assumption) ?_
          rotate_left 1
          · intro w hSw; (try dsimp only at hSw); go_simp; try (with_reducible rfl)
          try simp only [Act.put, List.setIfInBounds_toArray, List.set_cons_zero, List.set_cons_succ]
          refine wpAnyH_take (i := 1) (oi := ⟨some 19, _, _, _, _, _⟩) (v := ?_) rfl (by kernel_rfl) (by kernel_rfl) (by kernel_rfl) (fun _ _ _ h => h) (Or.inl ⟨by rfl, ?_⟩) (by assumption) ?_
          rotate_left 1
          · intro w hSw; (try dsimp only at hSw); go_simp; try (with_reducible rfl)
          try simp only [Act.put, List.setIfInBounds_toArray, List.set_cons_zero, List.set_cons_succ]
          refine wpAnyH_take (i := 2) (oi := ⟨some 20, _, _, _, _, _⟩) (v := ?_) rfl (by kernel_rfl) (by kernel_rfl) (by kernel_rfl) (fun _ _ _ h => h) (Or.inl ⟨by rfl, ?_⟩) (by assumption) ?_
          rotate_left 1
          · intro w hSw; (try dsimp only at hSw); go_simp; try (with_reducible rfl)
          try simp only [Act.put, List.setIfInBounds_toArray, List.set_cons_zero, List.set_cons_succ]
          refine wpAnyH_take (i := 3) (oi := ⟨some 21, _, _, _, _, _⟩) (v := ?_) rfl (by kernel_rfl) (by kernel_rfl) (by kernel_rfl) (fun _ _ _ h => h) (Or.inl ⟨by rfl, ?_⟩) (by assumption) ?_
          rotate_left 1
          · intro w hSw; (try dsimp only at hSw); go_simp; try (with_reducible rfl)
          try simp only [Act.put, List.setIfInBounds_toArray, List.set_cons_zero, List.set_cons_succ]
          refine wpAnyH_take (i := 4) (oi := ⟨some 22, _, _, _, _, _⟩) (v := undef) rfl (by kernel_rfl) (by kernel_rfl) (by kernel_rfl) (fun _ _ _ h => h) (Or.inr ⟨by rfl, rfl⟩) (by assumption) ?_
          try simp only [Act.put, List.setIfInBounds_toArray, List.set_cons_zero, List.set_cons_succ]
          refine wpAnyH_take (i := 5) (oi := ⟨some 23, _, _, _, _, _⟩) (v := undef) rfl (by kernel_rfl) (by kernel_rfl) (by kernel_rfl) (fun _ _ _ h => h) (Or.inr ⟨by rfl, rfl⟩) (by assumption) ?_
          try simp only [Act.put, List.setIfInBounds_toArray, List.set_cons_zero, List.set_cons_succ]
          refine wpAnyH_take (i := 6) (oi := ⟨some 24, _, _, _, _, _⟩) (v := undef) rfl (by kernel_rfl) (by kernel_rfl) (by kernel_rfl) (fun _ _ _ h => h) (Or.inr ⟨by rfl, rfl⟩) (by assumption) ?_
          try simp only [Act.put, List.setIfInBounds_toArray, List.set_cons_zero, List.set_cons_succ]
          refine wpAnyH_take (i := 7) (oi := ⟨some 25, _, _, _, _, _⟩) (v := undef) rfl (by kernel_rfl) (by kernel_rfl) (by kernel_rfl) (fun _ _ _ h => h) (Or.inr ⟨by rfl, rfl⟩) (by assumption) ?_
          try simp only [Act.put, List.setIfInBounds_toArray, List.set_cons_zero, List.set_cons_succ]
          refine wpAnyH_take (i := 8) (oi := ⟨some 26, _, _, _, _, _⟩) (v := undef) rfl (by kernel_rfl) (by kernel_rfl) (by kernel_rfl) (fun _ _ _ h => h) (Or.inr ⟨by rfl, rfl⟩) (by assumption) ?_
          try simp only [Act.put, List.setIfInBounds_toArray, List.set_cons_zero, List.set_cons_succ]
          refine wpAnyH_take (i := 9) (oi := ⟨some 27, _, _, _, _, _⟩) (v := undef) rfl (by kernel_rfl) (by kernel_rfl) (by kernel_rfl) (fun _ _ _ h => h) (Or.inr ⟨by rfl, rfl⟩) (by assumption) ?_
          try simp only [Act.put, List.setIfInBounds_toArray, List.set_cons_zero, List.set_cons_succ]
          refine wpAnyH_take (i := 10) (oi := ⟨some 28, _, _, _, _, _⟩) (v := undef) rfl (by kernel_rfl) (by kernel_rfl) (by kernel_rfl) (fun _ _ _ h => h) (Or.inr ⟨by rfl, rfl⟩) (by assumption) ?_
          try simp only [Act.put, List.setIfInBounds_toArray, List.set_cons_zero, List.set_cons_succ]
          refine wpAnyH_take (i := 11) (oi := ⟨some 29, _, _, _, _, _⟩) (v := undef) rfl (by kernel_rfl) (by kernel_rfl) (by kernel_rfl) (fun _ _ _ h => h) (Or.inr ⟨by rfl, rfl⟩) (by assumption) ?_
          try simp only [Act.put, List.setIfInBounds_toArray, List.set_cons_zero, List.set_cons_succ]
          refine wpAnyH_take (i := 12) (oi := ⟨some 30, _, _, _, _, _⟩) (v := undef) rfl (by kernel_rfl) (by kernel_rfl) (by kernel_rfl) (fun _ _ _ h => h) (Or.inr ⟨by rfl, rfl⟩) (by assumption) ?_
          try simp only [Act.put, List.setIfInBounds_toArray, List.set_cons_zero, List.set_cons_succ]
          refine wpAnyH_take (i := 13) (oi := ⟨some 31, _, _, _, _, _⟩) (v := undef) rfl (by kernel_rfl) (by kernel_rfl) (by kernel_rfl) (fun _ _ _ h => h) (Or.inr ⟨by rfl, rfl⟩) (by assumption) ?_
          try simp only [Act.put, List.setIfInBounds_toArray, List.set_cons_zero, List.set_cons_succ]
          refine wpAnyH_take (i := 14) (oi := ⟨some 32, _, _, _, _, _⟩) (v := undef) rfl (by kernel_rfl) (by kernel_rfl) (by kernel_rfl) (fun _ _ _ h => h) (Or.inr ⟨by rfl, rfl⟩) (by assumption) ?_
          try simp only [Act.put, List.setIfInBounds_toArray, List.set_cons_zero, List.set_cons_succ]
          refine wpAnyH_take (i := 15) (oi := ⟨some 33, _, _, _, _, _⟩) (v := undef) rfl (by kernel_rfl) (by kernel_rfl) (by kernel_rfl) (fun _ _ _ h => h) (Or.inr ⟨by rfl, rfl⟩) (by assumption) ?_
          try simp only [Act.put, List.setIfInBounds_toArray, List.set_cons_zero, List.set_cons_succ]
          refine wpAnyH_take (i := 16) (oi := ⟨some 34, _, _, _, _, _⟩) (v := ?_) rfl (by kernel_rfl) (by kernel_rfl) (by kernel_rfl) (fun _ _ _ h => h) (Or.inl ⟨by rfl, ?_⟩) (by assumption) ?_
          rotate_left 1
          · intro w hSw; (try dsimp only at hSw); go_simp; try (with_reducible rfl)
          try simp only [Act.put, List.setIfInBounds_toArray, List.set_cons_zero, List.set_cons_succ]
          refine wpAnyH_done (by kernel_rfl) ?_ _
          try simp only [Act.put, List.setIfInBounds_toArray, List.set_cons_zero, List.set_cons_succ]
          have R3 := Lib.hid (R2.out.1.same (hHeld.block mb R2.out.1.lt))
          have R4 := Lib.hid (R2.out.2.below hHeld)
          clear hHeld R2
          go_wp2_with fail
          go_roundw
          case rel => exact ⟨k + 1, by omega, by omega, by go_num, Q, Lib.hid ⟨R.out, R3.out, R4.out⟩⟩
          case measure => simp [intOf]; omega
        · obtain ⟨jj, rfl⟩ : ∃ jj, j = jj + 1 := ⟨j - 1, by omega⟩
          obtain ⟨a0, a1, a2, a3⟩ := hS.out.2.1.cell (i := jj + 1) (by omega)
          obtain ⟨b0, b1, b2, b3⟩ := hS.out.2.1.cell (i := jj) (by omega)
          have hx := Lib.hid (ndc_def N U (Q.getD (jj + 1) 0))
          have hy := Lib.hid (ndc_def N U (Q.getD jj 0))
          have hso : Hid (soonK N (Q.getD (jj + 1) 0) (Q.getD jj 0) ↔ (N.getD (Q.getD (jj + 1) 0) nd0).seq < (N.getD (Q.getD jj 0) nd0).seq ∨ (N.getD (Q.getD (jj + 1) 0) nd0).seq = (N.getD (Q.getD jj 0) nd0).seq ∧ ltB (N.getD (Q.getD (jj + 1) 0) nd0).id.1 (N.getD (Q.getD (jj + 1) 0) nd0).id.2 (N.getD (Q.getD jj 0) nd0).id.1 (N.getD (Q.getD jj 0) nd0).id.2 = true) := Lib.hid Iff.rfl
          generalize (N.getD (Q.getD (jj + 1) 0) nd0).id.1 = p at a0 hx hso
          generalize (N.getD (Q.getD (jj + 1) 0) nd0).id.2 = r at a1 hx hso
          generalize (N.getD (Q.getD (jj + 1) 0) nd0).seq = s at a2 hx hso
          generalize (U (Q.getD (jj + 1) 0)).1 = ua at a3 hx
          generalize (U (Q.getD (jj + 1) 0)).2.1 = un at a3 hx
          generalize (U (Q.getD (jj + 1) 0)).2.2 = uc at a3 hx
          generalize (N.getD (Q.getD jj 0) nd0).id.1 = p' at b0 hy hso
          generalize (N.getD (Q.getD jj 0) nd0).id.2 = r' at b1 hy hso
          generalize (N.getD (Q.getD jj 0) nd0).seq = s' at b2 hy hso
          generalize (U (Q.getD jj 0)).1 = ua' at b3 hy
          generalize (U (Q.getD jj 0)).2.1 = un' at b3 hy
          generalize (U (Q.getD jj 0)).2.2 = uc' at b3 hy
          have sc := cmpD_any p r s ua un uc p' r' s' ua' un' uc'
          have hz := Lib.hid ((cmpD_neg (s := s) (s' := s') (p := p) (r := r) (p' := p') (r' := r')).trans hso.out.symm)
          obtain ⟨z, ez⟩ : ∃ z, Hid (cmpD s s' p r p' r' = z) := ⟨_, Lib.hid rfl⟩
          rw [ez.out] at sc
          have hz := hz.out
          rw [ez.out] at hz
          have hz := Lib.hid hz
          clear ez hso
          have d3 : IntKind.i64.wrap (jj : Int) = (jj : Int) := IntWalk.i64_in _ (by omega)
          have d2 : IntKind.i64.wrap ((jj : Int) + 1 - 1) = (jj : Int) := by rw [show (jj : Int) + 1 - 1 = jj by omega]; exact d3
          have i0 : (0 : Int) ≤ (jj : Int) := by omega
          have i1 : (jj : Int) < (n : Int) := by omega
          have i2 : (jj : Int) ≤ (n : Int) := by omega
          have e0 : (0 : Int) ≤ (jj : Int) + 1 := by omega
          have e1 : (jj : Int) + 1 < (n : Int) := by omega
          have e2 : (jj : Int) + 1 ≤ (n : Int) := by omega
          have e3 : (0 : Int) < (jj : Int) + 1 := by omega
          have c3 : ((jj : Int) + 1).toNat = jj + 1 := by omega
          by_cases hzz : z < 0
          · have R := Lib.hid (hS.out.1.step (hz.out.1 hzz))
            have R2 := Lib.hid hS.out.2
            clear hz hS
            go_upto_region 4 with fail
            refine wp_region_held_drew (S := fun w' => w'.cell? ⟨mb, (jj + 1) * 4, none⟩ = some (.int .i64 p) ∧ w'.cell? ⟨mb, (jj + 1) * 4 + 1, none⟩ = some (.int .i64 r) ∧ w'.cell? ⟨mb, (jj + 1) * 4 + 2, none⟩ = some (.int .i64 s) ∧ w'.cell? ⟨mb, (jj + 1) * 4 + 3, none⟩ = some (.slice ua un uc) ∧ w'.cell? ⟨mb, jj * 4, none⟩ = some (.int .i64 p') ∧ w'.cell? ⟨mb, jj * 4 + 1, none⟩ = some (.int .i64 r') ∧ w'.cell? ⟨mb, jj * 4 + 2, none⟩ = some (.int .i64 s') ∧ w'.cell? ⟨mb, jj * 4 + 3, none⟩ = some (.slice ua' un' uc') ∧ Below wr.heap.size wr w') (by kernel_rfl) ⟨a0, a1, a2, a3, b0, b1, b2, b3, Below.drew (Below.refl _ _)⟩ (fun hHeld => ?_)
            refine wpAnyH_take (i := 0) (oi := ⟨some 18, _, _, _, _, _⟩) (v := ?_) rfl (by kernel_rfl) (by kernel_rfl) (by kernel_rfl) (fun _ _ _ h => h) (Or.inl ⟨by rfl, ?_⟩) (by assumption) ?_
            rotate_left 1
            · intro w hSw; (try dsimp only at hSw); go_simp; try (with_reducible rfl)
            try simp only [Act.put, List.setIfInBounds_toArray, List.set_cons_zero, List.set_cons_succ]
            refine wpAnyH_take (i := 1) (oi := ⟨some 19, _, _, _, _, _⟩) (v := ?_) rfl (by kernel_rfl) (by kernel_rfl) (by kernel_rfl) (fun _ _ _ h => h) (Or.inl ⟨by rfl, ?_⟩) (by assumption) ?_
            rotate_left 1
            · intro w hSw; (try dsimp only at hSw); go_simp; try (with_reducible rfl)
            try simp only [Act.put, List.setIfInBounds_toArray, List.set_cons_zero, List.set_cons_succ]
            refine wpAnyH_take (i := 2) (oi := ⟨some 20, _, _, _, _, _⟩) (v := ?_) rfl (by kernel_rfl) (by kernel_rfl) (by kernel_rfl) (fun _ _ _ h => h) (Or.inl ⟨by rfl, ?_⟩) (by assumption) ?_
            rotate_left 1
            · intro w hSw; (try dsimp only at hSw); go_simp; try (with_reducible rfl)
            try simp only [Act.put, List.setIfInBounds_toArray, List.set_cons_zero, List.set_cons_succ]
            refine wpAnyH_take (i := 3) (oi := ⟨some 21, _, _, _, _, _⟩) (v := ?_) rfl (by kernel_rfl) (by kernel_rfl) (by kernel_rfl) (fun _ _ _ h => h) (Or.inl ⟨by rfl, ?_⟩) (by assumption) ?_
            rotate_left 1
            · intro w hSw; (try dsimp only at hSw); go_simp; try (with_reducible rfl)
            try simp only [Act.put, List.setIfInBounds_toArray, List.set_cons_zero, List.set_cons_succ]
            refine wpAnyH_take (i := 4) (oi := ⟨some 22, _, _, _, _, _⟩) (v := ?_) rfl (by kernel_rfl) (by kernel_rfl) (by kernel_rfl) (fun _ _ _ h => h) (Or.inl ⟨by rfl, ?_⟩) (by assumption) ?_
            rotate_left 1
            · intro w hSw; (try dsimp only at hSw); go_simp; try (with_reducible rfl)
            try simp only [Act.put, List.setIfInBounds_toArray, List.set_cons_zero, List.set_cons_succ]
            refine wpAnyH_take (i := 5) (oi := ⟨some 23, _, _, _, _, _⟩) (v := ?_) rfl (by kernel_rfl) (by kernel_rfl) (by kernel_rfl) (fun _ _ _ h => h) (Or.inl ⟨by rfl, ?_⟩) (by assumption) ?_
            rotate_left 1
            · intro w hSw; (try dsimp only at hSw); go_simp; try (with_reducible rfl)
            try simp only [Act.put, List.setIfInBounds_toArray, List.set_cons_zero, List.set_cons_succ]
            refine wpAnyH_take (i := 6) (oi := ⟨some 24, _, _, _, _, _⟩) (v := ?_) rfl (by kernel_rfl) (by kernel_rfl) (by kernel_rfl) (fun _ _ _ h => h) (Or.inl ⟨by rfl, ?_⟩) (by assumption) ?_
            rotate_left 1
            · intro w hSw; (try dsimp only at hSw); go_simp; try (with_reducible rfl)
            try simp only [Act.put, List.setIfInBounds_toArray, List.set_cons_zero, List.set_cons_succ]
            refine wpAnyH_take (i := 7) (oi := ⟨some 25, _, _, _, _, _⟩) (v := ?_) rfl (by kernel_rfl) (by kernel_rfl) (by kernel_rfl) (fun _ _ _ h => h) (Or.inl ⟨by rfl, ?_⟩) (by assumption) ?_
            rotate_left 1
            · intro w hSw; (try dsimp only at hSw); go_simp; try (with_reducible rfl)
            try simp only [Act.put, List.setIfInBounds_toArray, List.set_cons_zero, List.set_cons_succ]
            refine wpAnyH_take (i := 8) (oi := ⟨some 26, _, _, _, _, _⟩) (v := ?_) rfl (by kernel_rfl) (by kernel_rfl) (by kernel_rfl) (fun _ _ _ h => h) (Or.inl ⟨by rfl, ?_⟩) (by assumption) ?_
            rotate_left 1
            · intro w hSw; (try dsimp only at hSw); go_simp; try (with_reducible rfl)
            try simp only [Act.put, List.setIfInBounds_toArray, List.set_cons_zero, List.set_cons_succ]
            refine wpAnyH_take (i := 9) (oi := ⟨some 27, _, _, _, _, _⟩) (v := ?_) rfl (by kernel_rfl) (by kernel_rfl) (by kernel_rfl) (fun _ _ _ h => h) (Or.inl ⟨by rfl, ?_⟩) (by assumption) ?_
            rotate_left 1
            · intro w hSw; (try dsimp only at hSw); go_simp; try (with_reducible rfl)
            try simp only [Act.put, List.setIfInBounds_toArray, List.set_cons_zero, List.set_cons_succ]
            refine wpAnyH_take (i := 10) (oi := ⟨some 28, _, _, _, _, _⟩) (v := ?_) rfl (by kernel_rfl) (by kernel_rfl) (by kernel_rfl) (fun _ _ _ h => h) (Or.inl ⟨by rfl, ?_⟩) (by assumption) ?_
            rotate_left 1
            · intro w hSw; (try dsimp only at hSw); go_simp; try (with_reducible rfl)
            try simp only [Act.put, List.setIfInBounds_toArray, List.set_cons_zero, List.set_cons_succ]
            refine wpAnyH_take (i := 11) (oi := ⟨some 29, _, _, _, _, _⟩) (v := ?_) rfl (by kernel_rfl) (by kernel_rfl) (by kernel_rfl) (fun _ _ _ h => h) (Or.inl ⟨by rfl, ?_⟩) (by assumption) ?_
            rotate_left 1
            · intro w hSw; (try dsimp only at hSw); go_simp; try (with_reducible rfl)
            try simp only [Act.put, List.setIfInBounds_toArray, List.set_cons_zero, List.set_cons_succ]
            refine wpAnyH_take (i := 12) (oi := ⟨some 30, _, _, _, _, _⟩) (v := ?_) rfl (by kernel_rfl) (by kernel_rfl) (by kernel_rfl) (fun _ _ _ h => h) (Or.inl ⟨by rfl, ?_⟩) (by assumption) ?_
            rotate_left 1
            · intro w hSw; (try dsimp only at hSw); go_simp; try (with_reducible rfl)
            try simp only [Act.put, List.setIfInBounds_toArray, List.set_cons_zero, List.set_cons_succ]
            refine wpAnyH_take (i := 13) (oi := ⟨some 31, _, _, _, _, _⟩) (v := ?_) rfl (by kernel_rfl) (by kernel_rfl) (by kernel_rfl) (fun _ _ _ h => h) (Or.inl ⟨by rfl, ?_⟩) (by assumption) ?_
            rotate_left 1
            · intro w hSw; (try dsimp only at hSw); go_simp; try (with_reducible rfl)
            try simp only [Act.put, List.setIfInBounds_toArray, List.set_cons_zero, List.set_cons_succ]
            refine wpAnyH_ready (rs := [14]) (by kernel_rfl) (by simp) ?_
            refine AllReadyH.cons (o := ⟨some 32, _, _, _, _, _⟩) rfl (fun K hK => ?_) AllReadyH.nil
            go_simp
            refine (sc _).mono ?_
            rintro e w2 ⟨rfl, hb⟩
            go_wp2_with fail
            refine hK.out _ _ ?_ (fun hHeld2 => ?_)
            · exact ⟨cell_later hb hHeld.1, cell_later hb hHeld.2.1, cell_later hb hHeld.2.2.1, cell_later hb hHeld.2.2.2.1, cell_later hb hHeld.2.2.2.2.1, cell_later hb hHeld.2.2.2.2.2.1, cell_later hb hHeld.2.2.2.2.2.2.1, cell_later hb hHeld.2.2.2.2.2.2.2.1, hHeld.2.2.2.2.2.2.2.2.trans (hb.mono hHeld.2.2.2.2.2.2.2.2.size)⟩
            clear hK K hHeld hb
            have hHeld := hHeld2
            clear hHeld2
            try simp only [Act.put, List.setIfInBounds_toArray, List.set_cons_zero, List.set_cons_succ]
            refine wpAnyH_take (i := 15) (oi := ⟨some 33, _, _, _, _, _⟩) (v := ?_) rfl (by kernel_rfl) (by kernel_rfl) (by kernel_rfl) (fun _ _ _ h => h) (Or.inl ⟨by rfl, ?_⟩) (by assumption) ?_
            rotate_left 1
            · intro w hSw; (try dsimp only at hSw); go_simp; try (with_reducible rfl)
            try simp only [Act.put, List.setIfInBounds_toArray, List.set_cons_zero, List.set_cons_succ]
            refine wpAnyH_take (i := 16) (oi := ⟨some 34, _, _, _, _, _⟩) (v := ?_) rfl (by kernel_rfl) (by kernel_rfl) (by kernel_rfl) (fun _ _ _ h => h) (Or.inl ⟨by rfl, ?_⟩) (by assumption) ?_
            rotate_left 1
            · intro w hSw; (try dsimp only at hSw); go_simp; try (with_reducible rfl)
            try simp only [Act.put, List.setIfInBounds_toArray, List.set_cons_zero, List.set_cons_succ]
            refine wpAnyH_done (by kernel_rfl) ?_ _
            try simp only [Act.put, List.setIfInBounds_toArray, List.set_cons_zero, List.set_cons_succ]
            have R3 := Lib.hid (R2.out.1.same (hHeld.2.2.2.2.2.2.2.2.block mb R2.out.1.lt))
            have R4 := Lib.hid (R2.out.2.below hHeld.2.2.2.2.2.2.2.2)
            obtain ⟨a0, a1, a2, a3, b0, b1, b2, b3, hD⟩ := hHeld
            have f := fun m => R3.out.free m
            have fa0 := f ((jj + 1) * 4)
            have fa1 := f ((jj + 1) * 4 + 1)
            have fa2 := f ((jj + 1) * 4 + 2)
            have fa3 := f ((jj + 1) * 4 + 3)
            have fb0 := f (jj * 4)
            have fb1 := f (jj * 4 + 1)
            have fb2 := f (jj * 4 + 2)
            have fb3 := f (jj * 4 + 3)
            have hlen : jj + 1 < Q.length := by omega
            have P1 := R3.out.put (i := jj + 1) (k := Q.getD jj 0) hlen hy.out
            have P2 := Lib.hid (P1.put (i := jj) (k := Q.getD (jj + 1) 0) (by rw [List.length_set]; omega) hx.out)
            clear R2 f hD P1 R3
            go_wp2_with fail
            go_region
            go_wp2_with fail
            refine ⟨⟨jj, by omega, rfl, _, Lib.hid ⟨R.out, P2.out.drew, swap_exc R4.out _ _ _ _ _ _ _ _ _ _ _ _ _ _ _ _⟩⟩, ?_⟩
            simp [intOf]
          · have R := Lib.hid (hS.out.1.done (.inr (by
              have hp := hS.out.1.perm
              have hm : ∀ t, t < Q.length → Q.getD t 0 < N.length := fun t ht => hQ.out _ (hp.mem_iff.1 (by rw [List.getD_eq_getElem?_getD, List.getElem?_eq_getElem ht]; exact List.getElem_mem ht))
              have hd : Q.Nodup := hp.nodup_iff.2 hnd.out
              show soonK N (Q.getD jj 0) (Q.getD (jj + 1) 0)
              refine soonK.tri hv.out (hm (jj + 1) (by omega)) (hm jj (by omega)) (fun e => ?_) (fun hh => hzz (hz.out.2 hh))
              rw [List.getD_eq_getElem?_getD, List.getD_eq_getElem?_getD, List.getElem?_eq_getElem (show jj + 1 < Q.length by omega), List.getElem?_eq_getElem (show jj < Q.length by omega), Option.getD_some, Option.getD_some] at e
              exact absurd e.symm (List.pairwise_iff_getElem.1 hd jj (jj + 1) (by omega) (by omega) (by omega)))))
            have R2 := Lib.hid hS.out.2
            clear hz hS
            go_upto_region 4 with fail
            refine wp_region_held_drew (S := fun w' => w'.cell? ⟨mb, (jj + 1) * 4, none⟩ = some (.int .i64 p) ∧ w'.cell? ⟨mb, (jj + 1) * 4 + 1, none⟩ = some (.int .i64 r) ∧ w'.cell? ⟨mb, (jj + 1) * 4 + 2, none⟩ = some (.int .i64 s) ∧ w'.cell? ⟨mb, (jj + 1) * 4 + 3, none⟩ = some (.slice ua un uc) ∧ w'.cell? ⟨mb, jj * 4, none⟩ = some (.int .i64 p') ∧ w'.cell? ⟨mb, jj * 4 + 1, none⟩ = some (.int .i64 r') ∧ w'.cell? ⟨mb, jj * 4 + 2, none⟩ = some (.int .i64 s') ∧ w'.cell? ⟨mb, jj * 4 + 3, none⟩ = some (.slice ua' un' uc') ∧ Below wr.heap.size wr w') (by kernel_rfl) ⟨a0, a1, a2, a3, b0, b1, b2, b3, Below.drew (Below.refl _ _)⟩ (fun hHeld => ?_)
            refine wpAnyH_take (i := 0) (oi := ⟨some 18, _, _, _, _, _⟩) (v := ?_) rfl (by kernel_rfl) (by kernel_rfl) (by kernel_rfl) (fun _ _ _ h => h) (Or.inl ⟨by rfl, ?_⟩) (by assumption) ?_
            rotate_left 1
            · intro w hSw; (try dsimp only at hSw); go_simp; try (with_reducible rfl)
            try simp only [Act.put, List.setIfInBounds_toArray, List.set_cons_zero, List.set_cons_succ]
            refine wpAnyH_take (i := 1) (oi := ⟨some 19, _, _, _, _, _⟩) (v := ?_) rfl (by kernel_rfl) (by kernel_rfl) (by kernel_rfl) (fun _ _ _ h => h) (Or.inl ⟨by rfl, ?_⟩) (by assumption) ?_
            rotate_left 1
            · intro w hSw; (try dsimp only at hSw); go_simp; try (with_reducible rfl)
            try simp only [Act.put, List.setIfInBounds_toArray, List.set_cons_zero, List.set_cons_succ]
            refine wpAnyH_take (i := 2) (oi := ⟨some 20, _, _, _, _, _⟩) (v := ?_) rfl (by kernel_rfl) (by kernel_rfl) (by kernel_rfl) (fun _ _ _ h => h) (Or.inl ⟨by rfl, ?_⟩) (by assumption) ?_
            rotate_left 1
            · intro w hSw; (try dsimp only at hSw); go_simp; try (with_reducible rfl)
            try simp only [Act.put, List.setIfInBounds_toArray, List.set_cons_zero, List.set_cons_succ]
            refine wpAnyH_take (i := 3) (oi := ⟨some 21, _, _, _, _, _⟩) (v := ?_) rfl (by kernel_rfl) (by kernel_rfl) (by kernel_rfl) (fun _ _ _ h => h) (Or.inl ⟨by rfl, ?_⟩) (by assumption) ?_
            rotate_left 1
            · intro w hSw; (try dsimp only at hSw); go_simp; try (with_reducible rfl)
            try simp only [Act.put, List.setIfInBounds_toArray, List.set_cons_zero, List.set_cons_succ]
            refine wpAnyH_take (i := 4) (oi := ⟨some 22, _, _, _, _, _⟩) (v := ?_) rfl (by kernel_rfl) (by kernel_rfl) (by kernel_rfl) (fun _ _ _ h => h) (Or.inl ⟨by rfl, ?_⟩) (by assumption) ?_
            rotate_left 1
            · intro w hSw; (try dsimp only at hSw); go_simp; try (with_reducible rfl)
            try simp only [Act.put, List.setIfInBounds_toArray, List.set_cons_zero, List.set_cons_succ]
            refine wpAnyH_take (i := 5) (oi := ⟨some 23, _, _, _, _, _⟩) (v := ?_) rfl (by kernel_rfl) (by kernel_rfl) (by kernel_rfl) (fun _ _ _ h => h) (Or.inl ⟨by rfl, ?_⟩) (by assumption) ?_
            rotate_left 1
            · intro w hSw; (try dsimp only at hSw); go_simp; try (with_reducible rfl)
            try simp only [Act.put, List.setIfInBounds_toArray, List.set_cons_zero, List.set_cons_succ]
            refine wpAnyH_take (i := 6) (oi := ⟨some 24, _, _, _, _, _⟩) (v := ?_) rfl (by kernel_rfl) (by kernel_rfl) (by kernel_rfl) (fun _ _ _ h => h) (Or.inl ⟨by rfl, ?_⟩) (by assumption) ?_
            rotate_left 1
            · intro w hSw; (try dsimp only at hSw); go_simp; try (with_reducible rfl)
            try simp only [Act.put, List.setIfInBounds_toArray, List.set_cons_zero, List.set_cons_succ]
            refine wpAnyH_take (i := 7) (oi := ⟨some 25, _, _, _, _, _⟩) (v := ?_) rfl (by kernel_rfl) (by kernel_rfl) (by kernel_rfl) (fun _ _ _ h => h) (Or.inl ⟨by rfl, ?_⟩) (by assumption) ?_
            rotate_left 1
            · intro w hSw; (try dsimp only at hSw); go_simp; try (with_reducible rfl)
            try simp only [Act.put, List.setIfInBounds_toArray, List.set_cons_zero, List.set_cons_succ]
            refine wpAnyH_take (i := 8) (oi := ⟨some 26, _, _, _, _, _⟩) (v := ?_) rfl (by kernel_rfl) (by kernel_rfl) (by kernel_rfl) (fun _ _ _ h => h) (Or.inl ⟨by rfl, ?_⟩) (by assumption) ?_
            rotate_left 1
            · intro w hSw; (try dsimp only at hSw); go_simp; try (with_reducible rfl)
            try simp only [Act.put, List.setIfInBounds_toArray, List.set_cons_zero, List.set_cons_succ]
            refine wpAnyH_take (i := 9) (oi := ⟨some 27, _, _, _, _, _⟩) (v := ?_) rfl (by kernel_rfl) (by kernel_rfl) (by kernel_rfl) (fun _ _ _ h => h) (Or.inl ⟨by rfl, ?_⟩) (by assumption) ?_
            rotate_left 1
            · intro w hSw; (try dsimp only at hSw); go_simp; try (with_reducible rfl)
            try simp only [Act.put, List.setIfInBounds_toArray, List.set_cons_zero, List.set_cons_succ]
            refine wpAnyH_take (i := 10) (oi := ⟨some 28, _, _, _, _, _⟩) (v := ?_) rfl (by kernel_rfl) (by kernel_rfl) (by kernel_rfl) (fun _ _ _ h => h) (Or.inl ⟨by rfl, ?_⟩) (by assumption) ?_
            rotate_left 1
            · intro w hSw; (try dsimp only at hSw); go_simp; try (with_reducible rfl)
            try simp only [Act.put, List.setIfInBounds_toArray, List.set_cons_zero, List.set_cons_succ]
            refine wpAnyH_take (i := 11) (oi := ⟨some 29, _, _, _, _, _⟩) (v := ?_) rfl (by kernel_rfl) (by kernel_rfl) (by kernel_rfl) (fun _ _ _ h => h) (Or.inl ⟨by rfl, ?_⟩) (by assumption) ?_
            rotate_left 1
            · intro w hSw; (try dsimp only at hSw); go_simp; try (with_reducible rfl)
            try simp only [Act.put, List.setIfInBounds_toArray, List.set_cons_zero, List.set_cons_succ]
            refine wpAnyH_take (i := 12) (oi := ⟨some 30, _, _, _, _, _⟩) (v := ?_) rfl (by kernel_rfl) (by kernel_rfl) (by kernel_rfl) (fun _ _ _ h => h) (Or.inl ⟨by rfl, ?_⟩) (by assumption) ?_
            rotate_left 1
            · intro w hSw; (try dsimp only at hSw); go_simp; try (with_reducible rfl)
            try simp only [Act.put, List.setIfInBounds_toArray, List.set_cons_zero, List.set_cons_succ]
            refine wpAnyH_take (i := 13) (oi := ⟨some 31, _, _, _, _, _⟩) (v := ?_) rfl (by kernel_rfl) (by kernel_rfl) (by kernel_rfl) (fun _ _ _ h => h) (Or.inl ⟨by rfl, ?_⟩) (by assumption) ?_
            rotate_left 1
            · intro w hSw; (try dsimp only at hSw); go_simp; try (with_reducible rfl)
            try simp only [Act.put, List.setIfInBounds_toArray, List.set_cons_zero, List.set_cons_succ]
            refine wpAnyH_ready (rs := [14]) (by kernel_rfl) (by simp) ?_
            refine AllReadyH.cons (o := ⟨some 32, _, _, _, _, _⟩) rfl (fun K hK => ?_) AllReadyH.nil
            go_simp
            refine (sc _).mono ?_
            rintro e w2 ⟨rfl, hb⟩
            go_wp2_with fail
            refine hK.out _ _ ?_ (fun hHeld2 => ?_)
            · exact ⟨cell_later hb hHeld.1, cell_later hb hHeld.2.1, cell_later hb hHeld.2.2.1, cell_later hb hHeld.2.2.2.1, cell_later hb hHeld.2.2.2.2.1, cell_later hb hHeld.2.2.2.2.2.1, cell_later hb hHeld.2.2.2.2.2.2.1, cell_later hb hHeld.2.2.2.2.2.2.2.1, hHeld.2.2.2.2.2.2.2.2.trans (hb.mono hHeld.2.2.2.2.2.2.2.2.size)⟩
            clear hK K hHeld hb
            have hHeld := hHeld2
            clear hHeld2
            try simp only [Act.put, List.setIfInBounds_toArray, List.set_cons_zero, List.set_cons_succ]
            refine wpAnyH_take (i := 15) (oi := ⟨some 33, _, _, _, _, _⟩) (v := ?_) rfl (by kernel_rfl) (by kernel_rfl) (by kernel_rfl) (fun _ _ _ h => h) (Or.inl ⟨by rfl, ?_⟩) (by assumption) ?_
            rotate_left 1
            · intro w hSw; (try dsimp only at hSw); go_simp; try (with_reducible rfl)
            try simp only [Act.put, List.setIfInBounds_toArray, List.set_cons_zero, List.set_cons_succ]
            refine wpAnyH_take (i := 16) (oi := ⟨some 34, _, _, _, _, _⟩) (v := ?_) rfl (by kernel_rfl) (by kernel_rfl) (by kernel_rfl) (fun _ _ _ h => h) (Or.inl ⟨by rfl, ?_⟩) (by assumption) ?_
            rotate_left 1
            · intro w hSw; (try dsimp only at hSw); go_simp; try (with_reducible rfl)
            try simp only [Act.put, List.setIfInBounds_toArray, List.set_cons_zero, List.set_cons_succ]
            refine wpAnyH_done (by kernel_rfl) ?_ _
            try simp only [Act.put, List.setIfInBounds_toArray, List.set_cons_zero, List.set_cons_succ]
            have R3 := Lib.hid (R2.out.1.same (hHeld.2.2.2.2.2.2.2.2.block mb R2.out.1.lt))
            have R4 := Lib.hid (R2.out.2.below hHeld.2.2.2.2.2.2.2.2)
            clear hHeld R2
            go_wp2_with fail
            go_roundw
            case rel => exact ⟨k + 1, by omega, by omega, by go_num, Q, Lib.hid ⟨R.out, R3.out, R4.out⟩⟩
            case measure => simp [intOf]; omega
    · obtain rfl : k = n := by omega
      go_wp2_with fail
      go_end0
      exact ⟨rfl, Q, hS.out.1, hS.out.2.1, hS.out.2.2⟩
end Go.Proofs.Ytbklkhndjckckaa

/- slices.SortFunc at a few nodes. -/
namespace Go.Proofs.Ytbklkhndjckckaa
open Go.RowKit
set_option linter.unusedVariables false

set_option maxRecDepth 100000 in
set_option maxHeartbeats 4000000 in
theorem blen64_any (n : Nat) (w : World) (h : n ≤ 12) :
    Calls Try.prog 90 #[.int .u64 n] w fun e w' => (∃ z : Int, e = .returned (.int .i64 z)) ∧ w = w' := by
  rcases (show n = 0 ∨ n = 1 ∨ n = 2 ∨ n = 3 ∨ n = 4 ∨ n = 5 ∨ n = 6 ∨ n = 7 ∨ n = 8 ∨ n = 9 ∨ n = 10 ∨ n = 11 ∨ n = 12 by omega) with rfl | rfl | rfl | rfl | rfl | rfl | rfl | rfl | rfl | rfl | rfl | rfl | rfl
  all_goals
    go_enter Try.func90, Try.ntmps90
    go_wp2_with fail
    go_ret
    exact ⟨⟨_, rfl⟩, rfl⟩

set_option maxRecDepth 100000 in
set_option maxHeartbeats 4000000 in
theorem blen_any (n : Nat) (w : World) (h : n ≤ 12) :
    Calls Try.prog 80 #[.int .u64 n] w fun e w' => (∃ z : Int, e = .returned (.int .i64 z)) ∧ w = w' := by
  go_enter Try.func80, Try.ntmps80
  go_wp2_with fail
  refine (blen64_any n _ h).mono ?_
  rintro e w1 ⟨⟨z, rfl⟩, rfl⟩
  go_wp2_with fail
  go_ret
  exact ⟨⟨_, rfl⟩, rfl⟩

/-- What sorting leaves. -/
def SortP (N : List Nd) (U : Us) (mb : Nat) (Q0 : List Nat) (w : World) (e : Ending) (w' : World) : Prop :=
  e = .returned (.tuple #[]) ∧ ∃ Q, Srd N Q0 Q Q0.length ∧ RowN w' mb N U Q ∧ Exc (fun b => b = mb) w w'

set_option maxRecDepth 100000 in
set_option maxHeartbeats 4000000 in
theorem npdq_at (mb cap : Nat) (z : Int) (N : List Nd) (U : Us) (Q0 : List Nat) (w : World) (hv : nodB N = true) (hQ : ∀ k ∈ Q0, k < N.length) (hnd : Q0.Nodup) (h1 : 1 ≤ Q0.length) (h2 : Q0.length ≤ 12) (hR : RowN w mb N U Q0) :
    Calls Try.prog 79 #[.slice (some ⟨mb, 0, none⟩) Q0.length cap, .int .i64 0, .int .i64 Q0.length, .int .i64 z, .func (.func 58) #[] #[]] w (SortP N U mb Q0 w) := by
  have si := fun W (H : RowN W mb N U Q0) => nins_at mb cap N U Q0 W hv hQ hnd h1 h2 H
  obtain ⟨n, hn⟩ : ∃ n, Hid (Q0.length = n) := ⟨_, Lib.hid rfl⟩
  unfold SortP
  rw [hn.out] at si h1 h2 ⊢
  have hR := Lib.hid hR
  have d3 : IntKind.i64.wrap (n : Int) = (n : Int) := IntWalk.i64_in _ (by omega)
  have h3 : (n : Int) ≤ 12 := by omega
  clear hQ hnd hv hn
  go_enter Try.func79, Try.ntmps79
  go_wp2_with fail
  refine wp_loop_rounds 1 ?_
  rw [rounds_succ]
  go_wp2_with fail
  refine (si _ hR.out).mono ?_
  rintro e w1 ⟨rfl, hp⟩
  have hp := Lib.hid hp
  clear si
  go_wp2_with fail
  exact bodyPost_ret (results_none rfl _ _ _) rfl ⟨rfl, hp.out⟩

set_option maxRecDepth 100000 in
set_option maxHeartbeats 4000000 in
theorem nsort_at (mb cap : Nat) (N : List Nd) (U : Us) (Q0 : List Nat) (w : World) (hv : nodB N = true) (hQ : ∀ k ∈ Q0, k < N.length) (hnd : Q0.Nodup) (h1 : 1 ≤ Q0.length) (h2 : Q0.length ≤ 12) (hR : RowN w mb N U Q0) :
    Calls Try.prog 78 #[.slice (some ⟨mb, 0, none⟩) Q0.length cap, .func (.func 58) #[] #[]] w (SortP N U mb Q0 w) := by
  have si := fun z => npdq_at mb cap z N U Q0 w hv hQ hnd h1 h2 hR
  obtain ⟨n, hn⟩ : ∃ n, Hid (Q0.length = n) := ⟨_, Lib.hid rfl⟩
  unfold SortP at si ⊢
  rw [hn.out] at si h1 h2 ⊢
  clear hQ hnd hv hn hR
  have d3 : IntKind.u64.wrap (n : Int) = (n : Int) := by rw [IntKind.wrap_u64]; omega
  go_enter Try.func78, Try.ntmps78
  go_wp2_with fail
  refine (blen_any n _ h2).mono ?_
  rintro e w1 ⟨⟨z, rfl⟩, rfl⟩
  go_wp2_with fail
  refine (si z).mono ?_
  rintro e w1 ⟨rfl, hp⟩
  have hp := Lib.hid hp
  clear si
  go_wp2_with fail
  go_end0
  exact ⟨rfl, hp.out⟩
end Go.Proofs.Ytbklkhndjckckaa
