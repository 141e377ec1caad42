/- Texts laid together. -/
import Derived.Test.YtpckhghcjedblaaC06
import Derived.Test.YtpckhghcjedblaaC15
import Derived.Maps.RangeWalk
import Derived.Test.YtpckhghcjedblaaC13
import Derived.Test.YtpckhghcjedblaaC03
import Derived.Test.YtpckhghcjedblaaC16
import Derived.Test.YtpckhghcjedblaaC12
import Derived.Test.YtpckhghcjedblaaC11
import Derived.Test.YtpckhghcjedblaaC20
import Derived.Test.YtpckhghcjedblaaC22
import Derived.Test.YtpckhghcjedblaaC08
import Derived.Test.YtpckhghcjedblaaC21
import Derived.Deep.RegionWith
import Derived.Test.YtpckhghcjedblaaC23
import Derived.Test.YtpckhghcjedblaaC05
/- Plain facts: the greatest number among some entries of a log. -/
namespace Go.Proofs.Ytpckhghcjedblaa
set_option linter.unusedVariables false

/-- The greatest value of the entries that count, or 0. -/
def topF (f : En → Bool) (v : En → Int) : List En → Int
  | [] => 0
  | x :: r => if f x then max (v x) (topF f v r) else topF f v r
/-- g is the greatest value of the entries that count and have been seen, or 0. -/
structure TopP (E : List En) (S : Nat → Prop) (f : En → Bool) (v : En → Int) (g : Int) : Prop where
  nn : 0 ≤ g
  le : ∀ k, k < E.length → S k → f (E.getD k en0) = true → v (E.getD k en0) ≤ g
  is : g = 0 ∨ ∃ k, k < E.length ∧ S k ∧ f (E.getD k en0) = true ∧ v (E.getD k en0) = g
theorem topF_nn (f : En → Bool) (v : En → Int) : ∀ E : List En, 0 ≤ topF f v E
  | [] => Int.le_refl _
  | x :: r => by have := topF_nn f v r; unfold topF; split <;> omega
theorem topF_le {f : En → Bool} {v : En → Int} : ∀ {E : List En} {x : En}, x ∈ E → f x = true → v x ≤ topF f v E
  | y :: r, x, h, hf => by
    unfold topF
    rcases List.mem_cons.1 h with rfl | h
    · rw [if_pos hf]; omega
    · have := topF_le (v := v) h hf
      split <;> omega
theorem topF_is {f : En → Bool} {v : En → Int} : ∀ {E : List En}, topF f v E = 0 ∨ ∃ x, x ∈ E ∧ f x = true ∧ v x = topF f v E
  | [] => .inl rfl
  | y :: r => by
    unfold topF
    by_cases hf : f y = true
    · rw [if_pos hf]
      by_cases hv : topF f v r ≤ v y
      · exact .inr ⟨y, List.mem_cons_self, hf, by omega⟩
      · rcases topF_is (f := f) (v := v) (E := r) with h | ⟨x, h1, h2, h3⟩
        · left; omega
        · exact .inr ⟨x, List.mem_cons_of_mem _ h1, h2, by omega⟩
    · rw [if_neg hf]
      rcases topF_is (f := f) (v := v) (E := r) with h | ⟨x, h1, h2, h3⟩
      · exact .inl h
      · exact .inr ⟨x, List.mem_cons_of_mem _ h1, h2, h3⟩
theorem TopP.start (E : List En) (S : Nat → Prop) (h : ∀ k, ¬ S k) (f : En → Bool) (v : En → Int) : TopP E S f v 0 := ⟨Int.le_refl _, fun k _ hs => absurd hs (h k), .inl rfl⟩
theorem TopP.hit {E : List En} {S S' : Nat → Prop} {f : En → Bool} {v : En → Int} {g : Int} (h : TopP E S f v g) {k : Nat} (hk : k < E.length) (hS : ∀ j, S' j ↔ S j ∨ j = k) (hf : f (E.getD k en0) = true) : TopP E S' f v (max g (v (E.getD k en0))) := by
  refine ⟨by have := h.nn; omega, fun j hj hs hfj => ?_, ?_⟩
  · rcases (hS j).1 hs with hs | rfl
    · have := h.le j hj hs hfj; omega
    · omega
  · by_cases hv : v (E.getD k en0) ≤ g
    · rw [Int.max_eq_left hv]
      rcases h.is with h | ⟨j, h1, h2, h3⟩
      · exact .inl h
      · exact .inr ⟨j, h1, (hS j).2 (.inl h2), h3⟩
    · rw [Int.max_eq_right (by omega)]
      exact .inr ⟨k, hk, (hS k).2 (.inr rfl), hf, rfl⟩
theorem TopP.miss {E : List En} {S S' : Nat → Prop} {f : En → Bool} {v : En → Int} {g : Int} (h : TopP E S f v g) {k : Nat} (hS : ∀ j, S' j ↔ S j ∨ j = k) (hf : f (E.getD k en0) = false) : TopP E S' f v g := by
  refine ⟨h.nn, fun j hj hs hfj => ?_, ?_⟩
  · rcases (hS j).1 hs with hs | rfl
    · exact h.le j hj hs hfj
    · rw [hf] at hfj; cases hfj
  · rcases h.is with h | ⟨j, h1, h2, h3⟩
    · exact .inl h
    · exact .inr ⟨j, h1, (hS j).2 (.inl h2), h3⟩
theorem TopP.done {E : List En} {S : Nat → Prop} {f : En → Bool} {v : En → Int} {g : Int} (h : TopP E S f v g) (hS : ∀ k, k < E.length → S k) : g = topF f v E := by
  have h0 := topF_nn f v E
  have h1 : g ≤ topF f v E := by
    rcases h.is with h | ⟨k, h1, h2, h3, h4⟩
    · omega
    · rw [← h4]; exact topF_le (enD_mem h1) h3
  have h2 : topF f v E ≤ g := by
    rcases topF_is (f := f) (v := v) (E := E) with e | ⟨x, e1, e2, e3⟩
    · have := h.nn; omega
    · obtain ⟨k, hk, rfl⟩ := mem_enD e1
      rw [← e3]; exact h.le k hk (hS k hk) e2
  omega
theorem TopP.bound {E : List En} {S : Nat → Prop} {f : En → Bool} {v : En → Int} {g : Int} (h : TopP E S f v g) {N : Int} (h0 : 0 ≤ N) (hN : ∀ k, k < E.length → v (E.getD k en0) ≤ N) : g ≤ N := by
  rcases h.is with h | ⟨k, h1, _, _, h4⟩
  · omega
  · rw [← h4]; exact hN k h1
/-- The entries of a replica. -/
def ofR (p : Int) (x : En) : Bool := decide (x.id.1 = p)
/-- What NextNumber answers. -/
def nextR (E : List En) (p : Int) : Int := if logB E = true ∧ (0 ≤ p ∧ p ≤ 4) ∧ topF (ofR p) (fun x => x.id.2) E + 1 ≤ 50 then topF (ofR p) (fun x => x.id.2) E + 1 else -1
theorem nextR_bad {E : List En} {p : Int} (h : logB E = false) : nextR E p = -1 := by unfold nextR; rw [h, if_neg (by simp)]
theorem nextR_bad2 {E : List En} {p : Int} (h : ¬ (0 ≤ p ∧ p ≤ 4)) : nextR E p = -1 := by unfold nextR; rw [if_neg (fun x => h x.2.1)]
theorem nextR_full {E : List En} {p : Int} (h : ¬ topF (ofR p) (fun x => x.id.2) E + 1 ≤ 50) : nextR E p = -1 := by unfold nextR; rw [if_neg (fun x => h x.2.2)]
theorem nextR_good {E : List En} {p : Int} (h1 : logB E = true) (h2 : 0 ≤ p ∧ p ≤ 4) (h3 : topF (ofR p) (fun x => x.id.2) E + 1 ≤ 50) : nextR E p = topF (ofR p) (fun x => x.id.2) E + 1 := by unfold nextR; rw [if_pos ⟨h1, h2, h3⟩]
theorem log_num {E : List En} (h : logB E = true) {k : Nat} (hk : k < E.length) : okP (E.getD k en0).id = true := by
  have := (log_of h).2.1 _ (enD_mem hk)
  simp only [enB, ndB, En.nd, Bool.and_eq_true] at this
  exact this.1.1
theorem log_rank {E : List En} (h : logB E = true) {k : Nat} (hk : k < E.length) : 1 ≤ (E.getD k en0).seq ∧ (E.getD k en0).seq ≤ 99 := by
  have := (log_of h).2.1 _ (enD_mem hk)
  simp only [enB, ndB, En.nd, Bool.and_eq_true, decide_eq_true_eq] at this
  exact of_decide_eq_true (by simpa using this.1.2.1)
end Go.Proofs.Ytpckhghcjedblaa

/- A range over a log's book: which entries have come. -/
namespace Go.Proofs.Ytpckhghcjedblaa
open Go.RowKit
open Go.Maps (Keyed IsMap)
set_option linter.unusedVariables false
set_option maxRecDepth 100000

/-- What reads as an id is one. -/
theorem key_inv {v : Value} {l : Lit} (h : keyOf Try.prog 25 v = some l) : ∃ a : Pid, v = idv2 a ∧ inR a := by
  obtain ⟨m, hm⟩ : ∃ m, Try.prog.types.size = m + 1 := ⟨Try.prog.types.size - 1, (Nat.succ_pred_eq_of_pos (of_decide_eq_true (by kernel_rfl))).symm⟩
  have c2 : Try.prog.cellsOf 25 = 2 := by kernel_rfl
  have c1 : Try.prog.cellsOf 3 = 1 := by kernel_rfl
  have kt : Try.prog.keyType 25 = true := by kernel_rfl
  unfold keyOf at h
  rw [hm, Try.underlying25] at h
  dsimp only at h
  split at h
  · rename_i hf
    rw [kt] at hf
    cases v with
    | agg cs =>
      have hs : cs.size = 2 := by simpa [Value.formed, Try.underlying25, c2] using hf
      obtain ⟨x, y, rfl⟩ : ∃ x y, cs = #[x, y] := by
        match cs, hs with
        | ⟨[x, y]⟩, _ => exact ⟨x, y, rfl⟩
      unfold Program.keyLits at h
      rw [Try.underlying25] at h
      simp [Value.cells, c2, c1, Program.keyLits, Try.underlying3] at h
      cases x with
      | int q n =>
        by_cases e1 : q = .i64 ∧ (Lit.int .i64 n).wf = true
        · cases y with
          | int q' n' =>
            by_cases e2 : q' = .i64 ∧ (Lit.int .i64 n').wf = true
            · obtain ⟨rfl, w1⟩ := e1
              obtain ⟨rfl, w2⟩ := e2
              exact ⟨(n, n'), rfl, w1, w2⟩
            · simp [e1, e2] at h
          | _ => simp [e1] at h
        · simp [e1] at h
      | _ => simp at h
    | _ => simp [Value.formed, Try.underlying25] at hf
  · cases h

/-- A range over the book of E, by the iterator r: the entries at the places V have come. -/
def BkR (w : World) (bb r : Nat) (E : List En) (U : Nat → Value) (V : List Nat) (cnt : Nat) : Prop :=
  ∃ (n : Nat) (D : DataW Value) (left : Lit → Bool), w.ranges Try.prog 25 Rv bb r n D left cnt ∧ (∀ a, inR a → Maps.has D (klP a) = (mapE E U E.length a).isSome ∧ ∀ v, mapE E U E.length a = some v → ∀ zd, D.atKey (klP a) zd = .held v) ∧
    (∀ kl, left kl = true → Maps.has D kl = true) ∧ (∀ k, k < E.length → left (klP (E.getD k en0).id) = !decide (k ∈ V)) ∧ ∀ k ∈ V, k < E.length
theorem BkR.left {w : World} {bb r : Nat} {E : List En} {U : Nat → Value} {V : List Nat} {cnt : Nat} (h : BkR w bb r E U V cnt) : w.rangeLeft bb r = cnt := by
  obtain ⟨_, _, _, h, _⟩ := h; exact h.left_eq
theorem BkR.kept {w w' : World} {bb r : Nat} {E : List En} {U : Nat → Value} {V : List Nat} {cnt : Nat} (h : BkR w bb r E U V cnt) (hb : Below w.heap.size w w') : BkR w' bb r E U V cnt := by
  obtain ⟨n, D, left, h1, h2⟩ := h
  exact ⟨n, D, left, h1.kept (row := none) ⟨hb.os, hb.tape, hb.output, hb.size, fun i hi _ => hb.block i hi⟩ (by simp) (by simp), h2⟩
theorem BkR.lt {w : World} {bb r : Nat} {E : List En} {U : Nat → Value} {V : List Nat} {cnt : Nat} (h : BkR w bb r E U V cnt) : r < w.heap.size ∧ bb < w.heap.size ∧ r ≠ bb := by
  obtain ⟨n, D, left, h1, h2⟩ := h
  exact ⟨h1.lt, h1.owns.lt, h1.ne⟩

section
variable {w : World} {ops : Array Oper} {rest : List Oper} {o : Oper} {a : Act} {Q : Exit → Act → World → Prop}
/-- 'range b'. -/
theorem bk_range {w : World} (hg : o.guard = none) (m : Operand) (t : TypeId) (hop : o.op = Op.range t m) (e : TypeId) (ht : Try.prog.underlying t = some (.map 25 e)) {bb : Nat} {E : List En} {U : Nat → Value} (hv : logB E = true)
    (hm : a.eval m = .map (some bb)) (h : Book w bb E.length (mapE E U E.length))
    (hK : ∀ w' cnt, BkR w' bb w.heap.size E U [] cnt → w.grownBy w' none → w'.heap.size = w.heap.size + 1 → wpList Try.prog ops Q rest (a.put o.dst (.pointer (some ⟨w.heap.size, 0, none⟩))) w') :
    wpList Try.prog ops Q (o :: rest) a w := by
  obtain ⟨D, h1, h2⟩ := h
  refine wpList_range_own w hg m t hop 25 e id_law ht Rv bb _ D hm h1 fun w' r1 r2 r3 => hK w' _ ⟨_, D, _, r1, h2, fun _ x => x, fun k hk => ?_, fun _ h => nomatch h⟩ r2 r3
  rw [(h2 _ (inR_ok (log_num hv hk))).1, mapE_some (fun j hj hl => log_inj hv hl hk hj) _ (Nat.le_refl _) hk rfl]
  rfl
/-- The loop's step. -/
theorem bk_next {w : World} (hg : o.guard = none) (it : Operand) (hop : o.op = Op.next it false) {bb r : Nat} {E : List En} {U : Nat → Value} (hv : logB E = true) {V : List Nat} {cnt : Nat} (hit : a.eval it = .pointer (some ⟨r, 0, none⟩)) (h : BkR w bb r E U V cnt)
    (hDone : (∀ k, k < E.length → k ∈ V) → wpList Try.prog ops Q rest (a.put o.dst (.tuple #[.bool false])) w)
    (hMore : ∀ (k : Nat) (w' : World) (cnt' : Nat), k < E.length → BkR w' bb r E U (V ++ [k]) cnt' → cnt' < cnt → w.grownBy w' (some r) → w'.heap.size = w.heap.size →
      (Instr.entry (.pointer (some ⟨r, 0, none⟩))).run Try.prog w' = .ok (.tuple #[idv2 (E.getD k en0).id, env (E.getD k en0) (U k)]) w' → wpList Try.prog ops Q rest (a.put o.dst (.tuple #[.bool true, idv2 (E.getD k en0).id, env (E.getD k en0) (U k)])) w') :
    wpList Try.prog ops Q (o :: rest) a w := by
  obtain ⟨n, D, left, h1, h2, h3, h4, h5⟩ := h
  refine wpList_next_ranges (α := Pid) (β := Value) w hg it hop 25 id_law Rv idv2 id (fun key kl hk => by obtain ⟨x, e, _⟩ := key_inv hk; exact ⟨x, e⟩) (fun v y _ => ⟨v, rfl⟩) bb r n D left cnt hit h1 (fun hc hl => hDone fun k hk => ?_) fun x c kl y w' cnt' hkey hlk hRv hat hrg hlt hgr hsz hen => ?_
  · have := h4 k hk
    rw [hl] at this
    by_cases hin : k ∈ V
    · exact hin
    · simp [hin] at this
  · obtain ⟨x', ex, hx⟩ := key_inv hkey
    have exx : x = x' := by
      unfold idv2 at ex
      injection ex with ex
      have e1 := congrArg (fun x : Array Value => x[0]?) ex
      have e2 := congrArg (fun x : Array Value => x[1]?) ex
      simp at e1 e2
      exact Prod.ext e1 e2
    subst exx
    have hkl : kl = klP x := by have := key_of hx; rw [this] at hkey; injection hkey with e; exact e.symm
    subst hkl
    have hh := h3 _ hlk
    rw [(h2 x hx).1] at hh
    rcases mapE_look hv U x with ⟨k, hk, e1, e2⟩ | ⟨e1, e2⟩
    · subst e1
      have hc : c = env (E.getD k en0) (U k) := by
        have h6 := (h2 _ hx).2 _ e2 (.held c)
        rw [hat] at h6
        unfold Rv at hRv
        injection hRv with hRv
        rw [← hRv] at h6
        injection h6 with h6
      subst hc
      refine hMore k w' cnt' hk ⟨n, D, _, hrg, h2, fun kl' hl' => h3 kl' (by simp at hl'; exact hl'.1), fun j hj => ?_, fun j hj => ?_⟩ hlt hgr hsz hen
      · rw [h4 j hj]
        by_cases e : j = k
        · subst e
          rw [WideAt.sameKey_self (kl_key hx)]
          simp
        · have hne : klP (E.getD j en0).id ≠ klP (E.getD k en0).id := fun h => e (log_inj hv hj hk (kl_inj (inR_ok (log_num hv hj)) hx h))
          have hs : (klP (E.getD j en0).id).sameKey (klP (E.getD k en0).id) = false := by
            cases hs : (klP (E.getD j en0).id).sameKey (klP (E.getD k en0).id) with
            | false => rfl
            | true => exact absurd (WideAt.sameKey_eq hs) hne
          rw [hs]
          simp [e]
      · rcases List.mem_append.1 hj with hj | hj
        · exact h5 j hj
        · rw [List.mem_singleton] at hj; rw [hj]; exact hk
    · rw [e2] at hh; cases hh
end
end Go.Proofs.Ytpckhghcjedblaa

/- The model's l12Next and NextNumber. -/
namespace Go.Proofs.Ytpckhghcjedblaa
open Go.RowKit
set_option linter.unusedVariables false

theorem up_lt {k : Nat} : ∀ j : Nat, j < k + 1 ↔ j < k ∨ j = k := fun j => by omega
set_option maxRecDepth 100000 in
set_option maxHeartbeats 4000000 in
theorem snx_at (b off ca : Nat) (E : List En) (U : Nat → Value) (p : Int) (w : World) (hm : E.length ≤ 2000000) (hv : ∀ k, k < E.length → 1 ≤ (E.getD k en0).id.2 ∧ (E.getD k en0).id.2 ≤ 50) (h : EnsAt w b off E U) :
    Calls Try.prog 57 #[.slice (some ⟨b, off, none⟩) E.length ca, .int .i64 p] w fun e w' => e = .returned (.int .i64 (topF (ofR p) (fun x => x.id.2) E + 1)) ∧ Below w.heap.size w w' := by
  have hb := h.lt
  have h := Lib.hid h
  have hv := Lib.hid hv
  obtain ⟨n, hn⟩ : ∃ n, Hid (E.length = n) := ⟨_, Lib.hid rfl⟩
  rw [hn.out] at hm ⊢
  go_enter Try.func57, Try.ntmps57
  go_wp2_with fail
  go_loopw [5, 6] (fun o i wr => ∃ (k : Nat) (g : Int), k ≤ n ∧ i = .int .i64 k ∧ o = .int .i64 (g + 1) ∧ 0 ≤ g ∧ g ≤ 50 ∧ Hid (TopP E (fun j => j < k) (ofR p) (fun x => x.id.2) g) ∧ Hid (Below w.heap.size w wr)) (fun _ i _ => n - (intOf i).toNat)
  case atStart => exact ⟨0, 0, Nat.zero_le _, rfl, rfl, by omega, by omega, Lib.hid (TopP.start E _ (fun k hk => absurd hk (Nat.not_lt_zero _)) _ _), Lib.hid (Below.refl _ _)⟩
  case round =>
    obtain ⟨k, g, hk, rfl, rfl, hg0, hg1, hT, hnx⟩ := hrel
    by_cases hlt : k < n
    · have hkE : k < E.length := by rw [hn.out]; exact hlt
      have hP := h.out.at_ k hkE
      have q0 := (hnx.out.cell (p := ⟨b, off + k * 9, none⟩) hb).trans hP.c0
      have q1 := (hnx.out.cell (p := ⟨b, off + k * 9 + 1, none⟩) hb).trans hP.c1
      have hbl := Nat.lt_of_lt_of_le hb hnx.out.size
      have hr := hv.out k hkE
      obtain ⟨x, hx⟩ : ∃ x, Hid (E.getD k en0 = x) := ⟨_, Lib.hid rfl⟩
      rw [hx.out] at q0 q1 hr
      clear hP h
      by_cases hp : x.id.1 = p
      · have T := Lib.hid (hT.out.hit hkE up_lt (by rw [hx.out]; unfold ofR; simpa using hp))
        rw [hx.out] at T
        by_cases hle : g ≤ x.id.2
        · have hmax : max g x.id.2 = x.id.2 := Int.max_eq_right hle
          rw [show max g ((fun x : En => x.id.2) x) = x.id.2 from hmax] at T
          go_wp2_with fail
          refine ⟨⟨k + 1, x.id.2, by omega, by go_num, by first | rfl | (congr 1; omega), by omega, by omega, T, hnx⟩, ?_⟩
          simp [intOf]; omega
        · have hmax : max g x.id.2 = g := Int.max_eq_left (by omega)
          rw [show max g ((fun x : En => x.id.2) x) = g from hmax] at T
          go_wp2_with fail
          refine ⟨⟨k + 1, g, by omega, by go_num, by first | rfl | (congr 1; omega), by omega, by omega, T, hnx⟩, ?_⟩
          simp [intOf]; omega
      · have T := Lib.hid (hT.out.miss (k := k) up_lt (by rw [hx.out]; unfold ofR; simpa using hp))
        go_wp2_with fail
        refine ⟨⟨k + 1, g, by omega, by go_num, rfl, hg0, hg1, T, hnx⟩, ?_⟩
        simp [intOf]; omega
    · obtain rfl : k = n := by omega
      have e := Lib.hid (hT.out.done fun j hj => by rw [← hn.out]; exact hj)
      go_wp2_with fail
      go_ret
      exact ⟨by rw [← e.out]; rfl, hnx.out⟩
set_option maxRecDepth 100000 in
theorem snx_nil (a : Option Addr) (ca : Nat) (p : Int) (w : World) :
    Calls Try.prog 57 #[.slice a 0 ca, .int .i64 p] w fun e w' => e = .returned (.int .i64 1) ∧ Below w.heap.size w w' := by
  go_enter Try.func57, Try.ntmps57
  go_wp2_with fail
  refine wp_loop_rounds 1 ?_
  rw [rounds_succ]
  go_wp2_with fail
  go_ret
  exact ⟨rfl, Below.refl _ _⟩
theorem snx_any (u : Value) (E : List En) (p : Int) (w : World) (hv : logB E = true) (h : Ens w u E) :
    Calls Try.prog 57 #[u, .int .i64 p] w fun e w' => e = .returned (.int .i64 (topF (ofR p) (fun x => x.id.2) E + 1)) ∧ Below w.heap.size w w' := by
  obtain ⟨a, cap, rfl, h1, h2, h3⟩ := h
  rcases h3 with h3 | ⟨b, off, U, rfl, h4⟩
  · obtain rfl : E = [] := List.length_eq_zero_iff.1 h3
    exact snx_nil a cap p w
  · refine snx_at b off cap E U p w h2 (fun k hk => ?_) h4
    have := log_num hv hk
    have : 0 ≤ (E.getD k en0).id.1 ∧ (E.getD k en0).id.1 ≤ 4 ∧ 1 ≤ (E.getD k en0).id.2 ∧ (E.getD k en0).id.2 ≤ 50 := by simpa [okP, idB] using this
    omega
theorem top_num {E : List En} (hv : logB E = true) (p : Int) : 0 ≤ topF (ofR p) (fun x => x.id.2) E ∧ topF (ofR p) (fun x => x.id.2) E ≤ 50 := by
  refine ⟨topF_nn _ _ _, ?_⟩
  rcases topF_is (f := ofR p) (v := fun x => x.id.2) (E := E) with e | ⟨x, e1, _, e3⟩
  · omega
  · obtain ⟨k, hk, rfl⟩ := mem_enD e1
    have := log_num hv hk
    have : 0 ≤ (E.getD k en0).id.1 ∧ (E.getD k en0).id.1 ≤ 4 ∧ 1 ≤ (E.getD k en0).id.2 ∧ (E.getD k en0).id.2 ≤ 50 := by simpa [okP, idB] using this
    rw [← e3]; exact this.2.2.2

set_option maxRecDepth 100000 in
set_option maxHeartbeats 2000000 in
/-- WHAT THE MODEL'S NextNumber ANSWERS. -/
theorem snextn_any (u : Value) (E : List En) (p : Int) (w : World) (h : Ens w u E) :
    Calls Try.prog 26 #[u, .int .i64 p] w fun e w' => e = .returned (.int .i64 (nextR E p)) ∧ Below w.heap.size w w' := by
  have sv := fun W (hb : Below w.heap.size w W) => slogv_any u E W (h.up hb (Nat.le_refl _))
  have sn := fun W (hv : logB E = true) (hb : Below w.heap.size w W) => snx_any u E p W hv (h.up hb (Nat.le_refl _))
  clear h
  have B0 := Lib.hid (Below.refl w.heap.size w)
  go_enter Try.func26, Try.ntmps26
  go_wp2_with fail
  refine (sv _ B0.out).mono ?_
  rintro e w1 ⟨rfl, B⟩
  have B1 := Lib.hid (bstep B0.out B)
  obtain ⟨q, hq⟩ : ∃ q, Hid (logB E = q) := ⟨_, Lib.hid rfl⟩
  rw [hq.out]
  clear B sv B0
  cases q
  · have R := Lib.hid (nextR_bad (p := p) hq.out)
    go_wp2_with fail
    go_ret
    exact ⟨by rw [R.out]; rfl, B1.out⟩
  · go_wp2_with fail
    refine (in_any _ _ _ _).mono ?_
    rintro e w2 ⟨rfl, rfl⟩
    by_cases hp : 0 ≤ p ∧ p ≤ 4
    · have hpb : inB p 0 4 = true := by simpa [inB] using hp
      rw [hpb]
      have hT := top_num hq.out p
      have sn1 := fun W hb => sn W hq.out hb
      obtain ⟨t, ht⟩ : ∃ t, Hid (topF (ofR p) (fun x => x.id.2) E = t) := ⟨_, Lib.hid rfl⟩
      have hg := fun h => nextR_good (E := E) (p := p) hq.out hp h
      have hf := fun h => nextR_full (E := E) (p := p) h
      rw [ht.out] at hT sn1 hg hf
      have hg := Lib.hid hg
      have hf := Lib.hid hf
      clear sn hpb
      go_wp2_with fail
      refine (sn1 _ B1.out).mono ?_
      rintro e w3 ⟨rfl, B⟩
      have B3 := Lib.hid (bstep B1.out B)
      clear B B1
      by_cases h50 : t + 1 ≤ 50
      · have hR := Lib.hid (hg.out (by omega))
        have hgt : ¬ 50 < t + 1 := by omega
        go_wp2_with fail
        refine (sn1 _ B3.out).mono ?_
        rintro e w4 ⟨rfl, B⟩
        have B4 := Lib.hid (bstep B3.out B)
        clear B B3
        go_wp2_with fail
        go_ret
        exact ⟨by rw [hR.out]; rfl, B4.out⟩
      · have hR := Lib.hid (hf.out (by omega))
        have hgt : 50 < t + 1 := by omega
        go_wp2_with fail
        go_ret
        exact ⟨by rw [hR.out]; rfl, B3.out⟩
    · have hpb : inB p 0 4 = false := by simpa [inB] using hp
      have hR := Lib.hid (nextR_bad2 (E := E) (p := p) hp)
      rw [hpb]
      go_wp2_with fail
      go_ret
      exact ⟨by rw [hR.out]; rfl, B1.out⟩
end Go.Proofs.Ytpckhghcjedblaa

/- The program's next number: a range over the book. -/
namespace Go.Proofs.Ytpckhghcjedblaa
open Go.RowKit
set_option linter.unusedVariables false

theorem below_turned {w0 w w' : World} {r : Nat} (h : Below w0.heap.size w0 w) (hg : w.grownBy w' (some r)) (hr : w0.heap.size ≤ r) : Below w0.heap.size w0 w' :=
  h.trans ⟨hg.os, hg.tape, hg.output, hg.size, fun k hk => hg.block k (Nat.lt_of_lt_of_le hk h.size) (fun e => by injection e with e; omega)⟩
theorem below_fresh {w0 w w' : World} (h : Below w0.heap.size w0 w) (hg : w.grownBy w' none) : Below w0.heap.size w0 w' :=
  h.trans ⟨hg.os, hg.tape, hg.output, hg.size, fun k hk => hg.block k (Nat.lt_of_lt_of_le hk h.size) (by simp)⟩
theorem id_resN (tm : Array Value) (w : World) (b : Nat) (x y : Value) (t : TypeId) (h2 : tm[4]? = some (.pointer (some ⟨b, 0, none⟩))) (h : w.heap[b]? = some (.cells #[x, y] t (0, 0))) :
    (results Try.f54 tm).run Try.prog w = .ok (.agg #[x, y]) w := by
  obtain ⟨t0, t1, _, _⟩ := blk2 h
  simp [results, Try.results54, go_sem, h2, t0, t1]

set_option maxRecDepth 100000 in
set_option maxHeartbeats 4000000 in
/-- THE NEXT ID OF A REPLICA, BY A LOG's BOOK. -/
theorem inx_book (bb : Nat) (E : List En) (U : Nat → Value) (p : Int) (w : World) (hv : logB E = true) (h : Book w bb E.length (mapE E U E.length)) :
    Calls Try.prog 54 #[.map (some bb), .int .i64 p] w fun e w' => e = .returned (.agg #[.int .i64 p, .int .i64 (topF (ofR p) (fun x => x.id.2) E + 1)]) ∧ Below w.heap.size w w' := by
  have B0 := Lib.hid ((Below.refl w.heap.size w).alloc (Nat.le_refl _) (.cells #[.int .i64 0, .int .i64 0] 25))
  have O0 := Lib.hid (heap_alloc_new w (.cells #[.int .i64 0, .int .i64 0] 25))
  have hbb := h.lt
  have hB := Lib.hid (h.up B0.out hbb)
  have hv := Lib.hid hv
  clear h
  go_enter Try.func54, Try.ntmps54
  go_wp2_with (at_range; refine bk_range rfl _ 71 rfl _ Try.underlying71 hv.out rfl hB.out ?_; intro w0 cnt0 hr0 hg0 hs0)
  go_frame
  have B1 := Lib.hid (below_fresh B0.out hg0)
  have O1 := Lib.hid ((hg0.block w.heap.size (by simp) (by simp)).trans O0.out)
  have hr0 := Lib.hid hr0
  have hrs : (w.alloc (.cells #[.int .i64 0, .int .i64 0] 25)).heap.size = w.heap.size + 1 := by simp
  rw [hrs] at hr0 ⊢
  clear hg0 hs0 B0 O0 hB hrs
  go_loopw [5] (fun g wr => ∃ (V : List Nat) (cnt : Nat) (gi : Int), g = .int .i64 gi ∧ 0 ≤ gi ∧ gi ≤ 50 ∧ Hid (BkR wr bb (w.heap.size + 1) E U V cnt) ∧ Hid (TopP E (fun j => j ∈ V) (ofR p) (fun x => x.id.2) gi) ∧ Hid (wr.heap[w.heap.size]? = some (.cells #[.int .i64 0, .int .i64 0] 25 (0, 0))) ∧ Hid (Below w.heap.size w wr)) (fun _ wr => wr.rangeLeft bb (w.heap.size + 1))
  case atStart => exact ⟨[], cnt0, 0, rfl, by omega, by omega, hr0, Lib.hid (TopP.start E _ (fun k hk => by simp at hk) _ _), O1, B1⟩
  case round =>
    clear hr0 O1 B1
    obtain ⟨V, cnt, gi, rfl, hg0, hg50, hBk, hT, hO, hnx⟩ := hrel
    go_wp2_with (at_next; refine bk_next rfl _ rfl hv.out rfl hBk.out ?_ ?_)
    · intro hall
      have e := Lib.hid (hT.out.done hall)
      obtain ⟨o0, o1, f0, f1⟩ := blk2 hO.out
      have hol := lt_of_heap hO.out
      clear hBk hT
      go_wp2_with fail
      have hfin := heap_setCell_same _ w.heap.size 1 _ _ (.int .i64 (gi + 1)) (heap_setCell_same _ w.heap.size 0 _ _ (.int .i64 p) hO.out)
      simp only [List.setIfInBounds_toArray, List.set_cons_zero, List.set_cons_succ] at hfin
      refine bodyPost_ret (id_resN _ _ _ _ _ _ rfl hfin) rfl ⟨?_, (hnx.out.setCell (p := ⟨w.heap.size, 0, none⟩) (Nat.le_refl _) _).setCell (p := ⟨w.heap.size, 1, none⟩) (Nat.le_refl _) _⟩
      rw [← e.out]
    · intro k w1 cnt1 hk hBk1 hlt hg1 hs1 hen
      have hnum := log_num hv.out hk
      have hnum : 0 ≤ (E.getD k en0).id.1 ∧ (E.getD k en0).id.1 ≤ 4 ∧ 1 ≤ (E.getD k en0).id.2 ∧ (E.getD k en0).id.2 ≤ 50 := by simpa [okP, idB] using hnum
      have hO1 := Lib.hid ((hg1.block w.heap.size (lt_of_heap hO.out) (by simp)).trans hO.out)
      have B1 := Lib.hid (below_turned hnx.out hg1 (Nat.le_succ _))
      have hl := hBk.out.left
      have hBk1 := Lib.hid hBk1
      obtain ⟨x, hx⟩ : ∃ x, Hid (E.getD k en0 = x) := ⟨_, Lib.hid rfl⟩
      have Th := Lib.hid (fun hf => hT.out.hit (S' := fun j => j ∈ V ++ [k]) hk (fun j => by simp) hf)
      have Tm := Lib.hid (fun hf => hT.out.miss (S' := fun j => j ∈ V ++ [k]) (k := k) (fun j => by simp) hf)
      simp only [← List.getD_eq_getElem?_getD] at hen ⊢
      rw [hx.out] at hen hnum Th Tm ⊢
      have BA := (Below.refl w1.heap.size w1).alloc (Nat.le_refl _) (.cells #[.int .i64 x.id.1, .int .i64 x.id.2] 25)
      replace hBk1 := Lib.hid (hBk1.out.kept BA)
      replace hO1 := Lib.hid ((BA.block _ (lt_of_heap hO1.out)).trans hO1.out)
      replace B1 := Lib.hid (bstep B1.out BA)
      unfold idv2 env at hen
      unfold idv2 env
      clear hO hnx hT hBk hg1 BA
      by_cases hp : x.id.1 = p
      · have T := Lib.hid (Th.out (by unfold ofR; simpa using hp))
        rw [hp] at hBk1 hO1 B1
        by_cases hle : gi ≤ x.id.2
        · have hmax : max gi x.id.2 = x.id.2 := Int.max_eq_right hle
          rw [show max gi ((fun x : En => x.id.2) x) = x.id.2 from hmax] at T
          go_wp2_with fail
          go_roundw
          case rel => exact ⟨_, cnt1, x.id.2, by first | rfl | (congr 1; omega), by omega, by omega, hBk1, T, hO1, B1⟩
          case measure => rw [hBk1.out.left, hl]; omega
        · have hmax : max gi x.id.2 = gi := Int.max_eq_left (by omega)
          rw [show max gi ((fun x : En => x.id.2) x) = gi from hmax] at T
          go_wp2_with fail
          go_roundw
          case rel => exact ⟨_, cnt1, gi, by first | rfl | (congr 1; omega), by omega, by omega, hBk1, T, hO1, B1⟩
          case measure => rw [hBk1.out.left, hl]; omega
      · have T := Lib.hid (Tm.out (by unfold ofR; simpa using hp))
        go_wp2_with fail
        go_roundw
        case rel => exact ⟨_, cnt1, gi, rfl, hg0, hg50, hBk1, T, hO1, B1⟩
        case measure => rw [hBk1.out.left, hl]; omega
end Go.Proofs.Ytpckhghcjedblaa

/- The program's NextNumber. -/
namespace Go.Proofs.Ytpckhghcjedblaa
open Go.RowKit
set_option linter.unusedVariables false

set_option maxRecDepth 100000 in
set_option maxHeartbeats 2000000 in
theorem inx_nil (p : Int) (w : World) :
    Calls Try.prog 54 #[.map none, .int .i64 p] w fun e w' => (∃ y, e = .returned (.agg #[.int .i64 p, .int .i64 y])) ∧ Below w.heap.size w w' := by
  have hrg : ∀ wx : World, (Instr.range 71 (.map none)).run Try.prog wx = _ := fun wx => run_range_nilMap wx 71 25 30 Try.underlying71
  have hnx := run_next_nilMap (P := Try.prog) (w.alloc (.cells #[.int .i64 0, .int .i64 0] 25)) 0 0 0 #[]
  rw [show (w.alloc (.cells #[.int .i64 0, .int .i64 0] 25)).heap.size = w.heap.size + 1 by simp] at hnx
  have B0 := Lib.hid (((Below.refl w.heap.size w).alloc (Nat.le_refl _) (.cells #[.int .i64 p, .int .i64 1] 25)).alloc (by simp) (.mapIter none 0 #[] 0))
  go_enter Try.func54, Try.ntmps54
  go_wp2_with fail
  refine wp_loop_rounds 1 ?_
  rw [rounds_succ]
  go_wp2_with fail
  exact bodyPost_ret (id_resN _ _ w.heap.size _ _ _ rfl ((Below.heap_alloc _ _ _ (by simp)).trans (heap_alloc_new w _))) rfl ⟨⟨1, rfl⟩, B0.out⟩

set_option maxRecDepth 100000 in
set_option maxHeartbeats 4000000 in
/-- WHAT THE PROGRAM'S NextNumber ANSWERS. -/
theorem inextn_any (u : Value) (E : List En) (p : Int) (w : World) (h : Ens w u E) :
    Calls Try.prog 25 #[u, .int .i64 p] w fun e w' => e = .returned (.int .i64 (nextR E p)) ∧ Below w.heap.size w w' := by
  obtain ⟨U, _, bk⟩ := ibook_any u E w h
  unfold BkPost at bk
  obtain ⟨q, hq⟩ : ∃ q, Hid (logB E = q) := ⟨_, Lib.hid rfl⟩
  rw [hq.out] at bk
  clear h
  go_enter Try.func25, Try.ntmps25
  go_wp2_with fail
  refine bk.mono ?_
  rintro e w1 ⟨⟨hqt, bb, _, rfl, hB⟩ | ⟨hqf, rfl⟩, B⟩
  · subst hqt
    have nx := inx_book bb E U p w1 hq.out hB
    have hT := top_num hq.out p
    obtain ⟨t, ht⟩ : ∃ t, Hid (topF (ofR p) (fun x => x.id.2) E = t) := ⟨_, Lib.hid rfl⟩
    have hg := fun hp h => nextR_good (E := E) (p := p) hq.out hp h
    have hf := fun h => nextR_full (E := E) (p := p) h
    have hf2 := fun h => nextR_bad2 (E := E) (p := p) h
    rw [ht.out] at nx hT hg hf
    have B1 := Lib.hid B
    have hg := Lib.hid hg
    have hf := Lib.hid hf
    have hf2 := Lib.hid hf2
    clear hB B bk
    go_wp2_with fail
    refine nx.mono ?_
    rintro e w2 ⟨rfl, B⟩
    have B2 := (bstep B1.out B)
    have BA := (Below.refl w2.heap.size w2).alloc (Nat.le_refl _) (.cells #[.int .i64 p, .int .i64 (t + 1)] 25)
    have A2 := Lib.hid (heap_alloc_new w2 (.cells #[.int .i64 p, .int .i64 (t + 1)] 25))
    replace B2 := Lib.hid (bstep B2 BA)
    clear nx B B1 BA
    go_upto_region 3 with fail
    obtain ⟨xb, hxb⟩ : ∃ c, Hid (w2.heap.size = c) := ⟨_, Lib.hid rfl⟩
    rw [hxb.out] at A2 ⊢
    generalize w2.alloc (.cells #[.int .i64 p, .int .i64 (t + 1)] 25) = w3 at A2 B2 ⊢
    obtain ⟨a0, a1, _, _⟩ := blk2 A2.out
    have hal := lt_of_heap A2.out
    go_wp2_with fail
    refine (ivid_any p (t + 1) _).mono ?_
    rintro e w4 ⟨rfl, B⟩
    have B4 := Lib.hid (bstep B2.out B)
    have A4 := Lib.hid (bblk B hal A2.out)
    clear B a0 a1 hal B2 A2
    obtain ⟨a0, a1, _, _⟩ := blk2 A4.out
    have hal := lt_of_heap A4.out
    by_cases hp : 0 ≤ p ∧ p ≤ 4
    · by_cases h50 : t + 1 ≤ 50
      · have hR := Lib.hid (hg.out hp (by omega))
        have hb : idB p (t + 1) = true := by unfold idB; exact decide_eq_true (by omega)
        rw [hb]
        go_wp2_with fail
        go_ret
        exact ⟨by rw [hR.out]; rfl, B4.out⟩
      · have hR := Lib.hid (hf.out (by omega))
        have hb : idB p (t + 1) = false := by unfold idB; exact decide_eq_false (by omega)
        rw [hb]
        go_wp2_with fail
        go_ret
        exact ⟨by rw [hR.out]; rfl, B4.out⟩
    · have hR := Lib.hid (hf2.out hp)
      have hb : idB p (t + 1) = false := by unfold idB; exact decide_eq_false (by omega)
      rw [hb]
      go_wp2_with fail
      go_ret
      exact ⟨by rw [hR.out]; rfl, B4.out⟩
  · subst hqf
    have hR := Lib.hid (nextR_bad (p := p) hq.out)
    have B1 := Lib.hid B
    clear bk B
    go_wp2_with fail
    refine (inx_nil p _).mono ?_
    rintro e w2 ⟨⟨y, rfl⟩, B⟩
    have B2 := Lib.hid ((bstep B1.out B).alloc (bstep B1.out B).size (.cells #[.int .i64 p, .int .i64 y] 25))
    clear B B1
    go_wp2_with fail
    go_ret
    exact ⟨by rw [hR.out]; rfl, B2.out⟩
end Go.Proofs.Ytpckhghcjedblaa

/- The walk of FnExactNextNumber. -/
namespace Go.Proofs.Ytpckhghcjedblaa
open Go.RowKit
set_option linter.unusedVariables false

set_option maxRecDepth 100000 in
set_option maxHeartbeats 4000000 in
theorem exNextNumber_any (a : Option Addr) (len cap : Nat) (p : Int) (w : World) (h : LEs w a len cap) :
    Calls Try.prog 11 #[.slice a len cap, .int .i64 p] w fun e w' => e = .returned (.bool true) ∧ Below w.heap.size w w' := by
  have sz := szEs_any a len cap w h
  clear h
  go_enter Try.func11, Try.ntmps11
  go_wp2_with fail
  refine sz.mono ?_
  rintro e w1 ⟨⟨z, rfl, hz⟩, B⟩
  have D := Lib.hid B
  rcases hz with rfl | ⟨hz0, E, hEl, hE⟩
  · clear B sz
    go_wp2_with fail
    go_ret
    exact ⟨rfl, D.out⟩
  · have hz1 : ¬ z < 0 := by omega
    have hE := Lib.hid (hE.up B (Nat.le_refl _))
    have te := fun W (hb : Below w1.heap.size w1 W) => toEs_any _ E W (hE.out.up hb (Nat.le_refl _))
    have sv := fun u W (h : Ens W u E) => snextn_any u E p W h
    have iv := fun u W (h : Ens W u E) => inextn_any u E p W h
    generalize nextR E p = q at sv iv
    have F := Lib.hid (Below.refl w1.heap.size w1)
    clear B sz hE hEl
    go_wp2_with fail
    refine (te _ F.out).mono ?_
    rintro e w2 ⟨u2, rfl, O2, B⟩
    replace F := Lib.hid (bstep F.out B)
    have O2 := Lib.hid O2
    clear B
    go_wp2_with fail
    refine (sv _ _ O2.out.read).mono ?_
    rintro e w3 ⟨rfl, B⟩
    replace F := Lib.hid (bstep F.out B)
    clear B O2
    go_wp2_with fail
    refine (te _ F.out).mono ?_
    rintro e w4 ⟨u4, rfl, O4, B⟩
    replace F := Lib.hid (bstep F.out B)
    have O4 := Lib.hid O4
    clear B
    go_wp2_with fail
    refine (iv _ _ O4.out.read).mono ?_
    rintro e w5 ⟨rfl, B⟩
    replace F := Lib.hid (bstep F.out B)
    replace O4 := Lib.hid (O4.out.up B)
    clear B
    go_wp2_with fail
    refine (te _ F.out).mono ?_
    rintro e w6 ⟨u6, rfl, O6, B⟩
    replace F := Lib.hid (bstep F.out B)
    replace O4 := Lib.hid (O4.out.up B)
    have O6 := Lib.hid O6
    clear B
    go_wp2_with fail
    refine (eqEs_any _ _ E _ O4.out.read O6.out.read).mono ?_
    rintro e w7 ⟨rfl, B⟩
    replace D := Lib.hid (bstep D.out (bstep F.out B))
    clear B
    go_wp2_with fail
    go_ret
    exact ⟨rfl, D.out⟩
end Go.Proofs.Ytpckhghcjedblaa

/- Draws of logs: l91Log, DrawLogValid. -/
namespace Go.Proofs.Ytpckhghcjedblaa
open Go.RowKit
set_option linter.unusedVariables false

theorem OwnP.keeps {w w' : World} {b r : Nat} {v : Value} {C : List Pid} (h : OwnP w b v C) (hk : Keep w.heap.size r w w') (hr : b ≠ r) : OwnP w' b v C := h.same (hk.block b h.lt hr)
theorem EnO.keep {w w' : World} {B r : Nat} {v : Value} {E : List En} (h : EnO w B v E) (hk : Keep w.heap.size r w w') (hr : r < B) : EnO w' B v E := by
  obtain ⟨g, cap, cur, t, rfl, h0, hg, h1, h2, h3⟩ := h
  refine ⟨g, cap, cur, t, rfl, h0, (hk.block g (lt_of_heap hg) (by omega)).trans hg, h1, h2, fun i hi => ?_⟩
  obtain ⟨b, u, q1, q2, hc, ho⟩ := h3 i hi
  exact ⟨b, u, q1, q2, hc, ho.keeps hk (by omega)⟩
/-- A rank is put in another's place. -/
theorem EnO.setq {w : World} {B : Nat} {E : List En} {g n cap : Nat} (h : EnO w B (.slice (some ⟨g, 0, none⟩) n cap) E) {k : Nat} (hk : k < E.length) (s : Int) :
    EnO (w.setCell ⟨g, k * 9 + 7, none⟩ (.int .i64 s)) B (.slice (some ⟨g, 0, none⟩) n cap) (E.set k { E.getD k en0 with seq := s }) := by
  obtain ⟨g', cap', cur, t, e, h0, hg, h1, h2, h3⟩ := h
  injection e with e1 e2 e3; injection e1 with e1; injection e1 with e1
  subst e1; subst e2; subst e3
  have hsz : k * 9 + 7 < cur.size := by
    obtain ⟨_, _, _, _, hc, _⟩ := h3 k hk
    have c7 := hc 7 (by omega)
    rcases Nat.lt_or_ge (k * 9 + 7) cur.size with hh | hh
    · exact hh
    · rw [Array.getElem?_eq_none hh] at c7; exact absurd c7 (by simp [enc9])
  have oth : ∀ c, c ≠ g → (w.setCell ⟨g, k * 9 + 7, none⟩ (.int .i64 s)).heap[c]? = w.heap[c]? := fun c hc => heap_setCell_other _ _ _ _ hc
  refine ⟨g, cap, _, t, by rw [List.length_set], h0, heap_setCell_same w g (k * 9 + 7) cur t _ hg, by rw [List.length_set]; exact h1, by rw [List.length_set]; exact h2, fun i hi => ?_⟩
  rw [List.length_set] at hi
  obtain ⟨b, u, q1, q2, hc, ho⟩ := h3 i hi
  by_cases e : i = k
  · subst e
    have hs : (E.set i { E.getD i en0 with seq := s }).getD i en0 = { E.getD i en0 with seq := s } := by
      rw [List.getD_eq_getElem?_getD, List.getElem?_set_self hi]; rfl
    rw [hs]
    refine ⟨b, u, q1, q2, fun j hj => ?_, ho.same (oth b q2)⟩
    by_cases hj7 : j = 7
    · subst hj7; rw [Array.getElem?_setIfInBounds, if_pos rfl, if_pos hsz]; rfl
    · rw [Array.getElem?_setIfInBounds, if_neg (by omega), hc j hj]
      rcases (show j = 0 ∨ j = 1 ∨ j = 2 ∨ j = 3 ∨ j = 4 ∨ j = 5 ∨ j = 6 ∨ j = 8 by omega) with rfl | rfl | rfl | rfl | rfl | rfl | rfl | rfl <;> rfl
  · have hs : (E.set k { E.getD k en0 with seq := s }).getD i en0 = E.getD i en0 := by
      rw [List.getD_eq_getElem?_getD, List.getElem?_set_ne (fun x => e x.symm), ← List.getD_eq_getElem?_getD]
    rw [hs]
    refine ⟨b, u, q1, q2, fun j hj => ?_, ho.same (oth b q2)⟩
    rw [Array.getElem?_setIfInBounds, if_neg (by omega)]; exact hc j hj
theorem EnO.cell7 {w : World} {B : Nat} {E : List En} {g n cap : Nat} (h : EnO w B (.slice (some ⟨g, 0, none⟩) n cap) E) {k : Nat} (hk : k < E.length) : (∃ y, w.cell? ⟨g, k * 9 + 7, none⟩ = some y) ∧ w.frozen? ⟨g, k * 9 + 7, none⟩ = false ∧ g < w.heap.size ∧ B ≤ g := by
  obtain ⟨g', cap', cur, t, e, h0, hg, h1, h2, h3⟩ := h
  injection e with e1 e2 e3; injection e1 with e1; injection e1 with e1
  subst e1
  obtain ⟨_, _, _, _, hc, _⟩ := h3 k hk
  exact ⟨⟨_, (cell_of_cells hg).trans (hc 7 (by omega))⟩, by simp [World.frozen?, hg], lt_of_heap hg, h0⟩

theorem set_id {E : List En} {k : Nat} (hk : k < E.length) (h : ∀ i, i < E.length → okP (E.getD i en0).id = true) (s : Int) : ∀ i, i < E.length → okP ((E.set k { E.getD k en0 with seq := s }).getD i en0).id = true := fun i hi => by
  by_cases e : i = k
  · subst e
    have hs : (E.set i { E.getD i en0 with seq := s }).getD i en0 = { E.getD i en0 with seq := s } := by
      rw [List.getD_eq_getElem?_getD, List.getElem?_set_self hi]; rfl
    rw [hs]; exact h i hi
  · have hs : (E.set k { E.getD k en0 with seq := s }).getD i en0 = E.getD i en0 := by
      rw [List.getD_eq_getElem?_getD, List.getElem?_set_ne (fun x => e x.symm), ← List.getD_eq_getElem?_getD]
    rw [hs]; exact h i hi
/-- What l91Log leaves. -/
def DlgP (r n : Nat) (w : World) (e : Ending) (w' : World) : Prop :=
  ∃ v E, e = .returned v ∧ EnO w' w.heap.size v E ∧ E.length ≤ 12 ∧ (∀ k, k < E.length → okP (E.getD k en0).id = true) ∧ Rd w' r (n + 700) ∧ Keep w.heap.size r w w'

set_option maxRecDepth 100000 in
set_option maxHeartbeats 8000000 in
theorem dlog_any (r n : Nat) (w : World) (hrd : Rd w r n) (hn : n ≤ 600000000) :
    Calls Try.prog 53 #[.pointer (some ⟨r, 0, none⟩)] w (DlgP r n w) := by
  have hrl := hrd.lt
  have O := Lib.hid ((er_new w w.heap.size (Nat.le_refl _)).eno (Nat.zero_le _))
  have K := Lib.hid ((Keep.refl w.heap.size r w).alloc (Nat.le_refl _) (.cells #[] 30))
  have R := Lib.hid (hrd.alloc (.cells #[] 30))
  clear hrd
  go_enter Try.func53, Try.ntmps53
  go_wp2_with fail
  refine (pick_any 7 r _ _ R.out (by omega)).mono ?_
  rintro e w1 ⟨m, rfl, m0, m1', hr', hk'⟩
  have m1 := m1' (by omega)
  replace O := Lib.hid (O.out.keep hk' hrl)
  replace K := Lib.hid (K.out.trans (hk'.mono K.out.size))
  replace R := Lib.hid hr'
  clear m1' hr' hk'
  go_wp2_with fail
  refine (pick_any 16 r _ _ R.out (by omega)).mono ?_
  rintro e w2 ⟨z, rfl, z0, z1', hr', hk'⟩
  have z1 := z1' (by omega)
  replace O := Lib.hid (O.out.keep hk' hrl)
  replace K := Lib.hid (K.out.trans (hk'.mono K.out.size))
  replace R := Lib.hid hr'
  clear z1' hr' hk'
  obtain ⟨m, rfl⟩ := Int.eq_ofNat_of_zero_le m0
  obtain ⟨M, hM⟩ : ∃ M : Nat, M = if z = 0 then 24 else m := ⟨_, rfl⟩
  have hM24 : M ≤ 24 := by rw [hM]; split <;> omega
  by_cases hz : z = 0
  · subst hz
    obtain rfl : M = 24 := by rw [hM]; rfl
    clear hM
    go_wp2_with fail
    go_loopw [3, 5] (fun vo i wr => ∃ (k : Nat) (E : List En), k ≤ 24 ∧ i = .int .i64 k ∧ E.length ≤ 12 ∧ Hid (logB E = true) ∧ Hid (EnO wr w.heap.size vo E) ∧ Hid (Rd wr r (n + 2 + 22 * k)) ∧ Hid (Keep w.heap.size r w wr)) (fun _ i _ => 24 - (intOf i).toNat)
    case atStart => exact ⟨0, [], Nat.zero_le _, rfl, Nat.zero_le _, Lib.hid (by decide), O, Lib.hid (R.out.more (by omega)), K⟩
    case round =>
      clear O K R
      obtain ⟨k, E, hk, rfl, hl, hL, O, R, K⟩ := hrel
      by_cases hlt : k < 24
      · go_wp2_with fail
        refine (pick_any 3 r _ _ R.out (by omega)).mono ?_
        rintro e w3 ⟨p, rfl, p0, p1', hr', hk'⟩
        have p1 := p1' (by omega)
        replace O := Lib.hid (O.out.keep hk' hrl)
        replace K := Lib.hid (K.out.trans (hk'.mono K.out.size))
        replace R := Lib.hid hr'
        clear p1' hr' hk'
        go_wp2_with fail
        refine (pick_any 5 r _ _ R.out (by omega)).mono ?_
        rintro e w4 ⟨q, rfl, q0, q1', hr', hk'⟩
        have q1 := q1' (by omega)
        replace O := Lib.hid (O.out.keep hk' hrl)
        replace K := Lib.hid (K.out.trans (hk'.mono K.out.size))
        replace R := Lib.hid hr'
        clear q1' hr' hk'
        go_wp2_with fail
        refine (entry_any r _ _ _ _ R.out (by omega)).mono ?_
        rintro e w5 ⟨b5, X, u5, hb5, rfl, _, hO5, hl5, hr5, hk5⟩
        replace O := Lib.hid (O.out.keep hk5 hrl)
        have hI5 := Lib.hid hO5.read
        replace K := Lib.hid (K.out.trans (hk5.mono K.out.size))
        replace R := Lib.hid hr5
        obtain ⟨⟨E', ok⟩, hR⟩ : ∃ r, Hid (lputR E X = r) := ⟨_, Lib.hid rfl⟩
        have lp := slput_any _ E X _ _ O.out.read hI5.out
        unfold LpP at lp
        rw [hR.out] at lp
        have hl' : E'.length ≤ 12 := by have := lputR_len E X; rw [hR.out] at this; exact this
        clear hb5 hO5 hl5 hr5 hk5 hI5
        go_wp2_with fail
        refine lp.mono ?_
        rintro e w6 ⟨⟨v6, rfl, O6⟩, B⟩
        have hs6 := K.out.size
        replace O := Lib.hid (O.out.up B)
        have O6 := Lib.hid (O6.wide hs6)
        replace R := Lib.hid (R.out.kept (B.mono (Nat.succ_le_of_lt R.out.lt)))
        replace K := Lib.hid (K.out.trans (Keep.of_below (B.mono hs6)))
        have hL' := Lib.hid (fun (h : ok = true) => (show logB E' = true by have := lputR_log (E := E) (e := X) (by rw [hR.out]; exact h); rw [hR.out] at this; exact this))
        clear lp B hR
        cases ok
        · go_wp2_with fail
          refine ⟨⟨k + 1, E, by omega, by go_num, hl, hL, O, Lib.hid (R.out.more (by omega)), K⟩, ?_⟩
          simp [intOf]; omega
        · go_wp2_with fail
          refine ⟨⟨k + 1, E', by omega, by go_num, hl', Lib.hid (hL'.out (by first | rfl | trivial)), O6, Lib.hid (R.out.more (by omega)), K⟩, ?_⟩
          simp [intOf]; omega
      · obtain rfl : k = 24 := by omega
        obtain ⟨g, cap, hv⟩ := O.out.len
        subst hv
        obtain ⟨ln, hln⟩ : ∃ x, Hid (E.length = x) := ⟨_, Lib.hid rfl⟩
        rw [hln.out] at O hl ⊢
        by_cases h0 : ln = 0
        · subst h0
          go_wp2_with fail
          go_ret
          exact ⟨_, E, rfl, O.out, by rw [hln.out]; exact hl, fun k hk => log_num hL.out hk, R.out.more (by omega), K.out⟩
        · have h0' : 0 < ln := by omega
          go_wp2_with fail
          refine (pick_any 30 r _ _ R.out (by omega)).mono ?_
          rintro e w7 ⟨z2, rfl, z20, z21', hr', hk'⟩
          have z21 := z21' (by omega)
          replace O := Lib.hid (O.out.keep hk' hrl)
          replace K := Lib.hid (K.out.trans (hk'.mono K.out.size))
          replace R := Lib.hid hr'
          clear z21' hr' hk'
          by_cases hz : z2 = 0
          · subst hz
            go_wp2_with fail
            refine (pick_any _ r _ _ R.out (by omega)).mono ?_
            rintro e w8 ⟨j, rfl, j0, j1', hr', hk'⟩
            have j1 := j1' (by omega)
            replace O := Lib.hid (O.out.keep hk' hrl)
            replace K := Lib.hid (K.out.trans (hk'.mono K.out.size))
            replace R := Lib.hid hr'
            obtain ⟨j, rfl⟩ := Int.eq_ofNat_of_zero_le j0
            have hjE : j < E.length := by rw [hln.out]; omega
            clear j1' hr' hk'
            have BA := (Below.refl w8.heap.size w8).alloc (Nat.le_refl _) (.cells #[.int .i64 0, .int .i64 99, .int .i64 100] 3)
            replace O := Lib.hid (O.out.up BA)
            have hs8 := K.out.size
            replace R := Lib.hid (R.out.kept (BA.mono (Nat.succ_le_of_lt R.out.lt)))
            replace K := Lib.hid (K.out.trans (Keep.of_below (BA.mono hs8)))
            have L8 := Lib.hid (heap_alloc_new w8 (.cells #[.int .i64 0, .int .i64 99, .int .i64 100] 3))
            clear BA
            go_wp2_with fail
            refine (pick_any 3 r _ _ R.out (by omega)).mono ?_
            rintro e w9 ⟨i, rfl, i0, i1', hr', hk'⟩
            have i1 := i1' (by omega)
            have hrx : r < w8.heap.size := by omega
            have L9 := (hk'.block w8.heap.size (by simp) (by omega)).trans L8.out
            replace O := Lib.hid (O.out.keep hk' hrl)
            replace K := Lib.hid (K.out.trans (hk'.mono K.out.size))
            replace R := Lib.hid hr'
            obtain ⟨l0, l1, l2, _, _, _⟩ := blk3 L9
            have hll := lt_of_heap L9
            obtain ⟨⟨y7, c7⟩, f7, hgl, hgB⟩ := O.out.cell7 hjE
            have hs9 := K.out.size
            have hN := Lib.hid (fun (s : Int) => O.out.setq hjE s)
            have hKN := Lib.hid (fun (s : Int) => K.out.setCell (p := ⟨g, j * 9 + 7, none⟩) hgB (.int .i64 s))
            have hRN := Lib.hid (fun (s : Int) => R.out.setCell (p := ⟨g, j * 9 + 7, none⟩) (by show r < g; omega) (.int .i64 s))
            clear i1' hr' hk' L8
            rcases (show i = 0 ∨ i = 1 ∨ i = 2 by omega) with rfl | rfl | rfl
            · go_wp2_with fail
              go_ret
              exact ⟨_, _, rfl, hN.out 0, by rw [List.length_set, hln.out]; exact hl, fun i hi => set_id hjE (fun i hi => log_num hL.out hi) _ i (by rw [List.length_set] at hi; exact hi), (hRN.out 0).more (by omega), hKN.out 0⟩
            · go_wp2_with fail
              go_ret
              exact ⟨_, _, rfl, hN.out 99, by rw [List.length_set, hln.out]; exact hl, fun i hi => set_id hjE (fun i hi => log_num hL.out hi) _ i (by rw [List.length_set] at hi; exact hi), (hRN.out 99).more (by omega), hKN.out 99⟩
            · go_wp2_with fail
              go_ret
              exact ⟨_, _, rfl, hN.out 100, by rw [List.length_set, hln.out]; exact hl, fun i hi => set_id hjE (fun i hi => log_num hL.out hi) _ i (by rw [List.length_set] at hi; exact hi), (hRN.out 100).more (by omega), hKN.out 100⟩
          · have hzb : (z2 == 0) = false := by simpa using hz
            go_wp2_with fail
            go_ret
            exact ⟨_, E, rfl, O.out, by rw [hln.out]; exact hl, fun k hk => log_num hL.out hk, R.out.more (by omega), K.out⟩
  · have hzb : (z == 0) = false := by simpa using hz
    obtain rfl : M = m := by rw [hM, if_neg hz]
    clear hM
    go_wp2_with fail
    go_loopw [3, 5] (fun vo i wr => ∃ (k : Nat) (E : List En), k ≤ M ∧ i = .int .i64 k ∧ E.length ≤ 12 ∧ Hid (logB E = true) ∧ Hid (EnO wr w.heap.size vo E) ∧ Hid (Rd wr r (n + 2 + 22 * k)) ∧ Hid (Keep w.heap.size r w wr)) (fun _ i _ => M - (intOf i).toNat)
    case atStart => exact ⟨0, [], Nat.zero_le _, rfl, Nat.zero_le _, Lib.hid (by decide), O, Lib.hid (R.out.more (by omega)), K⟩
    case round =>
      clear O K R
      obtain ⟨k, E, hk, rfl, hl, hL, O, R, K⟩ := hrel
      by_cases hlt : k < M
      · go_wp2_with fail
        refine (pick_any 3 r _ _ R.out (by omega)).mono ?_
        rintro e w3 ⟨p, rfl, p0, p1', hr', hk'⟩
        have p1 := p1' (by omega)
        replace O := Lib.hid (O.out.keep hk' hrl)
        replace K := Lib.hid (K.out.trans (hk'.mono K.out.size))
        replace R := Lib.hid hr'
        clear p1' hr' hk'
        go_wp2_with fail
        refine (pick_any 5 r _ _ R.out (by omega)).mono ?_
        rintro e w4 ⟨q, rfl, q0, q1', hr', hk'⟩
        have q1 := q1' (by omega)
        replace O := Lib.hid (O.out.keep hk' hrl)
        replace K := Lib.hid (K.out.trans (hk'.mono K.out.size))
        replace R := Lib.hid hr'
        clear q1' hr' hk'
        go_wp2_with fail
        refine (entry_any r _ _ _ _ R.out (by omega)).mono ?_
        rintro e w5 ⟨b5, X, u5, hb5, rfl, _, hO5, hl5, hr5, hk5⟩
        replace O := Lib.hid (O.out.keep hk5 hrl)
        have hI5 := Lib.hid hO5.read
        replace K := Lib.hid (K.out.trans (hk5.mono K.out.size))
        replace R := Lib.hid hr5
        obtain ⟨⟨E', ok⟩, hR⟩ : ∃ r, Hid (lputR E X = r) := ⟨_, Lib.hid rfl⟩
        have lp := slput_any _ E X _ _ O.out.read hI5.out
        unfold LpP at lp
        rw [hR.out] at lp
        have hl' : E'.length ≤ 12 := by have := lputR_len E X; rw [hR.out] at this; exact this
        clear hb5 hO5 hl5 hr5 hk5 hI5
        go_wp2_with fail
        refine lp.mono ?_
        rintro e w6 ⟨⟨v6, rfl, O6⟩, B⟩
        have hs6 := K.out.size
        replace O := Lib.hid (O.out.up B)
        have O6 := Lib.hid (O6.wide hs6)
        replace R := Lib.hid (R.out.kept (B.mono (Nat.succ_le_of_lt R.out.lt)))
        replace K := Lib.hid (K.out.trans (Keep.of_below (B.mono hs6)))
        have hL' := Lib.hid (fun (h : ok = true) => (show logB E' = true by have := lputR_log (E := E) (e := X) (by rw [hR.out]; exact h); rw [hR.out] at this; exact this))
        clear lp B hR
        cases ok
        · go_wp2_with fail
          refine ⟨⟨k + 1, E, by omega, by go_num, hl, hL, O, Lib.hid (R.out.more (by omega)), K⟩, ?_⟩
          simp [intOf]; omega
        · go_wp2_with fail
          refine ⟨⟨k + 1, E', by omega, by go_num, hl', Lib.hid (hL'.out (by first | rfl | trivial)), O6, Lib.hid (R.out.more (by omega)), K⟩, ?_⟩
          simp [intOf]; omega
      · obtain rfl : k = M := by omega
        obtain ⟨g, cap, hv⟩ := O.out.len
        subst hv
        obtain ⟨ln, hln⟩ : ∃ x, Hid (E.length = x) := ⟨_, Lib.hid rfl⟩
        rw [hln.out] at O hl ⊢
        by_cases h0 : ln = 0
        · subst h0
          go_wp2_with fail
          go_ret
          exact ⟨_, E, rfl, O.out, by rw [hln.out]; exact hl, fun k hk => log_num hL.out hk, R.out.more (by omega), K.out⟩
        · have h0' : 0 < ln := by omega
          go_wp2_with fail
          refine (pick_any 30 r _ _ R.out (by omega)).mono ?_
          rintro e w7 ⟨z2, rfl, z20, z21', hr', hk'⟩
          have z21 := z21' (by omega)
          replace O := Lib.hid (O.out.keep hk' hrl)
          replace K := Lib.hid (K.out.trans (hk'.mono K.out.size))
          replace R := Lib.hid hr'
          clear z21' hr' hk'
          by_cases hz : z2 = 0
          · subst hz
            go_wp2_with fail
            refine (pick_any _ r _ _ R.out (by omega)).mono ?_
            rintro e w8 ⟨j, rfl, j0, j1', hr', hk'⟩
            have j1 := j1' (by omega)
            replace O := Lib.hid (O.out.keep hk' hrl)
            replace K := Lib.hid (K.out.trans (hk'.mono K.out.size))
            replace R := Lib.hid hr'
            obtain ⟨j, rfl⟩ := Int.eq_ofNat_of_zero_le j0
            have hjE : j < E.length := by rw [hln.out]; omega
            clear j1' hr' hk'
            have BA := (Below.refl w8.heap.size w8).alloc (Nat.le_refl _) (.cells #[.int .i64 0, .int .i64 99, .int .i64 100] 3)
            replace O := Lib.hid (O.out.up BA)
            have hs8 := K.out.size
            replace R := Lib.hid (R.out.kept (BA.mono (Nat.succ_le_of_lt R.out.lt)))
            replace K := Lib.hid (K.out.trans (Keep.of_below (BA.mono hs8)))
            have L8 := Lib.hid (heap_alloc_new w8 (.cells #[.int .i64 0, .int .i64 99, .int .i64 100] 3))
            clear BA
            go_wp2_with fail
            refine (pick_any 3 r _ _ R.out (by omega)).mono ?_
            rintro e w9 ⟨i, rfl, i0, i1', hr', hk'⟩
            have i1 := i1' (by omega)
            have hrx : r < w8.heap.size := by omega
            have L9 := (hk'.block w8.heap.size (by simp) (by omega)).trans L8.out
            replace O := Lib.hid (O.out.keep hk' hrl)
            replace K := Lib.hid (K.out.trans (hk'.mono K.out.size))
            replace R := Lib.hid hr'
            obtain ⟨l0, l1, l2, _, _, _⟩ := blk3 L9
            have hll := lt_of_heap L9
            obtain ⟨⟨y7, c7⟩, f7, hgl, hgB⟩ := O.out.cell7 hjE
            have hs9 := K.out.size
            have hN := Lib.hid (fun (s : Int) => O.out.setq hjE s)
            have hKN := Lib.hid (fun (s : Int) => K.out.setCell (p := ⟨g, j * 9 + 7, none⟩) hgB (.int .i64 s))
            have hRN := Lib.hid (fun (s : Int) => R.out.setCell (p := ⟨g, j * 9 + 7, none⟩) (by show r < g; omega) (.int .i64 s))
            clear i1' hr' hk' L8
            rcases (show i = 0 ∨ i = 1 ∨ i = 2 by omega) with rfl | rfl | rfl
            · go_wp2_with fail
              go_ret
              exact ⟨_, _, rfl, hN.out 0, by rw [List.length_set, hln.out]; exact hl, fun i hi => set_id hjE (fun i hi => log_num hL.out hi) _ i (by rw [List.length_set] at hi; exact hi), (hRN.out 0).more (by omega), hKN.out 0⟩
            · go_wp2_with fail
              go_ret
              exact ⟨_, _, rfl, hN.out 99, by rw [List.length_set, hln.out]; exact hl, fun i hi => set_id hjE (fun i hi => log_num hL.out hi) _ i (by rw [List.length_set] at hi; exact hi), (hRN.out 99).more (by omega), hKN.out 99⟩
            · go_wp2_with fail
              go_ret
              exact ⟨_, _, rfl, hN.out 100, by rw [List.length_set, hln.out]; exact hl, fun i hi => set_id hjE (fun i hi => log_num hL.out hi) _ i (by rw [List.length_set] at hi; exact hi), (hRN.out 100).more (by omega), hKN.out 100⟩
          · have hzb : (z2 == 0) = false := by simpa using hz
            go_wp2_with fail
            go_ret
            exact ⟨_, E, rfl, O.out, by rw [hln.out]; exact hl, fun k hk => log_num hL.out hk, R.out.more (by omega), K.out⟩

/-- What DrawLogValid leaves. -/
def DlvP (w : World) (e : Ending) (w' : World) : Prop := ∃ v E, e = .returned v ∧ EnO w' w.heap.size v E ∧ E.length ≤ 12 ∧ (∀ k, k < E.length → okP (E.getD k en0).id = true) ∧ Below w.heap.size w w'
set_option maxRecDepth 100000 in
theorem dlv_any (a : Option Addr) (len cap : Nat) (w : World) (hc : CodeIn w a len cap) (hcap : cap ≤ maxLen) :
    Calls Try.prog 23 #[.slice a len cap] w (DlvP w) := by
  go_enter Try.func23, Try.ntmps23
  go_wp2_with fail
  refine (open_any a len cap _ hc hcap).mono ?_
  rintro e w1 ⟨r, rfl, hr0, hr', hb'⟩
  have hr1 := Lib.hid hr'
  have D1 := Lib.hid hb'
  clear hr' hb'
  go_wp2_with fail
  refine (dlog_any r 0 _ hr1.out (by omega)).mono ?_
  rintro e w2 ⟨v, E, rfl, O, hl, hok, _, hk⟩
  have s1 := D1.out.size
  have O := Lib.hid (O.wide s1)
  have D2 := Lib.hid (D1.out.trans ((hk.mono s1).below hr0))
  clear hk D1
  go_wp2_with fail
  go_ret
  exact ⟨_, E, rfl, O.out, hl, hok, D2.out⟩
end Go.Proofs.Ytpckhghcjedblaa

/- Draws of logs and replicas: DrawNextNumber. -/
namespace Go.Proofs.Ytpckhghcjedblaa
open Go.RowKit
set_option linter.unusedVariables false

/-- What DrawNextNumber leaves. -/
def DnnP (w : World) (e : Ending) (w' : World) : Prop := ∃ v E p, e = .returned (.tuple #[v, .int .i64 p]) ∧ EnO w' w.heap.size v E ∧ E.length ≤ 12 ∧ Below w.heap.size w w'
set_option maxRecDepth 100000 in
set_option maxHeartbeats 2000000 in
theorem dnn_any (a : Option Addr) (len cap : Nat) (w : World) (hc : CodeIn w a len cap) (hcap : cap ≤ maxLen) :
    Calls Try.prog 24 #[.slice a len cap] w (DnnP w) := by
  go_enter Try.func24, Try.ntmps24
  go_wp2_with fail
  refine (open_any a len cap _ hc hcap).mono ?_
  rintro e w1 ⟨r, rfl, hr0, hr', hb'⟩
  have hr1 := Lib.hid hr'
  have D1 := Lib.hid hb'
  clear hr' hb'
  go_wp2_with fail
  refine (dlog_any r 0 _ hr1.out (by omega)).mono ?_
  rintro e w2 ⟨v, E, rfl, O, hl, _, hr', hk⟩
  have s1 := D1.out.size
  have hrl := hr1.out.lt
  obtain ⟨g, cap', hv⟩ := O.len
  subst hv
  have O := Lib.hid O
  have D2 := Lib.hid (D1.out.trans ((hk.mono s1).below hr0))
  have hr2 := Lib.hid hr'
  clear hk D1 hr1 hr'
  go_wp2_with fail
  refine (pick_any 4 r _ _ hr2.out (by omega)).mono ?_
  rintro e w3 ⟨x, rfl, x0, x1', hr', hk'⟩
  have x1 := x1' (by omega)
  have hrw : w.heap.size ≤ r := hr0
  have s2 := D2.out.size
  replace D2 := Lib.hid (D2.out.trans ((hk'.mono s2).below hrw))
  replace O := Lib.hid (O.out.keep hk' hrl)
  replace hr2 := Lib.hid hr'
  clear hk' hr' x1'
  go_wp2_with fail
  refine (pick_any 20 r _ _ hr2.out (by omega)).mono ?_
  rintro e w4 ⟨y, rfl, y0, y1', hr', hk'⟩
  have y1 := y1' (by omega)
  have s3 := D2.out.size
  replace D2 := Lib.hid (D2.out.trans ((hk'.mono s3).below hrw))
  replace O := Lib.hid (O.out.keep hk' hrl)
  clear hk' hr' hr2 y1'
  go_wp2_with fail
  go_ret2
  exact ⟨_, E, _, rfl, O.out.wide s1, hl, D2.out⟩
end Go.Proofs.Ytpckhghcjedblaa

/- The walk of FnNextNumber. -/
namespace Go.Proofs.Ytpckhghcjedblaa
open Go.RowKit
set_option linter.unusedVariables false

theorem nextR_is {E : List En} {p : Int} (h : ¬ nextR E p < 0) : logB E = true ∧ nextR E p = topF (ofR p) (fun x => x.id.2) E + 1 := by
  unfold nextR at h ⊢
  split at h
  · rename_i g; rw [if_pos g]; exact ⟨g.1, rfl⟩
  · exact absurd h (by decide)

set_option maxRecDepth 100000 in
set_option maxHeartbeats 4000000 in
theorem fnNextNumber_walk (a : Option Addr) (len cap : Nat) (w : World) (hc : CodeIn w a len cap) (hcap : cap ≤ maxLen) :
    Calls Try.prog 8 #[.slice a len cap] w fun e w' => e = .returned (.bool true) ∧ Below w.heap.size w w' := by
  have dn := dnn_any a len cap w hc hcap
  by_cases hlen : 1048576 < len
  · go_enter Try.func8, Try.ntmps8
    go_wp2_with fail
    go_ret
    exact ⟨rfl, Below.refl _ _⟩
  · go_enter Try.func8, Try.ntmps8
    go_wp2_with fail
    refine dn.mono ?_
    rintro e w1 ⟨v, E, p, rfl, O, hl, B⟩
    have D := Lib.hid B
    have iv := inextn_any v E p w1 O.read
    have sv := fun W (hb : Below w1.heap.size w1 W) => snextn_any v E p W (O.read.up hb (Nat.le_refl _))
    have hR := fun h => nextR_is (E := E) (p := p) h
    obtain ⟨q, hq⟩ : ∃ q, Hid (nextR E p = q) := ⟨_, Lib.hid rfl⟩
    rw [hq.out] at iv sv hR
    have hR := Lib.hid hR
    obtain ⟨g, cp, hv⟩ := O.len
    subst hv
    have O := Lib.hid O
    clear dn B
    go_wp2_with fail
    refine iv.mono ?_
    rintro e w2 ⟨rfl, B⟩
    have F := Lib.hid B
    clear iv B
    go_wp2_with fail
    refine (sv _ F.out).mono ?_
    rintro e w3 ⟨rfl, B⟩
    replace F := Lib.hid (bstep F.out B)
    clear sv B
    replace O := Lib.hid (O.out.up F.out)
    replace D := Lib.hid (bstep D.out F.out)
    clear F
    by_cases hneg : q < 0
    · go_wp2_with fail
      go_ret
      exact ⟨rfl, D.out⟩
    · obtain ⟨hv, hqt⟩ := hR.out (by omega)
      have hv := Lib.hid hv
      have hT := top_num hv.out p
      obtain ⟨t, ht⟩ : ∃ t, Hid (topF (ofR p) (fun x => x.id.2) E = t) := ⟨_, Lib.hid rfl⟩
      rw [ht.out] at hqt hT
      have htop : Hid ((∀ k, k < E.length → (E.getD k en0).id.1 = p → (E.getD k en0).id.2 ≤ t) ∧ (t = 0 ∨ ∃ k, k < E.length ∧ (E.getD k en0).id.1 = p ∧ (E.getD k en0).id.2 = t)) := by
        refine Lib.hid ⟨fun k hk e => ?_, ?_⟩
        · rw [← ht.out]; exact topF_le (f := ofR p) (v := fun x => x.id.2) (enD_mem hk) (by unfold ofR; simpa using e)
        · rcases topF_is (f := ofR p) (v := fun x => x.id.2) (E := E) with e | ⟨x, e1, e2, e3⟩
          · left; rw [← ht.out]; exact e
          · obtain ⟨k, hk, rfl⟩ := mem_enD e1
            right; exact ⟨k, hk, by simpa [ofR] using e2, by rw [← ht.out]; exact e3⟩
      subst hqt
      obtain ⟨n, hn⟩ : ∃ n, Hid (E.length = n) := ⟨_, Lib.hid rfl⟩
      obtain ⟨U, hA⟩ : ∃ U, EnsAt w3 g 0 E U ∨ E.length = 0 := by
        obtain ⟨a', c', e, _, _, h3⟩ := O.out.read
        injection e with e _ _
        rcases h3 with h3 | ⟨b, off, U, e2, h4⟩
        · exact ⟨fun _ => .slice none 0 0, .inr h3⟩
        · rw [e2] at e; obtain ⟨rfl, rfl⟩ : g = b ∧ 0 = off := (by simpa using e); exact ⟨U, .inl h4⟩
      have hA := Lib.hid hA
      rw [hn.out] at hl O ⊢
      clear hq hR hneg
      have hneg : ¬ t + 1 < 0 := by omega
      go_wp2_with fail
      go_loopw [7, 8] (fun s i wr => ∃ (k : Nat) (b : Bool), k ≤ n ∧ i = .int .i64 k ∧ s = .bool b ∧ Hid (b = false → ¬ t = 0 ∧ ∀ j, j < k → (E.getD j en0).id.1 = p → ¬ (E.getD j en0).id.2 = t) ∧ wr = w3) (fun _ i _ => n - (intOf i).toNat)
      case atStart => exact ⟨0, _, Nat.zero_le _, rfl, rfl, Lib.hid (fun hb => ⟨by intro h0; subst h0; simp at hb, fun j hj => absurd hj (Nat.not_lt_zero _)⟩), rfl⟩
      case round =>
        obtain ⟨k, b, hk, rfl, rfl, hb, rfl⟩ := hrel
        by_cases hlt : k < n
        · have hkE : k < E.length := by rw [hn.out]; exact hlt
          have hAt := hA.out.resolve_right (by omega)
          have hP := hAt.at_ k hkE
          have q0 := hP.c0
          have q1 := hP.c1
          have hbl := hAt.lt
          obtain ⟨x, hx⟩ : ∃ x, Hid (E.getD k en0 = x) := ⟨_, Lib.hid rfl⟩
          rw [hx.out] at q0 q1
          simp only [Nat.zero_add] at q0 q1
          clear hP hAt
          by_cases hp : x.id.1 = p
          · have hle := htop.out.1 k hkE (by rw [hx.out]; exact hp)
            rw [hx.out] at hle
            have hge : ¬ t + 1 ≤ x.id.2 := by omega
            have hnum : 1 ≤ x.id.2 := by
              have := log_num hv.out hkE
              rw [hx.out] at this
              have : 0 ≤ x.id.1 ∧ x.id.1 ≤ 4 ∧ 1 ≤ x.id.2 ∧ x.id.2 ≤ 50 := by simpa [okP, idB] using this
              omega
            cases b
            · by_cases he : x.id.2 = t
              · have he' : x.id.2 + 1 = t + 1 := by omega
                go_wp2_with fail
                refine ⟨⟨k + 1, true, by omega, by go_num, by simp, Lib.hid (fun h => nomatch h), by first | rfl | trivial⟩, ?_⟩
                simp [intOf]; omega
              · have he' : ¬ x.id.2 + 1 = t + 1 := by omega
                have hb2 := Lib.hid (show false = false → ¬ t = 0 ∧ ∀ j, j < k + 1 → (E.getD j en0).id.1 = p → ¬ (E.getD j en0).id.2 = t from fun _ => ⟨(hb.out rfl).1, fun j hj e => by
                  rcases (show j < k ∨ j = k by omega) with hj | rfl
                  · exact (hb.out rfl).2 j hj e
                  · rw [hx.out]; exact he⟩)
                go_wp2_with fail
                refine ⟨⟨k + 1, false, by omega, by go_num, by simp [he], hb2, by first | rfl | trivial⟩, ?_⟩
                simp [intOf]; omega
            · go_wp2_with fail
              refine ⟨⟨k + 1, true, by omega, by go_num, rfl, Lib.hid (fun h => nomatch h), by first | rfl | trivial⟩, ?_⟩
              simp [intOf]; omega
          · have hb2 := Lib.hid (show b = false → ¬ t = 0 ∧ ∀ j, j < k + 1 → (E.getD j en0).id.1 = p → ¬ (E.getD j en0).id.2 = t from fun hf => ⟨(hb.out hf).1, fun j hj e => by
              rcases (show j < k ∨ j = k by omega) with hj | rfl
              · exact (hb.out hf).2 j hj e
              · rw [hx.out] at e; exact absurd e hp⟩)
            go_wp2_with fail
            refine ⟨⟨k + 1, b, by omega, by go_num, rfl, hb2, by first | rfl | trivial⟩, ?_⟩
            simp [intOf]; omega
        · obtain rfl : k = n := by omega
          have hbt : b = true := by
            cases b with
            | true => rfl
            | false =>
              obtain ⟨h1, h2⟩ := hb.out rfl
              rcases htop.out.2 with h | ⟨j, h3, h4, h5⟩
              · exact absurd h h1
              · exact absurd h5 (h2 j (by rw [← hn.out]; exact h3) h4)
          subst hbt
          go_wp2_with fail
          go_ret
          exact ⟨rfl, D.out⟩
end Go.Proofs.Ytpckhghcjedblaa

/- Draws of logs and ids: l91In, DrawLogFind. -/
namespace Go.Proofs.Ytpckhghcjedblaa
open Go.RowKit
set_option linter.unusedVariables false

theorem in_resI (tm : Array Value) (w : World) (b : Nat) (v x y : Value) (t : TypeId) (h1 : tm[2]? = some v) (h2 : tm[3]? = some (.pointer (some ⟨b, 0, none⟩))) (h : w.heap[b]? = some (.cells #[x, y] t (0, 0))) :
    (results Try.f39 tm).run Try.prog w = .ok (.tuple #[v, .agg #[x, y]]) w := by
  obtain ⟨t0, t1, _, _⟩ := blk2 h
  simp [results, Try.results39, go_sem, h1, h2, t0, t1]
theorem in_resF (tm : Array Value) (w : World) (b : Nat) (v x y : Value) (t : TypeId) (h1 : tm[2]? = some v) (h2 : tm[3]? = some (.pointer (some ⟨b, 0, none⟩))) (h : w.heap[b]? = some (.cells #[x, y] t (0, 0))) :
    (results Try.f19 tm).run Try.prog w = .ok (.tuple #[v, .agg #[x, y]]) w := by
  obtain ⟨t0, t1, _, _⟩ := blk2 h
  simp [results, Try.results19, go_sem, h1, h2, t0, t1]
theorem put2_at {w : World} {b : Nat} {t : TypeId} {y0 y1 : Value} (x0 x1 : Value) (h : w.heap[b]? = some (.cells #[y0, y1] t (0, 0))) :
    ((w.setCell ⟨b, 0, none⟩ x0).setCell ⟨b, 1, none⟩ x1).heap[b]? = some (.cells #[x0, x1] t (0, 0)) := by
  have e := heap_setCell_same _ b 1 _ _ x1 (heap_setCell_same _ b 0 _ _ x0 h)
  simp only [List.setIfInBounds_toArray, List.set_cons_zero, List.set_cons_succ] at e
  exact e
theorem EnO.own {w : World} {B b o : Nat} {v : Value} {E : List En} (h : EnO w B v E) (hb : b < B) (u : Value) : EnO (w.setCell ⟨b, o, none⟩ u) B v E := by
  obtain ⟨g, cap, cur, t, rfl, h0, hg, h1, h2, h3⟩ := h
  refine ⟨g, cap, cur, t, rfl, h0, (heap_setCell_other _ _ _ _ (by show g ≠ b; omega)).trans hg, h1, h2, fun i hi => ?_⟩
  obtain ⟨c, u', q1, q2, hc, ho⟩ := h3 i hi
  exact ⟨c, u', q1, q2, hc, ho.same (heap_setCell_other _ _ _ _ (by show c ≠ b; omega))⟩
theorem EnO.cell01 {w : World} {B : Nat} {E : List En} {g n cap : Nat} (h : EnO w B (.slice (some ⟨g, 0, none⟩) n cap) E) {k : Nat} (hk : k < E.length) : w.cell? ⟨g, k * 9, none⟩ = some (.int .i64 (E.getD k en0).id.1) ∧ w.cell? ⟨g, k * 9 + 1, none⟩ = some (.int .i64 (E.getD k en0).id.2) ∧ g < w.heap.size := by
  obtain ⟨g', cap', cur, t, e, h0, hg, h1, h2, h3⟩ := h
  injection e with e1 e2 e3; injection e1 with e1; injection e1 with e1
  subst e1
  obtain ⟨_, _, _, _, hc, _⟩ := h3 k hk
  exact ⟨(cell_of_cells hg).trans (hc 0 (by omega)), (cell_of_cells hg).trans (hc 1 (by omega)), lt_of_heap hg⟩
theorem inR_small {x y : Int} (h1 : -100 ≤ x) (h2 : x ≤ 100) (h3 : -100 ≤ y) (h4 : y ≤ 100) : inR (x, y) := ⟨WalkArith.wf_i64 (by dsimp only; omega), WalkArith.wf_i64 (by dsimp only; omega)⟩

/-- What l91In leaves. -/
def DinP (r n : Nat) (w : World) (e : Ending) (w' : World) : Prop :=
  ∃ v E x y, e = .returned (.tuple #[v, .agg #[.int .i64 x, .int .i64 y]]) ∧ EnO w' (w.heap.size + 1) v E ∧ E.length ≤ 12 ∧ inR (x, y) ∧ Rd w' r (n + 800) ∧ Keep w.heap.size r w w'

set_option maxRecDepth 100000 in
set_option maxHeartbeats 4000000 in
theorem din_any (r n : Nat) (w : World) (hrd : Rd w r n) (hn : n ≤ 500000000) :
    Calls Try.prog 39 #[.pointer (some ⟨r, 0, none⟩)] w (DinP r n w) := by
  have hrl := hrd.lt
  have A := Lib.hid (heap_alloc_new w (.cells #[.int .i64 0, .int .i64 0] 25))
  have K := Lib.hid ((Keep.refl w.heap.size r w).alloc (Nat.le_refl _) (.cells #[.int .i64 0, .int .i64 0] 25))
  have R := Lib.hid (hrd.alloc (.cells #[.int .i64 0, .int .i64 0] 25))
  clear hrd
  go_enter Try.func39, Try.ntmps39
  go_wp2_with fail
  refine (dlog_any r n _ R.out (by omega)).mono ?_
  rintro e w1 ⟨v, E, rfl, O, hl, hok, hr', hk'⟩
  rw [show (w.alloc (.cells #[.int .i64 0, .int .i64 0] 25)).heap.size = w.heap.size + 1 by simp] at O hk'
  have hal := lt_of_heap A.out
  replace A := Lib.hid ((hk'.block w.heap.size (by omega) (by omega)).trans A.out)
  replace K := Lib.hid (K.out.trans (hk'.mono (Nat.le_succ _)))
  replace R := Lib.hid hr'
  obtain ⟨g, cap, hv⟩ := O.len
  subst hv
  have O := Lib.hid O
  have hok := Lib.hid hok
  have hgl := (show g < w1.heap.size from by obtain ⟨g', _, _, _, e, _, hg, _⟩ := O.out; injection e with e1; injection e1 with e1; injection e1 with e1; subst e1; exact lt_of_heap hg)
  obtain ⟨ln, hln⟩ : ∃ x, Hid (E.length = x) := ⟨_, Lib.hid rfl⟩
  rw [hln.out] at O hl ⊢
  clear hr' hk' hal
  by_cases h0 : ln = 0
  · subst h0
    go_wp2_with fail
    refine (idd_any r _ _ R.out (by omega)).mono ?_
    rintro e w2 ⟨x, y, rfl, hx, hy, hr', hk'⟩
    have hs := K.out.size
    replace O := Lib.hid (O.out.keep hk' (by omega))
    replace A := Lib.hid ((hk'.block w.heap.size (lt_of_heap A.out) (by omega)).trans A.out)
    replace K := Lib.hid (K.out.trans (hk'.mono hs))
    replace R := Lib.hid hr'
    obtain ⟨a0, a1, f0, f1⟩ := blk2 A.out
    have hal := lt_of_heap A.out
    clear hk' hr'
    go_wp2_with fail
    refine bodyPost_ret (in_resI _ _ _ _ _ _ _ rfl rfl (put2_at _ _ A.out)) rfl ⟨_, E, x, y, rfl, (O.out.own (by omega) _).own (by omega) _, by rw [hln.out]; exact hl, inR_small (by omega) (by omega) (by omega) (by omega), ((R.out.setCell (p := ⟨w.heap.size, 0, none⟩) hrl _).setCell (p := ⟨w.heap.size, 1, none⟩) hrl _).more (by omega), (K.out.setCell (p := ⟨w.heap.size, 0, none⟩) (Nat.le_refl _) _).setCell (p := ⟨w.heap.size, 1, none⟩) (Nat.le_refl _) _⟩
  · have h0' : 0 < ln := by omega
    have h0b : ((ln : Int) == 0) = false := by simp [h0]
    go_wp2_with fail
    refine (pick_any 5 r _ _ R.out (by omega)).mono ?_
    rintro e w2 ⟨z, rfl, z0, z1', hr', hk'⟩
    have hs := K.out.size
    replace O := Lib.hid (O.out.keep hk' (by omega))
    replace A := Lib.hid ((hk'.block w.heap.size (lt_of_heap A.out) (by omega)).trans A.out)
    replace K := Lib.hid (K.out.trans (hk'.mono hs))
    replace R := Lib.hid hr'
    clear hk' hr' hs z1'
    by_cases hz : z = 0
    · subst hz
      go_wp2_with fail
      refine (idd_any r _ _ R.out (by omega)).mono ?_
      rintro e w3 ⟨x, y, rfl, hx, hy, hr', hk'⟩
      have hs := K.out.size
      replace O := Lib.hid (O.out.keep hk' (by omega))
      replace A := Lib.hid ((hk'.block w.heap.size (lt_of_heap A.out) (by omega)).trans A.out)
      replace K := Lib.hid (K.out.trans (hk'.mono hs))
      replace R := Lib.hid hr'
      obtain ⟨a0, a1, f0, f1⟩ := blk2 A.out
      have hal := lt_of_heap A.out
      clear hk' hr'
      go_wp2_with fail
      refine bodyPost_ret (in_resI _ _ _ _ _ _ _ rfl rfl (put2_at _ _ A.out)) rfl ⟨_, E, x, y, rfl, (O.out.own (by omega) _).own (by omega) _, by rw [hln.out]; exact hl, inR_small (by omega) (by omega) (by omega) (by omega), ((R.out.setCell (p := ⟨w.heap.size, 0, none⟩) hrl _).setCell (p := ⟨w.heap.size, 1, none⟩) hrl _).more (by omega), (K.out.setCell (p := ⟨w.heap.size, 0, none⟩) (Nat.le_refl _) _).setCell (p := ⟨w.heap.size, 1, none⟩) (Nat.le_refl _) _⟩
    · have hzb : (z == 0) = false := by simpa using hz
      obtain ⟨a0, a1, f0, f1⟩ := blk2 A.out
      have hal := lt_of_heap A.out
      go_wp2_with fail
      go_region_with (go_at_call 40; (with_reducible refine (pick_any _ r _ _ (R.out.kept (Below.drew (Below.refl _ _))) (by omega)).mono ?_); rintro e w3 ⟨j, rfl, j0, j1', hr', hk'⟩; have j1 := j1' (by omega); have hs := K.out.size; have O3 := Lib.hid ((O.out.up (Below.drew (Below.refl _ _))).keep hk' (by omega)); have A3 := Lib.hid ((hk'.block w.heap.size hal (by omega)).trans (show _ = _ from A.out)); have K3 := Lib.hid (Keep.trans (Keep.trans K.out (Keep.of_below (Below.drew (Below.refl _ _)))) (hk'.mono hs)); have R3 := Lib.hid hr'; obtain ⟨j, rfl⟩ := Int.eq_ofNat_of_zero_le j0; obtain ⟨q0, q1, qb⟩ := O3.out.cell01 (k := j) (by rw [hln.out]; omega); obtain ⟨b0, b1, e0, e1⟩ := blk2 A3.out; have hal3 := lt_of_heap A3.out; clear hk' hr' j1' a0 a1 f0 f1)
      all_goals
        have hokj := hok.out j (by rw [hln.out]; omega)
        have hin := inR_ok hokj
        go_wp2_with fail
        refine bodyPost_ret (in_resI _ _ _ _ _ _ _ rfl rfl (put2_at _ _ A3.out)) rfl ⟨_, E, _, _, rfl, (O3.out.own (by omega) _).own (by omega) _, by rw [hln.out]; exact hl, hin, ((R3.out.setCell (p := ⟨w.heap.size, 0, none⟩) hrl _).setCell (p := ⟨w.heap.size, 1, none⟩) hrl _).more (by omega), (K3.out.setCell (p := ⟨w.heap.size, 0, none⟩) (Nat.le_refl _) _).setCell (p := ⟨w.heap.size, 1, none⟩) (Nat.le_refl _) _⟩
end Go.Proofs.Ytpckhghcjedblaa

/- Draws of logs and ids: DrawLogFind. -/
namespace Go.Proofs.Ytpckhghcjedblaa
open Go.RowKit
set_option linter.unusedVariables false

/-- What DrawLogFind leaves. -/
def DlfP (w : World) (e : Ending) (w' : World) : Prop :=
  ∃ v E x y, e = .returned (.tuple #[v, .agg #[.int .i64 x, .int .i64 y]]) ∧ EnO w' w.heap.size v E ∧ E.length ≤ 12 ∧ inR (x, y) ∧ Below w.heap.size w w'
set_option maxRecDepth 100000 in
set_option maxHeartbeats 2000000 in
theorem dlf_any (a : Option Addr) (len cap : Nat) (w : World) (hc : CodeIn w a len cap) (hcap : cap ≤ maxLen) :
    Calls Try.prog 19 #[.slice a len cap] w (DlfP w) := by
  have al := (Below.refl w.heap.size w).alloc (Nat.le_refl _) (.cells #[.int .i64 0, .int .i64 0] 25)
  have hc := Lib.hid (hc.up al)
  have al := Lib.hid al
  have A := Lib.hid (heap_alloc_new w (.cells #[.int .i64 0, .int .i64 0] 25))
  go_enter Try.func19, Try.ntmps19
  go_wp2_with fail
  refine (open_any a len cap _ hc.out hcap).mono ?_
  rintro e w1 ⟨r, rfl, hr0, hr', hb'⟩
  have s1 : w.heap.size + 1 ≤ w1.heap.size := by simpa using hb'.size
  have hr0' : w.heap.size + 1 ≤ r := by simpa using hr0
  replace A := Lib.hid ((hb'.block w.heap.size (by simp)).trans A.out)
  have D1 : Hid (Below w.heap.size w w1) := Lib.hid (al.out.trans (hb'.mono (by simp)))
  have hr1 := Lib.hid hr'
  have hrl := hr'.lt
  clear hr' hb' hc al
  go_wp2_with fail
  refine (din_any r 0 _ hr1.out (by omega)).mono ?_
  rintro e w2 ⟨v, E, x, y, rfl, O, hl, ha, _, hk⟩
  have O := Lib.hid O
  have D2 := Lib.hid (D1.out.trans ((hk.mono (by omega)).below (by omega)))
  replace A := Lib.hid ((hk.block w.heap.size (by omega) (by omega)).trans A.out)
  obtain ⟨a0, a1, f0, f1⟩ := blk2 A.out
  have hal := lt_of_heap A.out
  have ha := Lib.hid ha
  clear hk D1 hr1
  go_wp2_with fail
  refine bodyPost_ret (in_resF _ _ _ _ _ _ _ rfl rfl (put2_at _ _ A.out)) rfl ⟨v, E, x, y, rfl, ((O.out.wide (by omega)).own (B := w.heap.size + 1) (by omega) _).own (by omega) _ |>.wide (by omega), hl, ha.out, (D2.out.setCell (p := ⟨w.heap.size, 0, none⟩) (Nat.le_refl _) _).setCell (p := ⟨w.heap.size, 1, none⟩) (Nat.le_refl _) _⟩
end Go.Proofs.Ytpckhghcjedblaa

/- The walk of FnLogFind. -/
namespace Go.Proofs.Ytpckhghcjedblaa
open Go.RowKit
set_option linter.unusedVariables false


set_option maxRecDepth 100000 in
set_option maxHeartbeats 8000000 in
theorem fnLogFind_walk (a : Option Addr) (len cap : Nat) (w : World) (hc : CodeIn w a len cap) (hcap : cap ≤ maxLen) :
    Calls Try.prog 5 #[.slice a len cap] w fun e w' => e = .returned (.bool true) ∧ Below w.heap.size w w' := by
  have dn := dlf_any a len cap w hc hcap
  by_cases hlen : 1048576 < len
  · go_enter Try.func5, Try.ntmps5
    go_wp2_with fail
    go_ret
    exact ⟨rfl, Below.refl _ _⟩
  · go_enter Try.func5, Try.ntmps5
    go_wp2_with fail
    refine dn.mono ?_
    rintro e w1 ⟨v, E, x, y, rfl, O, hl, ha, B⟩
    obtain ⟨g, cp, hv⟩ := O.len
    subst hv
    have BA := (Below.refl w1.heap.size w1).alloc (Nat.le_refl _) (.cells #[.int .i64 x, .int .i64 y] 25)
    have A1 := Lib.hid (heap_alloc_new w1 (.cells #[.int .i64 x, .int .i64 y] 25))
    have O1 := Lib.hid (O.up BA)
    have D := Lib.hid (bstep B BA)
    clear BA B O dn
    go_upto_region 4 with fail
    obtain ⟨ib, hib⟩ : ∃ c, Hid (w1.heap.size = c) := ⟨_, Lib.hid rfl⟩
    rw [hib.out] at A1 ⊢
    generalize w1.alloc (.cells #[.int .i64 x, .int .i64 y] 25) = w2 at A1 O1 D ⊢
    clear hib
    have iv := ilfind_any _ E x y w2 O1.out.read ha
    have sv := fun W (hb : Below w2.heap.size w2 W) => slfind_any _ E x y W (O1.out.read.up hb (Nat.le_refl _))
    obtain ⟨⟨X, q⟩, hR⟩ : ∃ r, Hid (lfindR E (x, y) = r) := ⟨_, Lib.hid rfl⟩
    unfold LfP at iv sv
    rw [hR.out] at iv sv
    dsimp only at iv sv
    unfold env at iv sv
    obtain ⟨n, hn⟩ : ∃ n, Hid (E.length = n) := ⟨_, Lib.hid rfl⟩
    rw [hn.out] at iv sv O1 hl ⊢
    obtain ⟨a0, a1, _, _⟩ := blk2 A1.out
    have hal := lt_of_heap A1.out
    go_wp2_with fail
    refine iv.mono ?_
    rintro e w3 ⟨u5, rfl, O5, B⟩
    obtain ⟨va, vn, vc, rfl⟩ : ∃ ua un uc, u5 = .slice ua un uc := by obtain ⟨a, c, e, _⟩ := O5.read; exact ⟨a, _, c, e⟩
    have BA := (Below.refl w3.heap.size w3).alloc (Nat.le_refl _) (.cells #[.int .i64 X.id.1, .int .i64 X.id.2, .int .i64 X.bal, .int .i64 X.st, .int .i64 X.k, .int .i64 X.key, .int .i64 X.v, .int .i64 X.seq, .slice va vn vc] 30)
    have G5 := Lib.hid (show BxE (w3.alloc (.cells #[.int .i64 X.id.1, .int .i64 X.id.2, .int .i64 X.bal, .int .i64 X.st, .int .i64 X.k, .int .i64 X.key, .int .i64 X.v, .int .i64 X.seq, .slice va vn vc] 30)) w3.heap.size X (.slice va vn vc) from heap_alloc_new _ _)
    have I5 := Lib.hid ((O5.up BA).read)
    have F := Lib.hid (bstep B BA)
    have A2 := Lib.hid (bblk F.out hal A1.out)
    clear iv B BA O5 a0 a1 hal A1
    go_upto_region 5 with fail
    obtain ⟨xb5, hx5⟩ : ∃ c, Hid (w3.heap.size = c) := ⟨_, Lib.hid rfl⟩
    rw [hx5.out] at G5 ⊢
    generalize w3.alloc (.cells #[.int .i64 X.id.1, .int .i64 X.id.2, .int .i64 X.bal, .int .i64 X.st, .int .i64 X.k, .int .i64 X.key, .int .i64 X.v, .int .i64 X.seq, .slice va vn vc] 30) = w4 at G5 I5 F A2 ⊢
    clear hx5
    obtain ⟨a0, a1, _, _⟩ := blk2 A2.out
    have hal := lt_of_heap A2.out
    go_wp2_with fail
    refine (sv _ F.out).mono ?_
    rintro e w5 ⟨u7, rfl, O7, B⟩
    obtain ⟨vb, vm, vd, rfl⟩ : ∃ ua un uc, u7 = .slice ua un uc := by obtain ⟨a, c, e, _⟩ := O7.read; exact ⟨a, _, c, e⟩
    have BA := (Below.refl w5.heap.size w5).alloc (Nat.le_refl _) (.cells #[.int .i64 X.id.1, .int .i64 X.id.2, .int .i64 X.bal, .int .i64 X.st, .int .i64 X.k, .int .i64 X.key, .int .i64 X.v, .int .i64 X.seq, .slice vb vm vd] 30)
    have G7 := Lib.hid (show BxE (w5.alloc (.cells #[.int .i64 X.id.1, .int .i64 X.id.2, .int .i64 X.bal, .int .i64 X.st, .int .i64 X.k, .int .i64 X.key, .int .i64 X.v, .int .i64 X.seq, .slice vb vm vd] 30)) w5.heap.size X (.slice vb vm vd) from heap_alloc_new _ _)
    have I7 := Lib.hid ((O7.up BA).read)
    have B2 := bstep B BA
    replace G5 := Lib.hid (G5.out.up B2)
    replace I5 := Lib.hid (I5.out.up B2 (Nat.le_refl _))
    replace A2 := Lib.hid (bblk B2 hal A2.out)
    replace F := Lib.hid (bstep F.out B2)
    clear sv B BA B2 O7 a0 a1 hal
    go_upto_region 6 with fail
    obtain ⟨xb7, hx7⟩ : ∃ c, Hid (w5.heap.size = c) := ⟨_, Lib.hid rfl⟩
    rw [hx7.out] at G7 ⊢
    generalize w5.alloc (.cells #[.int .i64 X.id.1, .int .i64 X.id.2, .int .i64 X.bal, .int .i64 X.st, .int .i64 X.k, .int .i64 X.key, .int .i64 X.v, .int .i64 X.seq, .slice vb vm vd] 30) = w6 at G5 I5 G7 I7 F A2 ⊢
    clear hx7
    obtain ⟨⟨p0, p1, p2, p3, p4, p5, p6, p7, p8⟩, pl⟩ := G5.out.cells
    obtain ⟨⟨r0, r1, r2, r3, r4, r5, r6, r7, r8⟩, rl⟩ := G7.out.cells
    go_wp2_with fail
    refine (sameE_any X X _ _ _ I5.out I7.out).mono ?_
    rintro e w7 ⟨⟨bs, rfl, hbs⟩, B⟩
    have hbs := hbs.2 rfl
    subst hbs
    replace G5 := Lib.hid (G5.out.up B)
    replace G7 := Lib.hid (G7.out.up B)
    replace I5 := Lib.hid (I5.out.up B (Nat.le_refl _))
    replace I7 := Lib.hid (I7.out.up B (Nat.le_refl _))
    replace A2 := Lib.hid (bblk B (lt_of_heap A2.out) A2.out)
    replace F := Lib.hid (bstep F.out B)
    clear B p0 p1 p2 p3 p4 p5 p6 p7 p8 pl r0 r1 r2 r3 r4 r5 r6 r7 r8 rl
    cases q
    · clear A2
      obtain ⟨⟨p0, p1, p2, p3, p4, p5, p6, p7, p8⟩, pl⟩ := G5.out.cells
      obtain ⟨⟨r0, r1, r2, r3, r4, r5, r6, r7, r8⟩, rl⟩ := G7.out.cells
      go_wp2_with fail
      refine (sameE_any X X _ _ _ I5.out I7.out).mono ?_
      rintro e w9 ⟨⟨bs, rfl, hbs⟩, B⟩
      have hbs := hbs.2 rfl
      subst hbs
      replace D := Lib.hid (bstep D.out (bstep F.out B))
      clear B
      go_wp2_with fail
      go_ret
      exact ⟨rfl, D.out⟩
    · have hX : Hid (logB E = true ∧ (∃ j, j < n ∧ E.getD j en0 = X) ∧ X.id = (x, y)) := Lib.hid (by
        cases hv : logB E with
        | false =>
          have h1 := lfindR_bad hv (x, y)
          have h2 := hR.out
          rw [h1] at h2; injection h2 with _ e2; cases e2
        | true =>
          by_cases h : ∃ j, j < E.length ∧ (E.getD j en0).id = (x, y)
          · obtain ⟨j, hj, e⟩ := h
            have h1 := lfindR_some hv hj e
            have h2 := hR.out
            rw [h1] at h2; injection h2 with e1 e2
            exact ⟨rfl, ⟨j, by rw [← hn.out]; exact hj, e1⟩, by rw [← e1]; exact e⟩
          · have h1 := lfindR_none (E := E) (a := (x, y)) (fun k hk e => h ⟨k, hk, e⟩)
            have h2 := hR.out
            rw [h1] at h2; injection h2 with _ e2; cases e2)
      have hEn : Hid (enB X = true) := Lib.hid (by obtain ⟨h1, ⟨j, hj, e⟩, _⟩ := hX.out; rw [← e]; exact (log_of h1).2.1 _ (enD_mem (by rw [hn.out]; exact hj)))
      obtain ⟨U, hA⟩ : ∃ U, n = 0 ∨ EnsAt w2 g 0 E U := by
        obtain ⟨a', c', e, _, _, h3⟩ := O1.out.read
        injection e with e _ _
        rcases h3 with h3 | ⟨b, off, U, e2, h4⟩
        · exact ⟨fun _ => .slice none 0 0, .inl (hn.out.symm.trans h3)⟩
        · rw [e2] at e; obtain ⟨rfl, rfl⟩ : g = b ∧ 0 = off := (by simpa using e); exact ⟨U, .inr h4⟩
      have hA := Lib.hid hA
      have at_ : ∀ W k, k < n → Below w2.heap.size w2 W → EnAt W g (k * 9) (E.getD k en0) (U k) ∧ g < W.heap.size := fun W k hk hb => by
        have h := (hA.out.resolve_left (by omega)).up hb (Nat.le_refl _)
        have h2 := h.at_ k (by rw [hn.out]; exact hk)
        rw [Nat.zero_add] at h2
        exact ⟨h2, h.lt⟩
      clear G7 I7 O1 hA hR
      go_wp2_with fail
      go_loopw [9, 10] (fun s i wr => ∃ (k : Nat) (b : Bool), k ≤ n ∧ i = .int .i64 k ∧ s = .bool b ∧ Hid (b = true ↔ ∃ j, j < k ∧ E.getD j en0 = X) ∧ Hid (Below w7.heap.size w7 wr)) (fun _ i _ => n - (intOf i).toNat)
      case atStart => exact ⟨0, false, Nat.zero_le _, rfl, rfl, Lib.hid (by simp), Lib.hid (Below.refl _ _)⟩
      case round =>
        obtain ⟨k, b, hk, rfl, rfl, hb, hnx⟩ := hrel
        have FW := bstep F.out hnx.out
        by_cases hlt : k < n
        · cases b
          · obtain ⟨hP, hgl⟩ := at_ _ k hlt FW
            obtain ⟨z, hz⟩ : ∃ z, Hid (E.getD k en0 = z) := ⟨_, Lib.hid rfl⟩
            rw [hz.out] at hP
            obtain ⟨ua, un, uc, hu⟩ : ∃ ua un uc, U k = .slice ua un uc := by obtain ⟨a, c, e, _⟩ := hP.ids; exact ⟨a, _, c, e⟩
            rw [hu] at hP
            have sc := fun W (hb : Below wr.heap.size wr W) => sameE_any z X _ _ W (hP.ids.up hb (Nat.le_refl _)) ((I5.out.up hnx.out (Nat.le_refl _)).up hb (Nat.le_refl _))
            obtain ⟨q0, q1, q2, q3, q4, q5, q6, q7, q8, _⟩ := hP
            have G := Lib.hid (G5.out.up hnx.out)
            obtain ⟨⟨p0, p1, p2, p3, p4, p5, p6, p7, p8⟩, pl⟩ := G.out.cells
            unfold env at sc
            clear FW hu
            go_wp2_with fail
            go_region_with (go_at_call 18; (with_reducible refine (sc _ (Below.drew (Below.refl _ _))).mono ?_); rintro e w9 ⟨⟨bs, rfl, hbs⟩, B⟩; have D1 := Lib.hid (bstep (Below.drew hnx.out) B); have hbs := Lib.hid hbs; clear B)
            all_goals
              have hb2 := Lib.hid (show bs = true ↔ ∃ j, j < k + 1 ∧ E.getD j en0 = X from ⟨fun h => ⟨k, by omega, by rw [hz.out]; exact hbs.out.1 h⟩, fun ⟨j, hj, e⟩ => by
                rcases (show j < k ∨ j = k by omega) with hj | rfl
                · exact absurd (hb.out.2 ⟨j, hj, e⟩) (by simp)
                · rw [hz.out] at e; exact hbs.out.2 e⟩)
              go_wp2_with fail
              go_roundw
              case rel => exact ⟨k + 1, bs, by omega, by go_num, rfl, hb2, D1⟩
              case measure => simp [intOf]; omega
          · have hbT := Lib.hid (show true = true ↔ ∃ j, j < k + 1 ∧ E.getD j en0 = X from ⟨fun _ => by obtain ⟨j, hj, e⟩ := hb.out.1 rfl; exact ⟨j, by omega, e⟩, fun _ => rfl⟩)
            go_wp2_with fail
            go_quiet (fail)
            go_wp2_with fail
            refine ⟨⟨k + 1, true, by omega, by go_num, rfl, Lib.hid (by have := hbT.out; simpa using this), Lib.hid (bdrewN hnx.out _)⟩, ?_⟩
            simp [intOf]; omega
        · obtain rfl : k = n := by omega
          have hbt : b = true := hb.out.2 hX.out.2.1
          subst hbt
          have G := Lib.hid (G5.out.up hnx.out)
          have I := Lib.hid (I5.out.up hnx.out (Nat.le_refl _))
          have hA3 := Lib.hid (bblk hnx.out (lt_of_heap A2.out) A2.out)
          obtain ⟨a0, a1, _, _⟩ := blk2 hA3.out
          have hal := lt_of_heap hA3.out
          obtain ⟨⟨p0, p1, p2, p3, p4, p5, p6, p7, p8⟩, pl⟩ := G.out.cells
          have hid := hX.out.2.2
          have iev := ientry_any X (.slice va vn vc) _ I.out
          rw [hEn.out] at iev
          replace D := Lib.hid (bstep D.out FW)
          have hi1 : X.id.1 = x := by rw [hid]
          have hi2 : X.id.2 = y := by rw [hid]
          unfold env at iev
          rw [hi1] at p0 iev
          rw [hi2] at p1 iev
          clear FW hnx hid hi1 hi2
          go_wp2_with fail
          refine iev.mono ?_
          rintro e w9 ⟨rfl, B⟩
          replace D := Lib.hid (bstep D.out B)
          clear B iev
          go_wp2_with fail
          go_ret
          exact ⟨rfl, D.out⟩
end Go.Proofs.Ytpckhghcjedblaa
