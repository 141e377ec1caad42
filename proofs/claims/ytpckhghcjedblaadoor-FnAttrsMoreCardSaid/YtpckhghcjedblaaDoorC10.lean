/- Texts laid together. -/
import Derived.Test.YtpckhghcjedblaaDoorC09
import Derived.Test.YtpckhghcjedblaaDoorC06
import Derived.Test.YtpckhghcjedblaaDoorC08
import Derived.Maps.RangeWalk
import Derived.Test.YtpckhghcjedblaaDoorC05
import Derived.Test.YtpckhghcjedblaaDoorC04
import Derived.Test.YtpckhghcjedblaaDoorC13
/- What a log's book holds; bookOf, whatever entries there are. -/
namespace Go.Proofs.YtpckhghcjedblaaDoor
open Go.RowKit
set_option linter.unusedVariables false

theorem mapE_none {E : List En} {U : Nat → Value} {a : Pid} : ∀ n, (∀ k, k < n → ¬ (E.getD k en0).id = a) → mapE E U n a = none
  | 0, _ => rfl
  | n + 1, h => by
    unfold mapE
    rw [if_neg (fun e => h n (Nat.lt_succ_self n) e.symm)]
    exact mapE_none n fun k hk => h k (Nat.lt_succ_of_lt hk)
theorem mapE_some {E : List En} {U : Nat → Value} {a : Pid} {k : Nat} (hu : ∀ j, (E.getD j en0).id = a → j < E.length → j = k) : ∀ n, n ≤ E.length → k < n → (E.getD k en0).id = a → mapE E U n a = some (env (E.getD k en0) (U k))
  | 0, _, h, _ => absurd h (Nat.not_lt_zero _)
  | n + 1, hl, hk, e => by
    unfold mapE
    by_cases hn : a = (E.getD n en0).id
    · rw [if_pos hn, hu n hn.symm (by omega)]
    · rw [if_neg hn]
      have : k ≠ n := fun h => hn (by rw [← h]; exact e.symm)
      exact mapE_some hu n (by omega) (by omega) e
/-- What is looked up in a log's book. -/
theorem mapE_look {E : List En} (hv : logB E = true) (U : Nat → Value) (a : Pid) : (∃ k, k < E.length ∧ (E.getD k en0).id = a ∧ mapE E U E.length a = some (env (E.getD k en0) (U k))) ∨ ((∀ k, k < E.length → ¬ (E.getD k en0).id = a) ∧ mapE E U E.length a = none) := by
  by_cases h : ∃ k, k < E.length ∧ (E.getD k en0).id = a
  · obtain ⟨k, hk, e⟩ := h
    exact .inl ⟨k, hk, e, mapE_some (fun j hj hl => log_inj hv hl hk (hj.trans e.symm)) _ (Nat.le_refl _) hk e⟩
  · have h' : ∀ k, k < E.length → ¬ (E.getD k en0).id = a := fun k hk e => h ⟨k, hk, e⟩
    exact .inr ⟨h', mapE_none _ h'⟩
/-- What bookOf leaves, whatever entries there are. -/
theorem ibook_any (u : Value) (E : List En) (w : World) (h : Ens w u E) :
    ∃ U, (∀ k, k < E.length → Ids w (U k) (E.getD k en0).deps) ∧ Calls Tryd.prog 28 #[u] w (BkPost E U w) := by
  obtain ⟨a, cap, rfl, h1, h2, h3⟩ := h
  rcases h3 with h3 | ⟨b, off, U, rfl, h4⟩
  · obtain rfl : E = [] := List.length_eq_zero_iff.1 h3
    exact ⟨fun _ => .slice none 0 0, fun k hk => absurd hk (Nat.not_lt_zero _), ibook_nil a cap _ w⟩
  · exact ⟨U, fun k hk => (h4.at_ k hk).ids, ibook_at b off cap E U w h2 h4⟩
end Go.Proofs.YtpckhghcjedblaaDoor

/- A range over a log's book: which entries have come. -/
namespace Go.Proofs.YtpckhghcjedblaaDoor
open Go.RowKit
open Go.Maps (Keyed IsMap)
set_option linter.unusedVariables false
set_option maxRecDepth 100000

/-- A range over the book of E, by the iterator r: the entries at the places V have come. -/
def BkR (w : World) (bb r : Nat) (E : List En) (U : Nat → Value) (V : List Nat) (cnt : Nat) : Prop :=
  ∃ (n : Nat) (D : DataW Value) (left : Lit → Bool), w.ranges Tryd.prog 25 Rv bb r n D left cnt ∧ (∀ a, inR a → Maps.has D (klP a) = (mapE E U E.length a).isSome ∧ ∀ v, mapE E U E.length a = some v → ∀ zd, D.atKey (klP a) zd = .held v) ∧
    (∀ kl, left kl = true → Maps.has D kl = true) ∧ (∀ k, k < E.length → left (klP (E.getD k en0).id) = !decide (k ∈ V)) ∧ ∀ k ∈ V, k < E.length
theorem BkR.left {w : World} {bb r : Nat} {E : List En} {U : Nat → Value} {V : List Nat} {cnt : Nat} (h : BkR w bb r E U V cnt) : w.rangeLeft bb r = cnt := by
  obtain ⟨_, _, _, h, _⟩ := h; exact h.left_eq
theorem BkR.kept {w w' : World} {bb r : Nat} {E : List En} {U : Nat → Value} {V : List Nat} {cnt : Nat} (h : BkR w bb r E U V cnt) (hb : Below w.heap.size w w') : BkR w' bb r E U V cnt := by
  obtain ⟨n, D, left, h1, h2⟩ := h
  exact ⟨n, D, left, h1.kept (row := none) ⟨hb.os, hb.tape, hb.output, hb.size, fun i hi _ => hb.block i hi⟩ (by simp) (by simp), h2⟩
theorem BkR.lt {w : World} {bb r : Nat} {E : List En} {U : Nat → Value} {V : List Nat} {cnt : Nat} (h : BkR w bb r E U V cnt) : r < w.heap.size ∧ bb < w.heap.size ∧ r ≠ bb := by
  obtain ⟨n, D, left, h1, h2⟩ := h
  exact ⟨h1.lt, h1.owns.lt, h1.ne⟩

theorem below_turned {w0 w w' : World} {r : Nat} (h : Below w0.heap.size w0 w) (hg : w.grownBy w' (some r)) (hr : w0.heap.size ≤ r) : Below w0.heap.size w0 w' :=
  h.trans ⟨hg.os, hg.tape, hg.output, hg.size, fun k hk => hg.block k (Nat.lt_of_lt_of_le hk h.size) (fun e => by injection e with e; omega)⟩
theorem below_fresh {w0 w w' : World} (h : Below w0.heap.size w0 w) (hg : w.grownBy w' none) : Below w0.heap.size w0 w' :=
  h.trans ⟨hg.os, hg.tape, hg.output, hg.size, fun k hk => hg.block k (Nat.lt_of_lt_of_le hk h.size) (by simp)⟩
section
variable {w : World} {ops : Array Oper} {rest : List Oper} {o : Oper} {a : Act} {Q : Exit → Act → World → Prop}
/-- 'range b'. -/
theorem bk_range {w : World} (hg : o.guard = none) (m : Operand) (t : TypeId) (hop : o.op = Op.range t m) (e : TypeId) (ht : Tryd.prog.underlying t = some (.map 25 e)) {bb : Nat} {E : List En} {U : Nat → Value} (hv : logB E = true)
    (hm : a.eval m = .map (some bb)) (h : Book w bb E.length (mapE E U E.length))
    (hK : ∀ w' cnt, BkR w' bb w.heap.size E U [] cnt → w.grownBy w' none → w'.heap.size = w.heap.size + 1 → wpList Tryd.prog ops Q rest (a.put o.dst (.pointer (some ⟨w.heap.size, 0, none⟩))) w') :
    wpList Tryd.prog ops Q (o :: rest) a w := by
  obtain ⟨D, h1, h2⟩ := h
  refine wpList_range_own w hg m t hop 25 e id_law ht Rv bb _ D hm h1 fun w' r1 r2 r3 => hK w' _ ⟨_, D, _, r1, h2, fun _ x => x, fun k hk => ?_, fun _ h => nomatch h⟩ r2 r3
  rw [(h2 _ (inR_ok (log_num hv hk))).1, mapE_some (fun j hj hl => log_inj hv hl hk hj) _ (Nat.le_refl _) hk rfl]
  rfl
/-- The loop's step. -/
theorem bk_next {w : World} (hg : o.guard = none) (it : Operand) (hop : o.op = Op.next it false) {bb r : Nat} {E : List En} {U : Nat → Value} (hv : logB E = true) {V : List Nat} {cnt : Nat} (hit : a.eval it = .pointer (some ⟨r, 0, none⟩)) (h : BkR w bb r E U V cnt)
    (hDone : (∀ k, k < E.length → k ∈ V) → wpList Tryd.prog ops Q rest (a.put o.dst (.tuple #[.bool false])) w)
    (hMore : ∀ (k : Nat) (w' : World) (cnt' : Nat), k < E.length → BkR w' bb r E U (V ++ [k]) cnt' → cnt' < cnt → w.grownBy w' (some r) → w'.heap.size = w.heap.size →
      (Instr.entry (.pointer (some ⟨r, 0, none⟩))).run Tryd.prog w' = .ok (.tuple #[idv2 (E.getD k en0).id, env (E.getD k en0) (U k)]) w' → wpList Tryd.prog ops Q rest (a.put o.dst (.tuple #[.bool true, idv2 (E.getD k en0).id, env (E.getD k en0) (U k)])) w') :
    wpList Tryd.prog ops Q (o :: rest) a w := by
  obtain ⟨n, D, left, h1, h2, h3, h4, h5⟩ := h
  refine wpList_next_ranges (α := Pid) (β := Value) w hg it hop 25 id_law Rv idv2 id (fun key kl hk => by obtain ⟨x, e, _⟩ := key_inv hk; exact ⟨x, e⟩) (fun v y _ => ⟨v, rfl⟩) bb r n D left cnt hit h1 (fun hc hl => hDone fun k hk => ?_) fun x c kl y w' cnt' hkey hlk hRv hat hrg hlt hgr hsz hen => ?_
  · have := h4 k hk
    rw [hl] at this
    by_cases hin : k ∈ V
    · exact hin
    · simp [hin] at this
  · obtain ⟨x', ex, hx⟩ := key_inv hkey
    have exx : x = x' := by
      unfold idv2 at ex
      injection ex with ex
      have e1 := congrArg (fun x : Array Value => x[0]?) ex
      have e2 := congrArg (fun x : Array Value => x[1]?) ex
      simp at e1 e2
      exact Prod.ext e1 e2
    subst exx
    have hkl : kl = klP x := by have := key_of hx; rw [this] at hkey; injection hkey with e; exact e.symm
    subst hkl
    have hh := h3 _ hlk
    rw [(h2 x hx).1] at hh
    rcases mapE_look hv U x with ⟨k, hk, e1, e2⟩ | ⟨e1, e2⟩
    · subst e1
      have hc : c = env (E.getD k en0) (U k) := by
        have h6 := (h2 _ hx).2 _ e2 (.held c)
        rw [hat] at h6
        unfold Rv at hRv
        injection hRv with hRv
        rw [← hRv] at h6
        injection h6 with h6
      subst hc
      refine hMore k w' cnt' hk ⟨n, D, _, hrg, h2, fun kl' hl' => h3 kl' (by simp at hl'; exact hl'.1), fun j hj => ?_, fun j hj => ?_⟩ hlt hgr hsz hen
      · rw [h4 j hj]
        by_cases e : j = k
        · subst e
          rw [WideAt.sameKey_self (kl_key hx)]
          simp
        · have hne : klP (E.getD j en0).id ≠ klP (E.getD k en0).id := fun h => e (log_inj hv hj hk (kl_inj (inR_ok (log_num hv hj)) hx h))
          have hs : (klP (E.getD j en0).id).sameKey (klP (E.getD k en0).id) = false := by
            cases hs : (klP (E.getD j en0).id).sameKey (klP (E.getD k en0).id) with
            | false => rfl
            | true => exact absurd (WideAt.sameKey_eq hs) hne
          rw [hs]
          simp [e]
      · rcases List.mem_append.1 hj with hj | hj
        · exact h5 j hj
        · rw [List.mem_singleton] at hj; rw [hj]; exact hk
    · rw [e2] at hh; cases hh
end
end Go.Proofs.YtpckhghcjedblaaDoor

/- The program's clashes: a range over the book. -/
namespace Go.Proofs.YtpckhghcjedblaaDoor
open Go.RowKit
set_option linter.unusedVariables false

theorem cl_res (tm : Array Value) (w : World) (b : Nat) (g : Nat → Nat) (n : Int) (h2 : tm[6]? = some (.pointer (some ⟨b, 0, none⟩))) (h3 : tm[7]? = some (.int .i64 n)) (h : Set5 w b g) :
    (results Tryd.f31 tm).run Tryd.prog w = .ok (.tuple #[setV g, .int .i64 n]) w := by
  obtain ⟨t0, t1, t2, t3, t4⟩ := h.five
  simp [results, Tryd.results31, go_sem, setV, h2, h3, t0, t1, t2, t3, t4]
/-- A book is ranged over, another block is turned. -/
theorem BkR.own {w : World} {bb r : Nat} {E : List En} {U : Nat → Value} {V : List Nat} {cnt : Nat} (h : BkR w bb r E U V cnt) {b : Nat} (hb : b ≠ bb) (hr : b ≠ r) (o : Nat) (u : Value) : BkR (w.setCell ⟨b, o, none⟩ u) bb r E U V cnt := by
  obtain ⟨n, D, left, h1, h2⟩ := h
  refine ⟨n, D, left, h1.kept (row := some b) ⟨rfl, rfl, rfl, by simp, fun i _ hne => heap_setCell_other _ _ _ _ (fun e => hne (by rw [e]))⟩ (fun e => hb (by injection e with e; exact e.symm)) (fun e => hr (by injection e with e; exact e.symm)), h2⟩
/-- The ids of the entries that have come and count. -/
def cameL (E : List En) (a : Pid) (k key : Int) (V : List Nat) : List Pid := (V.filter fun j => clsF a k key (E.getD j en0)).map fun j => (E.getD j en0).id
theorem came_app (E : List En) (a : Pid) (k key : Int) (V : List Nat) (j : Nat) : cameL E a k key (V ++ [j]) = cameL E a k key V ++ (if clsF a k key (E.getD j en0) = true then [(E.getD j en0).id] else []) := by
  unfold cameL
  rw [List.filter_append, List.map_append]
  congr 1
  cases h : clsF a k key (E.getD j en0)
  · rw [List.filter_cons_of_neg (p := fun j => clsF a k key (E.getD j en0)) (show ¬ clsF a k key (E.getD j en0) = true by rw [h]; exact Bool.false_ne_true), if_neg Bool.false_ne_true]; rfl
  · rw [List.filter_cons_of_pos (p := fun j => clsF a k key (E.getD j en0)) (show clsF a k key (E.getD j en0) = true from h), if_pos rfl]; rfl
theorem came_ok {E : List En} (hv : logB E = true) (a : Pid) (k key : Int) (V : List Nat) (hV : ∀ j ∈ V, j < E.length) : (cameL E a k key V).all okP = true := by
  rw [List.all_eq_true]
  intro x hx
  unfold cameL at hx
  rw [List.mem_map] at hx
  obtain ⟨j, hj, rfl⟩ := hx
  exact log_num hv (hV j (List.mem_filter.1 hj).1)
theorem cls_ok {E : List En} (hv : logB E = true) (a : Pid) (k key : Int) : (idsE (clsE E a k key)).all okP = true := by
  rw [List.all_eq_true]
  intro x hx
  obtain ⟨z, hz, rfl⟩ := List.mem_map.1 hx
  obtain ⟨j, hj, rfl⟩ := mem_enD (List.mem_filter.1 hz).1
  exact log_num hv hj
theorem cls_srt {E : List En} (hv : logB E = true) (a : Pid) (k key : Int) : srtB (idsE (clsE E a k key)) = true := srt_to (cls_len hv a k key) (cls_ok hv a k key) (clsE_asc (log_of hv).2.2 a k key)
theorem mask_ext {L M : List Pid} (h1 : L.all okP = true) (h2 : M.all okP = true) (h : ∀ x, x ∈ L ↔ x ∈ M) : mask L = mask M := by
  funext r
  refine Nat.eq_of_testBit_eq fun n => ?_
  rw [Bool.eq_iff_iff, mask_bit h1, mask_bit h2]
  exact h _
theorem came_all {E : List En} (hv : logB E = true) (a : Pid) (k key : Int) (V : List Nat) (hV : ∀ j ∈ V, j < E.length) (hA : ∀ j, j < E.length → j ∈ V) : mask (cameL E a k key V) = mask (idsE (clsE E a k key)) := by
  refine mask_ext (came_ok hv a k key V hV) (cls_ok hv a k key) fun x => ?_
  unfold cameL
  rw [List.mem_map]
  constructor
  · rintro ⟨j, hj, rfl⟩
    obtain ⟨h1, h2⟩ := List.mem_filter.1 hj
    exact List.mem_map.2 ⟨_, List.mem_filter.2 ⟨enD_mem (hV j h1), h2⟩, rfl⟩
  · intro hx
    obtain ⟨z, hz, rfl⟩ := List.mem_map.1 hx
    obtain ⟨h1, h2⟩ := List.mem_filter.1 hz
    obtain ⟨j, hj, rfl⟩ := mem_enD h1
    exact ⟨j, List.mem_filter.2 ⟨hA j hj, h2⟩, rfl⟩
theorem BkR.lts {w : World} {bb r : Nat} {E : List En} {U : Nat → Value} {V : List Nat} {cnt : Nat} (h : BkR w bb r E U V cnt) : ∀ j ∈ V, j < E.length := by obtain ⟨_, _, _, _, _, _, _, h⟩ := h; exact h

theorem log_cmd {E : List En} (h : logB E = true) {k : Nat} (hk : k < E.length) : cvB (E.getD k en0).k (E.getD k en0).key (E.getD k en0).v = true := by
  have := (log_of h).2.1 _ (enD_mem hk)
  simp only [enB, Bool.and_eq_true] at this
  exact this.2.2.2

/-- Where clashes is. -/
structure PtC (w wr : World) (x y ck ckey cv : Int) (f : Nat → Nat) : Prop where
  ia : wr.heap[w.heap.size]? = some (.cells #[.int .i64 x, .int .i64 y] 25 (0, 0))
  ic : wr.heap[w.heap.size + 1]? = some (.cells #[.int .i64 ck, .int .i64 ckey, .int .i64 cv] 27 (0, 0))
  re : Set5 wr (w.heap.size + 1 + 1) fun _ => 0
  se : Set5 wr (w.heap.size + 1 + 1 + 1) f
  kp : Below w.heap.size w wr
section
variable {w wr w' : World} {x y ck ckey cv : Int} {f : Nat → Nat}
theorem PtC.sz (h : PtC w wr x y ck ckey cv f) : w.heap.size + 1 + 1 + 1 < wr.heap.size := h.se.lt
theorem PtC.up (h : PtC w wr x y ck ckey cv f) (hb : Below wr.heap.size wr w') : PtC w w' x y ck ckey cv f := by
  have := h.sz
  exact ⟨(hb.block _ (by omega)).trans h.ia, (hb.block _ (by omega)).trans h.ic, h.re.up hb (by omega), h.se.up hb (by omega), bstep h.kp hb⟩
theorem PtC.turned (h : PtC w wr x y ck ckey cv f) {r : Nat} (hg : wr.grownBy w' (some r)) (hr : w.heap.size + 1 + 1 + 1 < r) : PtC w w' x y ck ckey cv f := by
  have hs := h.sz
  have k : ∀ b, b < w.heap.size + 4 → w'.heap[b]? = wr.heap[b]? := fun b hb => hg.block b (by omega) (fun e => by injection e with e; omega)
  exact ⟨(k _ (by omega)).trans h.ia, (k _ (by omega)).trans h.ic, (k _ (by omega)).trans h.re, (k _ (by omega)).trans h.se, below_turned h.kp hg (by omega)⟩
theorem PtC.put (h : PtC w wr x y ck ckey cv f) {g : Nat → Nat} {r v : Nat} (hr : r < 5) (h1 : g r = v) (h2 : ∀ i, i < 5 → i ≠ r → g i = f i) : PtC w (wr.setCell ⟨w.heap.size + 1 + 1 + 1, r, none⟩ (.int .u64 v)) x y ck ckey cv g := by
  have oth : ∀ b, b ≠ w.heap.size + 1 + 1 + 1 → (wr.setCell ⟨w.heap.size + 1 + 1 + 1, r, none⟩ (.int .u64 v)).heap[b]? = wr.heap[b]? := fun b hb => heap_setCell_other _ _ _ _ hb
  exact ⟨(oth _ (by omega)).trans h.ia, (oth _ (by omega)).trans h.ic, (oth _ (by omega)).trans h.re, h.se.put hr h1 h2, h.kp.setCell (p := ⟨w.heap.size + 1 + 1 + 1, r, none⟩) (by show w.heap.size ≤ w.heap.size + 1 + 1 + 1; omega) _⟩
end

set_option maxRecDepth 100000 in
set_option maxHeartbeats 16000000 in
theorem icl_book (bb : Nat) (E : List En) (U : Nat → Value) (x y ck ckey cv : Int) (w : World) (hv : logB E = true) (hcv : cvB ck ckey cv = true) (h : Book w bb E.length (mapE E U E.length)) (hU : ∀ k, k < E.length → ∃ a n c, U k = .slice a n c) :
    Calls Tryd.prog 31 #[.map (some bb), .agg #[.int .i64 x, .int .i64 y], .agg #[.int .i64 ck, .int .i64 ckey, .int .i64 cv]] w fun e w' => e = .returned (.tuple #[setV (mask (idsE (clsE E (x, y) ck ckey))), .int .i64 (topE (clsE E (x, y) ck ckey))]) ∧ Below w.heap.size w w' := by
  have hbb := h.lt
  have B0 := (((((Below.refl w.heap.size w).alloc (Nat.le_refl _) (.cells #[.int .i64 x, .int .i64 y] 25)).alloc (by simp) (.cells #[.int .i64 ck, .int .i64 ckey, .int .i64 cv] 27)).alloc (by simp; omega) (.cells #[.int .u64 0, .int .u64 0, .int .u64 0, .int .u64 0, .int .u64 0] 65)).alloc (by simp; omega) (.cells #[.int .u64 0, .int .u64 0, .int .u64 0, .int .u64 0, .int .u64 0] 65))
  have P0 : Hid (PtC w ((((w.alloc (.cells #[.int .i64 x, .int .i64 y] 25)).alloc (.cells #[.int .i64 ck, .int .i64 ckey, .int .i64 cv] 27)).alloc (.cells #[.int .u64 0, .int .u64 0, .int .u64 0, .int .u64 0, .int .u64 0] 65)).alloc (.cells #[.int .u64 0, .int .u64 0, .int .u64 0, .int .u64 0, .int .u64 0] 65)) x y ck ckey cv fun _ => 0) := Lib.hid
    ⟨(Below.heap_alloc _ _ _ (by first | (simp; done) | (simp; omega))).trans ((Below.heap_alloc _ _ _ (by first | (simp; done) | (simp; omega))).trans ((Below.heap_alloc _ _ _ (by simp)).trans (heap_alloc_new w _))), (Below.heap_alloc _ _ _ (by first | (simp; done) | (simp; omega))).trans ((Below.heap_alloc _ _ _ (by simp)).trans (heap_alloc_at _ _ _ (by simp))), (Below.heap_alloc _ _ _ (by simp)).trans (heap_alloc_at _ _ _ (by simp)), heap_alloc_at _ _ _ (by simp), B0⟩
  have hB := Lib.hid (h.up B0 hbb)
  have hv := Lib.hid hv
  have hcv := Lib.hid hcv
  have hU := Lib.hid hU
  rw [topE_cls]
  clear h B0
  go_enter Tryd.func31, Tryd.ntmps31
  go_wp2_with (at_range; refine bk_range rfl _ 58 rfl _ Tryd.underlying58 hv.out rfl hB.out ?_; intro w0 cnt0 hr0 hg0 hs0)
  go_frame
  have P1 := Lib.hid (PtC.up P0.out ⟨hg0.os, hg0.tape, hg0.output, hg0.size, fun i hi => hg0.block i hi (by simp)⟩)
  have hrs : ((((w.alloc (.cells #[.int .i64 x, .int .i64 y] 25)).alloc (.cells #[.int .i64 ck, .int .i64 ckey, .int .i64 cv] 27)).alloc (.cells #[.int .u64 0, .int .u64 0, .int .u64 0, .int .u64 0, .int .u64 0] 65)).alloc (.cells #[.int .u64 0, .int .u64 0, .int .u64 0, .int .u64 0, .int .u64 0] 65)).heap.size = w.heap.size + 4 := by simp
  rw [hrs] at hr0
  have hr0 := Lib.hid hr0
  try rw [hrs]
  clear hg0 hs0 P0 hB hrs
  go_loopw [9] (fun g wr => ∃ (V : List Nat) (cnt : Nat) (gi : Int), g = .int .i64 gi ∧ 0 ≤ gi ∧ gi ≤ 99 ∧ Hid (BkR wr bb (w.heap.size + 4) E U V cnt) ∧ Hid (TopP E (fun j => j ∈ V) (clsF (x, y) ck ckey) (fun z => z.seq) gi) ∧ Hid (PtC w wr x y ck ckey cv (mask (cameL E (x, y) ck ckey V)))) (fun _ wr => wr.rangeLeft bb (w.heap.size + 4))
  case atStart => exact ⟨[], cnt0, 0, rfl, by omega, by omega, hr0, Lib.hid (TopP.start E _ (fun k hk => by simp at hk) _ _), P1⟩
  case round =>
    clear hr0 P1
    obtain ⟨V, cnt, gi, rfl, hg0, hg99, hBk, hT, hP⟩ := hrel
    go_wp2_with (at_next; refine bk_next rfl _ rfl hv.out rfl hBk.out ?_ ?_)
    · intro hall
      have e := Lib.hid (hT.out.done hall)
      have hse := hP.out.se
      rw [came_all hv.out (x, y) ck ckey V hBk.out.lts hall] at hse
      obtain ⟨g, hgg⟩ : ∃ g, Hid (mask (idsE (clsE E (x, y) ck ckey)) = g) := ⟨_, Lib.hid rfl⟩
      rw [hgg.out] at hse
      obtain ⟨s0, s1, s2, s3, s4⟩ := hse.five
      have hsl := hse.lt
      have hre := Lib.hid hP.out.re
      obtain ⟨r0, r1, r2, r3, r4⟩ := hre.out.five
      have f0 := hre.out.free 0
      have f1 := hre.out.free 1
      have f2 := hre.out.free 2
      have f3 := hre.out.free 3
      have f4 := hre.out.free 4
      have hrl := hre.out.lt
      have hfin := Lib.hid (hre.out.fill g)
      have hK := Lib.hid hP.out.kp
      clear hBk hT hse hP
      go_wp2_with fail
      refine bodyPost_ret (cl_res _ _ _ g _ rfl rfl hfin.out) rfl ⟨?_, ?_⟩
      · rw [hgg.out, ← e.out]
      · exact ((((hK.out.setCell (p := ⟨w.heap.size + 1 + 1, 0, none⟩) (by show w.heap.size ≤ w.heap.size + 1 + 1; omega) _).setCell (p := ⟨w.heap.size + 1 + 1, 1, none⟩) (by show w.heap.size ≤ w.heap.size + 1 + 1; omega) _).setCell (p := ⟨w.heap.size + 1 + 1, 2, none⟩) (by show w.heap.size ≤ w.heap.size + 1 + 1; omega) _).setCell (p := ⟨w.heap.size + 1 + 1, 3, none⟩) (by show w.heap.size ≤ w.heap.size + 1 + 1; omega) _).setCell (p := ⟨w.heap.size + 1 + 1, 4, none⟩) (by show w.heap.size ≤ w.heap.size + 1 + 1; omega) _
    · intro k w1 cnt1 hk hBk1 hlt hg1 hs1 hen
      obtain ⟨ua, un, uc, hu⟩ := hU.out k hk
      have hnum := log_num hv.out hk
      have hrk := log_rank hv.out hk
      have hcB := log_cmd hv.out hk
      have hP1 := Lib.hid (hP.out.turned hg1 (by omega))
      have hl := hBk.out.left
      have hok := came_ok hv.out (x, y) ck ckey V hBk.out.lts
      have hBk1 := Lib.hid hBk1
      have Th := Lib.hid (fun hf => hT.out.hit (S' := fun j => j ∈ V ++ [k]) hk (fun j => by simp) hf)
      have Tm := Lib.hid (fun hf => hT.out.miss (S' := fun j => j ∈ V ++ [k]) (k := k) (fun j => by simp) hf)
      have Ca := Lib.hid (came_app E (x, y) ck ckey V k)
      simp only [← List.getD_eq_getElem?_getD] at hen ⊢
      obtain ⟨z, hz⟩ : ∃ z, Hid (E.getD k en0 = z) := ⟨_, Lib.hid rfl⟩
      rw [hz.out, hu] at hen ⊢
      rw [hz.out] at hnum Th Tm Ca hrk hcB
      obtain ⟨⟨p, r⟩, bal, st, k1, key1, cv1, s, L⟩ := z
      have hnum : 0 ≤ p ∧ p ≤ 4 ∧ 1 ≤ r ∧ r ≤ 50 := by simpa [okP, idB] using hnum
      dsimp only [idv2, env] at hen Th Tm Ca hrk hcB ⊢
      clear hT hBk hg1 hP hs1
      have BA := ((Below.refl w1.heap.size w1).alloc (Nat.le_refl _) (.cells #[.int .i64 p, .int .i64 r] 25)).alloc (by simp) (.cells #[.int .i64 p, .int .i64 r, .int .i64 bal, .int .i64 st, .int .i64 k1, .int .i64 key1, .int .i64 cv1, .int .i64 s, .slice ua un uc] 36)
      have KA : ((w1.alloc (.cells #[.int .i64 p, .int .i64 r] 25)).alloc (.cells #[.int .i64 p, .int .i64 r, .int .i64 bal, .int .i64 st, .int .i64 k1, .int .i64 key1, .int .i64 cv1, .int .i64 s, .slice ua un uc] 36)).heap[w1.heap.size]? = some (.cells #[.int .i64 p, .int .i64 r] 25 (0, 0)) := (Below.heap_alloc _ _ _ (by simp)).trans (heap_alloc_new w1 _)
      have EA : ((w1.alloc (.cells #[.int .i64 p, .int .i64 r] 25)).alloc (.cells #[.int .i64 p, .int .i64 r, .int .i64 bal, .int .i64 st, .int .i64 k1, .int .i64 key1, .int .i64 cv1, .int .i64 s, .slice ua un uc] 36)).heap[w1.heap.size + 1]? = some (.cells #[.int .i64 p, .int .i64 r, .int .i64 bal, .int .i64 st, .int .i64 k1, .int .i64 key1, .int .i64 cv1, .int .i64 s, .slice ua un uc] 36 (0, 0)) := heap_alloc_at _ _ _ (by simp)
      have hBk2 := Lib.hid (hBk1.out.kept BA)
      have P2 := Lib.hid (hP1.out.up BA)
      have hxs := P2.out.sz
      have hxw : w.heap.size + 4 < w1.heap.size := hBk1.out.lt.1
      have KA := Lib.hid KA
      have EA := Lib.hid EA
      clear BA hP1 hBk1 hu
      go_upto_region 6 with fail
      obtain ⟨xb, hxb⟩ : ∃ c, Hid (w1.heap.size = c) := ⟨_, Lib.hid rfl⟩
      rw [hxb.out] at KA EA hxw ⊢
      generalize (w1.alloc (.cells #[.int .i64 p, .int .i64 r] 25)).alloc (.cells #[.int .i64 p, .int .i64 r, .int .i64 bal, .int .i64 st, .int .i64 k1, .int .i64 key1, .int .i64 cv1, .int .i64 s, .slice ua un uc] 36) = W at KA EA hBk2 P2 hxs ⊢
      clear hen hxb
      have cl := fun W => iclash_any k1 key1 cv1 ck ckey cv W
      rw [show clB k1 key1 cv1 ck ckey cv = kcB k1 key1 ck ckey from by unfold clB; rw [hcB, hcv.out]; rfl] at cl
      obtain ⟨x0, x1, _, _⟩ := blk2 P2.out.ia
      obtain ⟨y0, y1, y2, _, _, _⟩ := blk3 P2.out.ic
      have hil := lt_of_heap P2.out.ia
      have hcl := lt_of_heap P2.out.ic
      obtain ⟨k0, k1', _, _⟩ := blk2 KA.out
      have hkl := lt_of_heap KA.out
      obtain ⟨e0, e1, e2, e3, e4, e5, e6, e7, e8⟩ := nine_cells EA.out
      have hel := lt_of_heap EA.out
      by_cases hne : (p, r) = (x, y)
      · have hF : clsF (x, y) ck ckey ⟨(p, r), bal, st, k1, key1, cv1, s, L⟩ = false := clsF_no (fun h => h.1 hne)
        have T := Lib.hid (Tm.out hF)
        have hm2 : Hid (cameL E (x, y) ck ckey (V ++ [k]) = cameL E (x, y) ck ckey V) := Lib.hid (by rw [Ca.out, hF, if_neg Bool.false_ne_true, List.append_nil])
        have P3 : Hid (PtC w W x y ck ckey cv (mask (cameL E (x, y) ck ckey (V ++ [k])))) := Lib.hid (by rw [hm2.out]; exact P2.out)
        clear Ca Tm Th hF hm2 P2 cl hz
        obtain ⟨rfl, rfl⟩ : p = x ∧ r = y := by simpa using hne
        go_wp2_with fail
        go_roundw
        case rel => exact ⟨_, cnt1, gi, rfl, hg0, hg99, hBk2, T, P3⟩
        case measure => rw [hBk2.out.left, hl]; omega
      · go_cut [27] from 19 to 26 (fun b wx => b = .bool (kcB k1 key1 ck ckey) ∧ Hid (Below W.heap.size W wx))
        case first =>
          rcases pid_ne2 hne with hne1 | ⟨hne0, hne1⟩
          · dsimp only at hne1
            go_wp2_with fail
            refine (cl _).mono ?_
            rintro e w2 ⟨rfl, B⟩
            have B := Lib.hid B
            go_wp2_with fail
            go_meet
            exact ⟨rfl, B⟩
          · dsimp only at hne0 hne1
            subst hne0
            go_wp2_with fail
            refine (cl _).mono ?_
            rintro e w2 ⟨rfl, B⟩
            have B := Lib.hid B
            go_wp2_with fail
            go_meet
            exact ⟨rfl, B⟩
        case rest =>
          obtain ⟨rfl, B⟩ := hcut
          replace hBk2 := Lib.hid (hBk2.out.kept B.out)
          replace P2 := Lib.hid (P2.out.up B.out)
          replace KA := Lib.hid (bblk B.out hkl KA.out)
          replace EA := Lib.hid (bblk B.out hel EA.out)
          clear x0 x1 y0 y1 y2 hil hcl k0 k1' hkl e0 e1 e2 e3 e4 e5 e6 e7 e8 hel cl B
          obtain ⟨k0, k1', _, _⟩ := blk2 KA.out
          have hkl := lt_of_heap KA.out
          have hel := lt_of_heap EA.out
          cases hc : kcB k1 key1 ck ckey with
          | false =>
            have hF : clsF (x, y) ck ckey ⟨(p, r), bal, st, k1, key1, cv1, s, L⟩ = false := clsF_no (fun h => by have := h.2; dsimp only at this; rw [hc] at this; cases this)
            have T := Lib.hid (Tm.out hF)
            have hm2 : Hid (cameL E (x, y) ck ckey (V ++ [k]) = cameL E (x, y) ck ckey V) := Lib.hid (by rw [Ca.out, hF, if_neg Bool.false_ne_true, List.append_nil])
            have P3 : Hid (PtC w wc x y ck ckey cv (mask (cameL E (x, y) ck ckey (V ++ [k])))) := Lib.hid (by rw [hm2.out]; exact P2.out)
            clear Ca Tm Th hF hm2 P2 hz
            go_wp2_with fail
            go_roundw
            case rel => exact ⟨_, cnt1, gi, rfl, hg0, hg99, hBk2, T, P3⟩
            case measure => rw [hBk2.out.left, hl]; omega
          | true =>
            have hF : clsF (x, y) ck ckey ⟨(p, r), bal, st, k1, key1, cv1, s, L⟩ = true := clsF_yes hne hc
            have T := Lib.hid (Th.out hF)
            have hm2 : Hid (cameL E (x, y) ck ckey (V ++ [k]) = cameL E (x, y) ck ckey V ++ [(p, r)]) := Lib.hid (by rw [Ca.out, hF, if_pos rfl])
            clear Ca Tm Th hF hz
            have hmlt := mask_lt hok
            obtain ⟨pr, rfl⟩ : ∃ n : Nat, p = n := ⟨p.toNat, by omega⟩
            obtain ⟨nr, rfl⟩ : ∃ n : Nat, r = n := ⟨r.toNat, by omega⟩
            have c0 := P2.out.se.cell (r := pr) (by omega)
            have f0 := P2.out.se.free pr
            have hlt2 := hmlt pr
            obtain ⟨m, hm3⟩ : ∃ m, Hid (mask (cameL E (x, y) ck ckey V) pr = m) := ⟨_, Lib.hid rfl⟩
            rw [hm3.out] at c0 hlt2
            have ad := add_at (w.heap.size + 1 + 1 + 1) 0 pr nr m
            simp only [Nat.zero_add] at ad
            clear hmlt
            go_wp2_with fail
            refine (ad _ (by omega) (by omega) P2.out.se.lt c0 f0 hlt2).mono ?_
            rintro e w9 ⟨rfl, w8, hb8, rfl⟩
            have P3 : Hid (PtC w (w8.setCell ⟨w.heap.size + 1 + 1 + 1, pr, none⟩ (.int .u64 ((m ||| 2 ^ nr : Nat) : Int))) x y ck ckey cv (mask (cameL E (x, y) ck ckey (V ++ [k])))) := Lib.hid ((P2.out.up hb8).put (by omega) (by rw [hm2.out, mask_app, if_pos rfl, hm3.out]; rfl) (fun i hi hne => by rw [hm2.out, mask_app, if_neg (fun e => hne (by have : (pr : Int) = (i : Int) := e; omega))]))
            have hb3 := hBk2.out.lt
            have hBk3 := Lib.hid ((hBk2.out.kept hb8).own (b := w.heap.size + 1 + 1 + 1) (by omega) (by omega) pr (.int .u64 ((m ||| 2 ^ nr : Nat) : Int)))
            have EA3 := Lib.hid ((heap_setCell_other w8 ⟨w.heap.size + 1 + 1 + 1, pr, none⟩ (xb + 1) (.int .u64 ((m ||| 2 ^ nr : Nat) : Int)) (by show xb + 1 ≠ w.heap.size + 1 + 1 + 1; omega)).trans (bblk hb8 hel EA.out))
            generalize m ||| 2 ^ nr = yv at P3 hBk3 EA3 ⊢
            clear c0 f0 hlt2 ad P2 hBk2 KA EA k0 k1' hkl hel hm2 hm3 hb3
            generalize w8.setCell ⟨w.heap.size + 1 + 1 + 1, pr, none⟩ (.int .u64 (yv : Int)) = W3 at P3 hBk3 EA3 ⊢
            clear hb8
            obtain ⟨e0, e1, e2, e3, e4, e5, e6, e7, e8⟩ := nine_cells EA3.out
            have hel := lt_of_heap EA3.out
            by_cases hle : s ≤ gi
            · have hmax : max gi s = gi := Int.max_eq_left hle
              rw [show max gi ((fun z : En => z.seq) ⟨((pr : Int), (nr : Int)), bal, st, k1, key1, cv1, s, L⟩) = gi from hmax] at T
              have hle2 : ¬ gi < s := by omega
              go_wp2_with fail
              go_roundw
              case rel => exact ⟨_, cnt1, gi, by first | rfl | (congr 1; omega), by omega, by omega, hBk3, T, P3⟩
              case measure => rw [hBk3.out.left, hl]; omega
            · have hmax : max gi s = s := Int.max_eq_right (by omega)
              rw [show max gi ((fun z : En => z.seq) ⟨((pr : Int), (nr : Int)), bal, st, k1, key1, cv1, s, L⟩) = s from hmax] at T
              have hle2 : gi ≤ s := by omega
              have hle3 : gi < s := by omega
              go_wp2_with fail
              go_roundw
              case rel => exact ⟨_, cnt1, s, by first | rfl | (congr 1; omega), by omega, by omega, hBk3, T, P3⟩
              case measure => rw [hBk3.out.left, hl]; omega
end Go.Proofs.YtpckhghcjedblaaDoor

/- The program's LogAttrs. -/
namespace Go.Proofs.YtpckhghcjedblaaDoor
open Go.RowKit
set_option linter.unusedVariables false

set_option maxRecDepth 100000 in
set_option maxHeartbeats 8000000 in
theorem ilatt_any (u : Value) (E : List En) (x y ck ckey cv : Int) (w : World) (hT : TabIn w) (h : Ens w u E) :
    Calls Tryd.prog 9 #[u, .agg #[.int .i64 x, .int .i64 y], .agg #[.int .i64 ck, .int .i64 ckey, .int .i64 cv]] w (LatP E (x, y) ck ckey cv w) := by
  have A0 := Lib.hid ((Below.heap_alloc _ (.cells #[.int .i64 ck, .int .i64 ckey, .int .i64 cv] 27) _ (by simp)).trans (heap_alloc_new w (.cells #[.int .i64 x, .int .i64 y] 25)))
  have C0 := Lib.hid (heap_alloc_at (w.alloc (.cells #[.int .i64 x, .int .i64 y] 25)) (.cells #[.int .i64 ck, .int .i64 ckey, .int .i64 cv] 27) (w.heap.size + 1) (by simp))
  have B0 := Lib.hid (((Below.refl w.heap.size w).alloc (Nat.le_refl _) (.cells #[.int .i64 x, .int .i64 y] 25)).alloc (by simp) (.cells #[.int .i64 ck, .int .i64 ckey, .int .i64 cv] 27))
  obtain ⟨U, hU, bk⟩ := ibook_any u E _ (h.up B0.out (Nat.le_refl _))
  have hU := Lib.hid (fun k hk => show ∃ a n c, U k = .slice a n c from by obtain ⟨a, c, e, _⟩ := hU k hk; exact ⟨a, _, c, e⟩)
  have hT0 := Lib.hid (TabIn.up hT B0.out (Nat.le_refl _))
  unfold BkPost at bk
  obtain ⟨q, hq⟩ : ∃ q, Hid (logB E = q) := ⟨_, Lib.hid rfl⟩
  rw [hq.out] at bk
  clear h hT
  go_enter Tryd.func9, Tryd.ntmps9
  go_wp2_with fail
  refine bk.mono ?_
  rintro e w1 ⟨⟨hqt, bb, _, rfl, hB⟩ | ⟨hqf, rfl⟩, B⟩
  · subst hqt
    have A1 := Lib.hid (bblk B (lt_of_heap A0.out) A0.out)
    have C1 := Lib.hid (bblk B (lt_of_heap C0.out) C0.out)
    have B1 := Lib.hid (bstep B0.out B)
    have T1 := Lib.hid (TabIn.up hT0.out B (Nat.le_refl _))
    have hB := Lib.hid hB
    clear B A0 C0 B0 hT0 bk
    obtain ⟨a0, a1, _, _⟩ := blk2 A1.out
    have hal := lt_of_heap A1.out
    go_wp2_with fail
    refine (ivid_any x y _).mono ?_
    rintro e w2 ⟨rfl, B⟩
    replace A1 := Lib.hid (bblk B (lt_of_heap A1.out) A1.out)
    replace C1 := Lib.hid (bblk B (lt_of_heap C1.out) C1.out)
    replace B1 := Lib.hid (bstep B1.out B)
    replace T1 := Lib.hid (TabIn.up T1.out B (Nat.le_refl _))
    replace hB := Lib.hid (hB.out.up B hB.out.lt)
    clear B a0 a1 hal
    obtain ⟨p, hp⟩ : ∃ q, Hid (okP (x, y) = q) := ⟨_, Lib.hid rfl⟩
    rw [show idB x y = p from hp.out]
    obtain ⟨b0, b1, b2, _, _, _⟩ := blk3 C1.out
    have hcl := lt_of_heap C1.out
    cases p
    · have R := Lib.hid (lat_fail B1.out (lattR_id (E := E) (k := ck) (key := ckey) (v := cv) hp.out))
      go_wp2_with fail
      go_ret3
      exact R.out
    · go_wp2_with fail
      refine (ivalid_any ck ckey cv _).mono ?_
      rintro e w3 ⟨rfl, B⟩
      replace A1 := Lib.hid (bblk B (lt_of_heap A1.out) A1.out)
      replace C1 := Lib.hid (bblk B (lt_of_heap C1.out) C1.out)
      replace B1 := Lib.hid (bstep B1.out B)
      replace T1 := Lib.hid (TabIn.up T1.out B (Nat.le_refl _))
      replace hB := Lib.hid (hB.out.up B hB.out.lt)
      clear B b0 b1 b2 hcl
      obtain ⟨s, hs⟩ : ∃ q, Hid (cvB ck ckey cv = q) := ⟨_, Lib.hid rfl⟩
      rw [hs.out]
      obtain ⟨a0, a1, _, _⟩ := blk2 A1.out
      have hal := lt_of_heap A1.out
      obtain ⟨b0, b1, b2, _, _, _⟩ := blk3 C1.out
      have hcl := lt_of_heap C1.out
      cases s
      · have R := Lib.hid (lat_fail B1.out (lattR_cmd (E := E) (a := (x, y)) hs.out))
        go_wp2_with fail
        go_ret3
        exact R.out
      · have hTT := top_rank hq.out (x, y) ck ckey
        have hsrt := Lib.hid (idsO_mask (cls_srt hq.out (x, y) ck ckey))
        have hml := Lib.hid (mask_lt (cls_ok hq.out (x, y) ck ckey))
        have hgood := Lib.hid (fun h => lattR_good (v := cv) hq.out hp.out hs.out h)
        have hfull := Lib.hid (fun h => lattR_full (E := E) (a := (x, y)) (k := ck) (key := ckey) (v := cv) h)
        have ic := icl_book bb E U x y ck ckey cv w3 hq.out hs.out hB.out hU.out
        obtain ⟨t, ht⟩ : ∃ t, Hid (topE (clsE E (x, y) ck ckey) = t) := ⟨_, Lib.hid rfl⟩
        obtain ⟨S, hS⟩ : ∃ t, Hid (idsE (clsE E (x, y) ck ckey) = t) := ⟨_, Lib.hid rfl⟩
        rw [ht.out, hS.out] at ic
        rw [ht.out] at hTT hgood hfull
        rw [hS.out] at hgood hml hsrt
        obtain ⟨g, hg⟩ : ∃ g, Hid (mask S = g) := ⟨_, Lib.hid rfl⟩
        rw [hg.out] at ic hsrt hml
        clear hB
        unfold setV at ic
        go_wp2_with fail
        refine ic.mono ?_
        rintro e w4 ⟨rfl, B⟩
        replace B1 := Lib.hid (bstep B1.out B)
        replace T1 := Lib.hid (TabIn.up T1.out B (Nat.le_refl _))
        clear B ic A1 C1 a0 a1 hal b0 b1 b2 hcl
        have BA := (Below.refl w4.heap.size w4).alloc (Nat.le_refl _) (.cells #[.int .u64 (g 0), .int .u64 (g 1), .int .u64 (g 2), .int .u64 (g 3), .int .u64 (g 4)] 65)
        have S5 : Set5 (w4.alloc (.cells #[.int .u64 (g 0), .int .u64 (g 1), .int .u64 (g 2), .int .u64 (g 3), .int .u64 (g 4)] 65)) w4.heap.size g := heap_alloc_new w4 _
        obtain ⟨s0, s1, s2, s3, s4⟩ := S5.five
        have hsl := S5.lt
        replace B1 := Lib.hid (bstep B1.out BA)
        replace T1 := Lib.hid (TabIn.up T1.out BA (Nat.le_refl _))
        have S5 := Lib.hid S5
        clear BA s0 s1 s2 s3 s4 hsl
        go_upto_region 5 with fail
        obtain ⟨sb, hsb⟩ : ∃ c, Hid (w4.heap.size = c) := ⟨_, Lib.hid rfl⟩
        rw [hsb.out] at S5 ⊢
        generalize w4.alloc (.cells #[.int .u64 (g 0), .int .u64 (g 1), .int .u64 (g 2), .int .u64 (g 3), .int .u64 (g 4)] 65) = W4 at S5 B1 T1 ⊢
        obtain ⟨s0, s1, s2, s3, s4⟩ := S5.out.five
        have hsl := S5.out.lt
        clear hsb
        by_cases h99 : t = 99
        · have R := Lib.hid (lat_fail B1.out (hfull.out (by omega)))
          subst h99
          go_wp2_with fail
          go_ret3
          exact R.out
        · have hR := Lib.hid (hgood.out (by omega))
          have ido := idso_any g _ hml.out T1.out
          unfold setV at ido
          have hne : (t == 99) = false := by simpa using h99
          go_wp2_with fail
          refine ido.mono ?_
          rintro e w5 ⟨b5, u5, hb5, rfl, O5, B⟩
          rw [hsrt.out] at O5
          have O5 := Lib.hid O5
          have hz := B1.out.size
          replace B1 := Lib.hid (bstep B1.out B)
          clear B ido s0 s1 s2 s3 s4 hsl
          go_wp2_with fail
          go_ret3
          rw [LatP, hR.out]
          exact ⟨⟨_, rfl, b5, by omega, O5.out⟩, B1.out⟩
  · subst hqf
    have B1 := Lib.hid (bstep B0.out B)
    have R := Lib.hid (lat_fail B1.out (lattR_log (a := (x, y)) (k := ck) (key := ckey) (v := cv) hq.out))
    clear bk B A0 C0 B0
    go_wp2_with fail
    go_ret3
    exact R.out
end Go.Proofs.YtpckhghcjedblaaDoor
