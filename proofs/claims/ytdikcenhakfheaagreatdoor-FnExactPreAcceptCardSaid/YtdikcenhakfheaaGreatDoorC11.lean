/- Texts laid together. -/
import Derived.Test.YtdikcenhakfheaaGreatDoorC10
import Derived.Test.YtdikcenhakfheaaGreatDoorC07
import Derived.Test.YtdikcenhakfheaaGreatDoorC09
import Derived.Maps.RangeWalk
import Derived.Test.YtdikcenhakfheaaGreatDoorC05
import Derived.Test.YtdikcenhakfheaaGreatDoorC04
import Derived.Test.YtdikcenhakfheaaGreatDoorC13
import Derived.Test.YtdikcenhakfheaaGreatDoorC12
import Derived.Test.YtdikcenhakfheaaGreatDoorC17
import Derived.Test.YtdikcenhakfheaaGreatDoorC02
import Derived.Test.YtdikcenhakfheaaGreatDoorC20
/- What a log's book holds; bookOf, whatever entries there are. -/
namespace Go.Proofs.YtdikcenhakfheaaGreatDoor
open Go.RowKit
set_option linter.unusedVariables false

theorem mapE_none {E : List En} {U : Nat → Value} {a : Pid} : ∀ n, (∀ k, k < n → ¬ (E.getD k en0).id = a) → mapE E U n a = none
  | 0, _ => rfl
  | n + 1, h => by
    unfold mapE
    rw [if_neg (fun e => h n (Nat.lt_succ_self n) e.symm)]
    exact mapE_none n fun k hk => h k (Nat.lt_succ_of_lt hk)
theorem mapE_some {E : List En} {U : Nat → Value} {a : Pid} {k : Nat} (hu : ∀ j, (E.getD j en0).id = a → j < E.length → j = k) : ∀ n, n ≤ E.length → k < n → (E.getD k en0).id = a → mapE E U n a = some (env (E.getD k en0) (U k))
  | 0, _, h, _ => absurd h (Nat.not_lt_zero _)
  | n + 1, hl, hk, e => by
    unfold mapE
    by_cases hn : a = (E.getD n en0).id
    · rw [if_pos hn, hu n hn.symm (by omega)]
    · rw [if_neg hn]
      have : k ≠ n := fun h => hn (by rw [← h]; exact e.symm)
      exact mapE_some hu n (by omega) (by omega) e
/-- What is looked up in a log's book. -/
theorem mapE_look {E : List En} (hv : logB E = true) (U : Nat → Value) (a : Pid) : (∃ k, k < E.length ∧ (E.getD k en0).id = a ∧ mapE E U E.length a = some (env (E.getD k en0) (U k))) ∨ ((∀ k, k < E.length → ¬ (E.getD k en0).id = a) ∧ mapE E U E.length a = none) := by
  by_cases h : ∃ k, k < E.length ∧ (E.getD k en0).id = a
  · obtain ⟨k, hk, e⟩ := h
    exact .inl ⟨k, hk, e, mapE_some (fun j hj hl => log_inj hv hl hk (hj.trans e.symm)) _ (Nat.le_refl _) hk e⟩
  · have h' : ∀ k, k < E.length → ¬ (E.getD k en0).id = a := fun k hk e => h ⟨k, hk, e⟩
    exact .inr ⟨h', mapE_none _ h'⟩
/-- What bookOf leaves, whatever entries there are. -/
theorem ibook_any (u : Value) (E : List En) (w : World) (h : Ens w u E) :
    ∃ U, (∀ k, k < E.length → Ids w (U k) (E.getD k en0).deps) ∧ Calls Tryz.prog 36 #[u] w (BkPost E U w) := by
  obtain ⟨a, cap, rfl, h1, h2, h3⟩ := h
  rcases h3 with h3 | ⟨b, off, U, rfl, h4⟩
  · obtain rfl : E = [] := List.length_eq_zero_iff.1 h3
    exact ⟨fun _ => .slice none 0 0, fun k hk => absurd hk (Nat.not_lt_zero _), ibook_nil a cap _ w⟩
  · exact ⟨U, fun k hk => (h4.at_ k hk).ids, ibook_at b off cap E U w h2 h4⟩
end Go.Proofs.YtdikcenhakfheaaGreatDoor

/- A range over a log's book: which entries have come. -/
namespace Go.Proofs.YtdikcenhakfheaaGreatDoor
open Go.RowKit
open Go.Maps (Keyed IsMap)
set_option linter.unusedVariables false
set_option maxRecDepth 100000

/-- A range over the book of E, by the iterator r: the entries at the places V have come. -/
def BkR (w : World) (bb r : Nat) (E : List En) (U : Nat → Value) (V : List Nat) (cnt : Nat) : Prop :=
  ∃ (n : Nat) (D : DataW Value) (left : Lit → Bool), w.ranges Tryz.prog 25 Rv bb r n D left cnt ∧ (∀ a, inR a → Maps.has D (klP a) = (mapE E U E.length a).isSome ∧ ∀ v, mapE E U E.length a = some v → ∀ zd, D.atKey (klP a) zd = .held v) ∧
    (∀ kl, left kl = true → Maps.has D kl = true) ∧ (∀ k, k < E.length → left (klP (E.getD k en0).id) = !decide (k ∈ V)) ∧ ∀ k ∈ V, k < E.length
theorem BkR.left {w : World} {bb r : Nat} {E : List En} {U : Nat → Value} {V : List Nat} {cnt : Nat} (h : BkR w bb r E U V cnt) : w.rangeLeft bb r = cnt := by
  obtain ⟨_, _, _, h, _⟩ := h; exact h.left_eq
theorem BkR.kept {w w' : World} {bb r : Nat} {E : List En} {U : Nat → Value} {V : List Nat} {cnt : Nat} (h : BkR w bb r E U V cnt) (hb : Below w.heap.size w w') : BkR w' bb r E U V cnt := by
  obtain ⟨n, D, left, h1, h2⟩ := h
  exact ⟨n, D, left, h1.kept (row := none) ⟨hb.os, hb.tape, hb.output, hb.size, fun i hi _ => hb.block i hi⟩ (by simp) (by simp), h2⟩
theorem BkR.lt {w : World} {bb r : Nat} {E : List En} {U : Nat → Value} {V : List Nat} {cnt : Nat} (h : BkR w bb r E U V cnt) : r < w.heap.size ∧ bb < w.heap.size ∧ r ≠ bb := by
  obtain ⟨n, D, left, h1, h2⟩ := h
  exact ⟨h1.lt, h1.owns.lt, h1.ne⟩

theorem below_turned {w0 w w' : World} {r : Nat} (h : Below w0.heap.size w0 w) (hg : w.grownBy w' (some r)) (hr : w0.heap.size ≤ r) : Below w0.heap.size w0 w' :=
  h.trans ⟨hg.os, hg.tape, hg.output, hg.size, fun k hk => hg.block k (Nat.lt_of_lt_of_le hk h.size) (fun e => by injection e with e; omega)⟩
theorem below_fresh {w0 w w' : World} (h : Below w0.heap.size w0 w) (hg : w.grownBy w' none) : Below w0.heap.size w0 w' :=
  h.trans ⟨hg.os, hg.tape, hg.output, hg.size, fun k hk => hg.block k (Nat.lt_of_lt_of_le hk h.size) (by simp)⟩
section
variable {w : World} {ops : Array Oper} {rest : List Oper} {o : Oper} {a : Act} {Q : Exit → Act → World → Prop}
/-- 'range b'. -/
theorem bk_range {w : World} (hg : o.guard = none) (m : Operand) (t : TypeId) (hop : o.op = Op.range t m) (e : TypeId) (ht : Tryz.prog.underlying t = some (.map 25 e)) {bb : Nat} {E : List En} {U : Nat → Value} (hv : logB E = true)
    (hm : a.eval m = .map (some bb)) (h : Book w bb E.length (mapE E U E.length))
    (hK : ∀ w' cnt, BkR w' bb w.heap.size E U [] cnt → w.grownBy w' none → w'.heap.size = w.heap.size + 1 → wpList Tryz.prog ops Q rest (a.put o.dst (.pointer (some ⟨w.heap.size, 0, none⟩))) w') :
    wpList Tryz.prog ops Q (o :: rest) a w := by
  obtain ⟨D, h1, h2⟩ := h
  refine wpList_range_own w hg m t hop 25 e id_law ht Rv bb _ D hm h1 fun w' r1 r2 r3 => hK w' _ ⟨_, D, _, r1, h2, fun _ x => x, fun k hk => ?_, fun _ h => nomatch h⟩ r2 r3
  rw [(h2 _ (inR_ok (log_num hv hk))).1, mapE_some (fun j hj hl => log_inj hv hl hk hj) _ (Nat.le_refl _) hk rfl]
  rfl
/-- The loop's step. -/
theorem bk_next {w : World} (hg : o.guard = none) (it : Operand) (hop : o.op = Op.next it false) {bb r : Nat} {E : List En} {U : Nat → Value} (hv : logB E = true) {V : List Nat} {cnt : Nat} (hit : a.eval it = .pointer (some ⟨r, 0, none⟩)) (h : BkR w bb r E U V cnt)
    (hDone : (∀ k, k < E.length → k ∈ V) → wpList Tryz.prog ops Q rest (a.put o.dst (.tuple #[.bool false])) w)
    (hMore : ∀ (k : Nat) (w' : World) (cnt' : Nat), k < E.length → BkR w' bb r E U (V ++ [k]) cnt' → cnt' < cnt → w.grownBy w' (some r) → w'.heap.size = w.heap.size →
      (Instr.entry (.pointer (some ⟨r, 0, none⟩))).run Tryz.prog w' = .ok (.tuple #[idv2 (E.getD k en0).id, env (E.getD k en0) (U k)]) w' → wpList Tryz.prog ops Q rest (a.put o.dst (.tuple #[.bool true, idv2 (E.getD k en0).id, env (E.getD k en0) (U k)])) w') :
    wpList Tryz.prog ops Q (o :: rest) a w := by
  obtain ⟨n, D, left, h1, h2, h3, h4, h5⟩ := h
  refine wpList_next_ranges (α := Pid) (β := Value) w hg it hop 25 id_law Rv idv2 id (fun key kl hk => by obtain ⟨x, e, _⟩ := key_inv hk; exact ⟨x, e⟩) (fun v y _ => ⟨v, rfl⟩) bb r n D left cnt hit h1 (fun hc hl => hDone fun k hk => ?_) fun x c kl y w' cnt' hkey hlk hRv hat hrg hlt hgr hsz hen => ?_
  · have := h4 k hk
    rw [hl] at this
    by_cases hin : k ∈ V
    · exact hin
    · simp [hin] at this
  · obtain ⟨x', ex, hx⟩ := key_inv hkey
    have exx : x = x' := by
      unfold idv2 at ex
      injection ex with ex
      have e1 := congrArg (fun x : Array Value => x[0]?) ex
      have e2 := congrArg (fun x : Array Value => x[1]?) ex
      simp at e1 e2
      exact Prod.ext e1 e2
    subst exx
    have hkl : kl = klP x := by have := key_of hx; rw [this] at hkey; injection hkey with e; exact e.symm
    subst hkl
    have hh := h3 _ hlk
    rw [(h2 x hx).1] at hh
    rcases mapE_look hv U x with ⟨k, hk, e1, e2⟩ | ⟨e1, e2⟩
    · subst e1
      have hc : c = env (E.getD k en0) (U k) := by
        have h6 := (h2 _ hx).2 _ e2 (.held c)
        rw [hat] at h6
        unfold Rv at hRv
        injection hRv with hRv
        rw [← hRv] at h6
        injection h6 with h6
      subst hc
      refine hMore k w' cnt' hk ⟨n, D, _, hrg, h2, fun kl' hl' => h3 kl' (by simp at hl'; exact hl'.1), fun j hj => ?_, fun j hj => ?_⟩ hlt hgr hsz hen
      · rw [h4 j hj]
        by_cases e : j = k
        · subst e
          rw [WideAt.sameKey_self (kl_key hx)]
          simp
        · have hne : klP (E.getD j en0).id ≠ klP (E.getD k en0).id := fun h => e (log_inj hv hj hk (kl_inj (inR_ok (log_num hv hj)) hx h))
          have hs : (klP (E.getD j en0).id).sameKey (klP (E.getD k en0).id) = false := by
            cases hs : (klP (E.getD j en0).id).sameKey (klP (E.getD k en0).id) with
            | false => rfl
            | true => exact absurd (WideAt.sameKey_eq hs) hne
          rw [hs]
          simp [e]
      · rcases List.mem_append.1 hj with hj | hj
        · exact h5 j hj
        · rw [List.mem_singleton] at hj; rw [hj]; exact hk
    · rw [e2] at hh; cases hh
end
end Go.Proofs.YtdikcenhakfheaaGreatDoor

/- The program's clashes: a range over the book. -/
namespace Go.Proofs.YtdikcenhakfheaaGreatDoor
open Go.RowKit
set_option linter.unusedVariables false

theorem cl_res (tm : Array Value) (w : World) (b : Nat) (g : Nat → Nat) (n : Int) (h2 : tm[6]? = some (.pointer (some ⟨b, 0, none⟩))) (h3 : tm[7]? = some (.int .i64 n)) (h : Set5 w b g) :
    (results Tryz.f53 tm).run Tryz.prog w = .ok (.tuple #[setV g, .int .i64 n]) w := by
  obtain ⟨t0, t1, t2, t3, t4⟩ := h.five
  simp [results, Tryz.results53, go_sem, setV, h2, h3, t0, t1, t2, t3, t4]
/-- A book is ranged over, another block is turned. -/
theorem BkR.own {w : World} {bb r : Nat} {E : List En} {U : Nat → Value} {V : List Nat} {cnt : Nat} (h : BkR w bb r E U V cnt) {b : Nat} (hb : b ≠ bb) (hr : b ≠ r) (o : Nat) (u : Value) : BkR (w.setCell ⟨b, o, none⟩ u) bb r E U V cnt := by
  obtain ⟨n, D, left, h1, h2⟩ := h
  refine ⟨n, D, left, h1.kept (row := some b) ⟨rfl, rfl, rfl, by simp, fun i _ hne => heap_setCell_other _ _ _ _ (fun e => hne (by rw [e]))⟩ (fun e => hb (by injection e with e; exact e.symm)) (fun e => hr (by injection e with e; exact e.symm)), h2⟩
/-- The ids of the entries that have come and count. -/
def cameL (E : List En) (a : Pid) (k key : Int) (V : List Nat) : List Pid := (V.filter fun j => clsF a k key (E.getD j en0)).map fun j => (E.getD j en0).id
theorem came_app (E : List En) (a : Pid) (k key : Int) (V : List Nat) (j : Nat) : cameL E a k key (V ++ [j]) = cameL E a k key V ++ (if clsF a k key (E.getD j en0) = true then [(E.getD j en0).id] else []) := by
  unfold cameL
  rw [List.filter_append, List.map_append]
  congr 1
  cases h : clsF a k key (E.getD j en0)
  · rw [List.filter_cons_of_neg (p := fun j => clsF a k key (E.getD j en0)) (show ¬ clsF a k key (E.getD j en0) = true by rw [h]; exact Bool.false_ne_true), if_neg Bool.false_ne_true]; rfl
  · rw [List.filter_cons_of_pos (p := fun j => clsF a k key (E.getD j en0)) (show clsF a k key (E.getD j en0) = true from h), if_pos rfl]; rfl
theorem came_ok {E : List En} (hv : logB E = true) (a : Pid) (k key : Int) (V : List Nat) (hV : ∀ j ∈ V, j < E.length) : (cameL E a k key V).all okP = true := by
  rw [List.all_eq_true]
  intro x hx
  unfold cameL at hx
  rw [List.mem_map] at hx
  obtain ⟨j, hj, rfl⟩ := hx
  exact log_num hv (hV j (List.mem_filter.1 hj).1)
theorem cls_ok {E : List En} (hv : logB E = true) (a : Pid) (k key : Int) : (idsE (clsE E a k key)).all okP = true := by
  rw [List.all_eq_true]
  intro x hx
  obtain ⟨z, hz, rfl⟩ := List.mem_map.1 hx
  obtain ⟨j, hj, rfl⟩ := mem_enD (List.mem_filter.1 hz).1
  exact log_num hv hj
theorem cls_srt {E : List En} (hv : logB E = true) (a : Pid) (k key : Int) : srtB (idsE (clsE E a k key)) = true := srt_to (cls_len hv a k key) (cls_ok hv a k key) (clsE_asc (log_of hv).2.2 a k key)
theorem mask_ext {L M : List Pid} (h1 : L.all okP = true) (h2 : M.all okP = true) (h : ∀ x, x ∈ L ↔ x ∈ M) : mask L = mask M := by
  funext r
  refine Nat.eq_of_testBit_eq fun n => ?_
  rw [Bool.eq_iff_iff, mask_bit h1, mask_bit h2]
  exact h _
theorem came_all {E : List En} (hv : logB E = true) (a : Pid) (k key : Int) (V : List Nat) (hV : ∀ j ∈ V, j < E.length) (hA : ∀ j, j < E.length → j ∈ V) : mask (cameL E a k key V) = mask (idsE (clsE E a k key)) := by
  refine mask_ext (came_ok hv a k key V hV) (cls_ok hv a k key) fun x => ?_
  unfold cameL
  rw [List.mem_map]
  constructor
  · rintro ⟨j, hj, rfl⟩
    obtain ⟨h1, h2⟩ := List.mem_filter.1 hj
    exact List.mem_map.2 ⟨_, List.mem_filter.2 ⟨enD_mem (hV j h1), h2⟩, rfl⟩
  · intro hx
    obtain ⟨z, hz, rfl⟩ := List.mem_map.1 hx
    obtain ⟨h1, h2⟩ := List.mem_filter.1 hz
    obtain ⟨j, hj, rfl⟩ := mem_enD h1
    exact ⟨j, List.mem_filter.2 ⟨hA j hj, h2⟩, rfl⟩
theorem BkR.lts {w : World} {bb r : Nat} {E : List En} {U : Nat → Value} {V : List Nat} {cnt : Nat} (h : BkR w bb r E U V cnt) : ∀ j ∈ V, j < E.length := by obtain ⟨_, _, _, _, _, _, _, h⟩ := h; exact h

theorem log_cmd {E : List En} (h : logB E = true) {k : Nat} (hk : k < E.length) : cvB (E.getD k en0).k (E.getD k en0).key (E.getD k en0).v = true := by
  have := (log_of h).2.1 _ (enD_mem hk)
  simp only [enB, Bool.and_eq_true] at this
  exact this.2.2.2

/-- Where clashes is. -/
structure PtC (w wr : World) (x y ck ckey cv : Int) (f : Nat → Nat) : Prop where
  ia : wr.heap[w.heap.size]? = some (.cells #[.int .i64 x, .int .i64 y] 25 (0, 0))
  ic : wr.heap[w.heap.size + 1]? = some (.cells #[.int .i64 ck, .int .i64 ckey, .int .i64 cv] 27 (0, 0))
  re : Set5 wr (w.heap.size + 1 + 1) fun _ => 0
  se : Set5 wr (w.heap.size + 1 + 1 + 1) f
  kp : Below w.heap.size w wr
section
variable {w wr w' : World} {x y ck ckey cv : Int} {f : Nat → Nat}
theorem PtC.sz (h : PtC w wr x y ck ckey cv f) : w.heap.size + 1 + 1 + 1 < wr.heap.size := h.se.lt
theorem PtC.up (h : PtC w wr x y ck ckey cv f) (hb : Below wr.heap.size wr w') : PtC w w' x y ck ckey cv f := by
  have := h.sz
  exact ⟨(hb.block _ (by omega)).trans h.ia, (hb.block _ (by omega)).trans h.ic, h.re.up hb (by omega), h.se.up hb (by omega), bstep h.kp hb⟩
theorem PtC.turned (h : PtC w wr x y ck ckey cv f) {r : Nat} (hg : wr.grownBy w' (some r)) (hr : w.heap.size + 1 + 1 + 1 < r) : PtC w w' x y ck ckey cv f := by
  have hs := h.sz
  have k : ∀ b, b < w.heap.size + 4 → w'.heap[b]? = wr.heap[b]? := fun b hb => hg.block b (by omega) (fun e => by injection e with e; omega)
  exact ⟨(k _ (by omega)).trans h.ia, (k _ (by omega)).trans h.ic, (k _ (by omega)).trans h.re, (k _ (by omega)).trans h.se, below_turned h.kp hg (by omega)⟩
theorem PtC.put (h : PtC w wr x y ck ckey cv f) {g : Nat → Nat} {r v : Nat} (hr : r < 5) (h1 : g r = v) (h2 : ∀ i, i < 5 → i ≠ r → g i = f i) : PtC w (wr.setCell ⟨w.heap.size + 1 + 1 + 1, r, none⟩ (.int .u64 v)) x y ck ckey cv g := by
  have oth : ∀ b, b ≠ w.heap.size + 1 + 1 + 1 → (wr.setCell ⟨w.heap.size + 1 + 1 + 1, r, none⟩ (.int .u64 v)).heap[b]? = wr.heap[b]? := fun b hb => heap_setCell_other _ _ _ _ hb
  exact ⟨(oth _ (by omega)).trans h.ia, (oth _ (by omega)).trans h.ic, (oth _ (by omega)).trans h.re, h.se.put hr h1 h2, h.kp.setCell (p := ⟨w.heap.size + 1 + 1 + 1, r, none⟩) (by show w.heap.size ≤ w.heap.size + 1 + 1 + 1; omega) _⟩
end

set_option maxRecDepth 100000 in
set_option maxHeartbeats 16000000 in
theorem icl_gen (bb : Nat) (E : List En) (U : Nat → Value) (x y ck ckey cv ek eky : Int) (w : World) (hv : logB E = true) (hcv : ∀ k key v, cvB k key v = true → clB k key v ck ckey cv = kcB k key ek eky) (h : Book w bb E.length (mapE E U E.length)) (hU : ∀ k, k < E.length → ∃ a n c, U k = .slice a n c) :
    Calls Tryz.prog 53 #[.map (some bb), .agg #[.int .i64 x, .int .i64 y], .agg #[.int .i64 ck, .int .i64 ckey, .int .i64 cv]] w fun e w' => e = .returned (.tuple #[setV (mask (idsE (clsE E (x, y) ek eky))), .int .i64 (topE (clsE E (x, y) ek eky))]) ∧ Below w.heap.size w w' := by
  have hbb := h.lt
  have B0 := (((((Below.refl w.heap.size w).alloc (Nat.le_refl _) (.cells #[.int .i64 x, .int .i64 y] 25)).alloc (by simp) (.cells #[.int .i64 ck, .int .i64 ckey, .int .i64 cv] 27)).alloc (by simp; omega) (.cells #[.int .u64 0, .int .u64 0, .int .u64 0, .int .u64 0, .int .u64 0] 74)).alloc (by simp; omega) (.cells #[.int .u64 0, .int .u64 0, .int .u64 0, .int .u64 0, .int .u64 0] 74))
  have P0 : Hid (PtC w ((((w.alloc (.cells #[.int .i64 x, .int .i64 y] 25)).alloc (.cells #[.int .i64 ck, .int .i64 ckey, .int .i64 cv] 27)).alloc (.cells #[.int .u64 0, .int .u64 0, .int .u64 0, .int .u64 0, .int .u64 0] 74)).alloc (.cells #[.int .u64 0, .int .u64 0, .int .u64 0, .int .u64 0, .int .u64 0] 74)) x y ck ckey cv fun _ => 0) := Lib.hid
    ⟨(Below.heap_alloc _ _ _ (by first | (simp; done) | (simp; omega))).trans ((Below.heap_alloc _ _ _ (by first | (simp; done) | (simp; omega))).trans ((Below.heap_alloc _ _ _ (by simp)).trans (heap_alloc_new w _))), (Below.heap_alloc _ _ _ (by first | (simp; done) | (simp; omega))).trans ((Below.heap_alloc _ _ _ (by simp)).trans (heap_alloc_at _ _ _ (by simp))), (Below.heap_alloc _ _ _ (by simp)).trans (heap_alloc_at _ _ _ (by simp)), heap_alloc_at _ _ _ (by simp), B0⟩
  have hB := Lib.hid (h.up B0 hbb)
  have hv := Lib.hid hv
  have hcv := Lib.hid hcv
  have hU := Lib.hid hU
  rw [topE_cls]
  clear h B0
  go_enter Tryz.func53, Tryz.ntmps53
  go_wp2_with (at_range; refine bk_range rfl _ 69 rfl _ Tryz.underlying69 hv.out rfl hB.out ?_; intro w0 cnt0 hr0 hg0 hs0)
  go_frame
  have P1 := Lib.hid (PtC.up P0.out ⟨hg0.os, hg0.tape, hg0.output, hg0.size, fun i hi => hg0.block i hi (by simp)⟩)
  have hrs : ((((w.alloc (.cells #[.int .i64 x, .int .i64 y] 25)).alloc (.cells #[.int .i64 ck, .int .i64 ckey, .int .i64 cv] 27)).alloc (.cells #[.int .u64 0, .int .u64 0, .int .u64 0, .int .u64 0, .int .u64 0] 74)).alloc (.cells #[.int .u64 0, .int .u64 0, .int .u64 0, .int .u64 0, .int .u64 0] 74)).heap.size = w.heap.size + 4 := by simp
  rw [hrs] at hr0
  have hr0 := Lib.hid hr0
  try rw [hrs]
  clear hg0 hs0 P0 hB hrs
  go_loopw [9] (fun g wr => ∃ (V : List Nat) (cnt : Nat) (gi : Int), g = .int .i64 gi ∧ 0 ≤ gi ∧ gi ≤ 99 ∧ Hid (BkR wr bb (w.heap.size + 4) E U V cnt) ∧ Hid (TopP E (fun j => j ∈ V) (clsF (x, y) ek eky) (fun z => z.seq) gi) ∧ Hid (PtC w wr x y ck ckey cv (mask (cameL E (x, y) ek eky V)))) (fun _ wr => wr.rangeLeft bb (w.heap.size + 4))
  case atStart => exact ⟨[], cnt0, 0, rfl, by omega, by omega, hr0, Lib.hid (TopP.start E _ (fun k hk => by simp at hk) _ _), P1⟩
  case round =>
    clear hr0 P1
    obtain ⟨V, cnt, gi, rfl, hg0, hg99, hBk, hT, hP⟩ := hrel
    go_wp2_with (at_next; refine bk_next rfl _ rfl hv.out rfl hBk.out ?_ ?_)
    · intro hall
      have e := Lib.hid (hT.out.done hall)
      have hse := hP.out.se
      rw [came_all hv.out (x, y) ek eky V hBk.out.lts hall] at hse
      obtain ⟨g, hgg⟩ : ∃ g, Hid (mask (idsE (clsE E (x, y) ek eky)) = g) := ⟨_, Lib.hid rfl⟩
      rw [hgg.out] at hse
      obtain ⟨s0, s1, s2, s3, s4⟩ := hse.five
      have hsl := hse.lt
      have hre := Lib.hid hP.out.re
      obtain ⟨r0, r1, r2, r3, r4⟩ := hre.out.five
      have f0 := hre.out.free 0
      have f1 := hre.out.free 1
      have f2 := hre.out.free 2
      have f3 := hre.out.free 3
      have f4 := hre.out.free 4
      have hrl := hre.out.lt
      have hfin := Lib.hid (hre.out.fill g)
      have hK := Lib.hid hP.out.kp
      clear hBk hT hse hP
      go_wp2_with fail
      refine bodyPost_ret (cl_res _ _ _ g _ rfl rfl hfin.out) rfl ⟨?_, ?_⟩
      · rw [hgg.out, ← e.out]
      · exact ((((hK.out.setCell (p := ⟨w.heap.size + 1 + 1, 0, none⟩) (by show w.heap.size ≤ w.heap.size + 1 + 1; omega) _).setCell (p := ⟨w.heap.size + 1 + 1, 1, none⟩) (by show w.heap.size ≤ w.heap.size + 1 + 1; omega) _).setCell (p := ⟨w.heap.size + 1 + 1, 2, none⟩) (by show w.heap.size ≤ w.heap.size + 1 + 1; omega) _).setCell (p := ⟨w.heap.size + 1 + 1, 3, none⟩) (by show w.heap.size ≤ w.heap.size + 1 + 1; omega) _).setCell (p := ⟨w.heap.size + 1 + 1, 4, none⟩) (by show w.heap.size ≤ w.heap.size + 1 + 1; omega) _
    · intro k w1 cnt1 hk hBk1 hlt hg1 hs1 hen
      obtain ⟨ua, un, uc, hu⟩ := hU.out k hk
      have hnum := log_num hv.out hk
      have hrk := log_rank hv.out hk
      have hcB := log_cmd hv.out hk
      have hP1 := Lib.hid (hP.out.turned hg1 (by omega))
      have hl := hBk.out.left
      have hok := came_ok hv.out (x, y) ek eky V hBk.out.lts
      have hBk1 := Lib.hid hBk1
      have Th := Lib.hid (fun hf => hT.out.hit (S' := fun j => j ∈ V ++ [k]) hk (fun j => by simp) hf)
      have Tm := Lib.hid (fun hf => hT.out.miss (S' := fun j => j ∈ V ++ [k]) (k := k) (fun j => by simp) hf)
      have Ca := Lib.hid (came_app E (x, y) ek eky V k)
      simp only [← List.getD_eq_getElem?_getD] at hen ⊢
      obtain ⟨z, hz⟩ : ∃ z, Hid (E.getD k en0 = z) := ⟨_, Lib.hid rfl⟩
      rw [hz.out, hu] at hen ⊢
      rw [hz.out] at hnum Th Tm Ca hrk hcB
      obtain ⟨⟨p, r⟩, bal, st, k1, key1, cv1, s, L⟩ := z
      have hnum : 0 ≤ p ∧ p ≤ 4 ∧ 1 ≤ r ∧ r ≤ 50 := by simpa [okP, idB] using hnum
      dsimp only [idv2, env] at hen Th Tm Ca hrk hcB ⊢
      clear hT hBk hg1 hP hs1
      have BA := ((Below.refl w1.heap.size w1).alloc (Nat.le_refl _) (.cells #[.int .i64 p, .int .i64 r] 25)).alloc (by simp) (.cells #[.int .i64 p, .int .i64 r, .int .i64 bal, .int .i64 st, .int .i64 k1, .int .i64 key1, .int .i64 cv1, .int .i64 s, .slice ua un uc] 30)
      have KA : ((w1.alloc (.cells #[.int .i64 p, .int .i64 r] 25)).alloc (.cells #[.int .i64 p, .int .i64 r, .int .i64 bal, .int .i64 st, .int .i64 k1, .int .i64 key1, .int .i64 cv1, .int .i64 s, .slice ua un uc] 30)).heap[w1.heap.size]? = some (.cells #[.int .i64 p, .int .i64 r] 25 (0, 0)) := (Below.heap_alloc _ _ _ (by simp)).trans (heap_alloc_new w1 _)
      have EA : ((w1.alloc (.cells #[.int .i64 p, .int .i64 r] 25)).alloc (.cells #[.int .i64 p, .int .i64 r, .int .i64 bal, .int .i64 st, .int .i64 k1, .int .i64 key1, .int .i64 cv1, .int .i64 s, .slice ua un uc] 30)).heap[w1.heap.size + 1]? = some (.cells #[.int .i64 p, .int .i64 r, .int .i64 bal, .int .i64 st, .int .i64 k1, .int .i64 key1, .int .i64 cv1, .int .i64 s, .slice ua un uc] 30 (0, 0)) := heap_alloc_at _ _ _ (by simp)
      have hBk2 := Lib.hid (hBk1.out.kept BA)
      have P2 := Lib.hid (hP1.out.up BA)
      have hxs := P2.out.sz
      have hxw : w.heap.size + 4 < w1.heap.size := hBk1.out.lt.1
      have KA := Lib.hid KA
      have EA := Lib.hid EA
      clear BA hP1 hBk1 hu
      go_upto_region 6 with fail
      obtain ⟨xb, hxb⟩ : ∃ c, Hid (w1.heap.size = c) := ⟨_, Lib.hid rfl⟩
      rw [hxb.out] at KA EA hxw ⊢
      generalize (w1.alloc (.cells #[.int .i64 p, .int .i64 r] 25)).alloc (.cells #[.int .i64 p, .int .i64 r, .int .i64 bal, .int .i64 st, .int .i64 k1, .int .i64 key1, .int .i64 cv1, .int .i64 s, .slice ua un uc] 30) = W at KA EA hBk2 P2 hxs ⊢
      clear hen hxb
      have cl := fun W => iclash_any k1 key1 cv1 ck ckey cv W
      rw [hcv.out k1 key1 cv1 hcB] at cl
      obtain ⟨x0, x1, _, _⟩ := blk2 P2.out.ia
      obtain ⟨y0, y1, y2, _, _, _⟩ := blk3 P2.out.ic
      have hil := lt_of_heap P2.out.ia
      have hcl := lt_of_heap P2.out.ic
      obtain ⟨k0, k1', _, _⟩ := blk2 KA.out
      have hkl := lt_of_heap KA.out
      obtain ⟨e0, e1, e2, e3, e4, e5, e6, e7, e8⟩ := nine_cells EA.out
      have hel := lt_of_heap EA.out
      by_cases hne : (p, r) = (x, y)
      · have hF : clsF (x, y) ek eky ⟨(p, r), bal, st, k1, key1, cv1, s, L⟩ = false := clsF_no (fun h => h.1 hne)
        have T := Lib.hid (Tm.out hF)
        have hm2 : Hid (cameL E (x, y) ek eky (V ++ [k]) = cameL E (x, y) ek eky V) := Lib.hid (by rw [Ca.out, hF, if_neg Bool.false_ne_true, List.append_nil])
        have P3 : Hid (PtC w W x y ck ckey cv (mask (cameL E (x, y) ek eky (V ++ [k])))) := Lib.hid (by rw [hm2.out]; exact P2.out)
        clear Ca Tm Th hF hm2 P2 cl hz
        obtain ⟨rfl, rfl⟩ : p = x ∧ r = y := by simpa using hne
        go_wp2_with fail
        go_roundw
        case rel => exact ⟨_, cnt1, gi, rfl, hg0, hg99, hBk2, T, P3⟩
        case measure => rw [hBk2.out.left, hl]; omega
      · go_cut [27] from 19 to 26 (fun b wx => b = .bool (kcB k1 key1 ek eky) ∧ Hid (Below W.heap.size W wx))
        case first =>
          rcases pid_ne2 hne with hne1 | ⟨hne0, hne1⟩
          · dsimp only at hne1
            go_wp2_with fail
            refine (cl _).mono ?_
            rintro e w2 ⟨rfl, B⟩
            have B := Lib.hid B
            go_wp2_with fail
            go_meet
            exact ⟨rfl, B⟩
          · dsimp only at hne0 hne1
            subst hne0
            go_wp2_with fail
            refine (cl _).mono ?_
            rintro e w2 ⟨rfl, B⟩
            have B := Lib.hid B
            go_wp2_with fail
            go_meet
            exact ⟨rfl, B⟩
        case rest =>
          obtain ⟨rfl, B⟩ := hcut
          replace hBk2 := Lib.hid (hBk2.out.kept B.out)
          replace P2 := Lib.hid (P2.out.up B.out)
          replace KA := Lib.hid (bblk B.out hkl KA.out)
          replace EA := Lib.hid (bblk B.out hel EA.out)
          clear x0 x1 y0 y1 y2 hil hcl k0 k1' hkl e0 e1 e2 e3 e4 e5 e6 e7 e8 hel cl B
          obtain ⟨k0, k1', _, _⟩ := blk2 KA.out
          have hkl := lt_of_heap KA.out
          have hel := lt_of_heap EA.out
          cases hc : kcB k1 key1 ek eky with
          | false =>
            have hF : clsF (x, y) ek eky ⟨(p, r), bal, st, k1, key1, cv1, s, L⟩ = false := clsF_no (fun h => by have := h.2; dsimp only at this; rw [hc] at this; cases this)
            have T := Lib.hid (Tm.out hF)
            have hm2 : Hid (cameL E (x, y) ek eky (V ++ [k]) = cameL E (x, y) ek eky V) := Lib.hid (by rw [Ca.out, hF, if_neg Bool.false_ne_true, List.append_nil])
            have P3 : Hid (PtC w wc x y ck ckey cv (mask (cameL E (x, y) ek eky (V ++ [k])))) := Lib.hid (by rw [hm2.out]; exact P2.out)
            clear Ca Tm Th hF hm2 P2 hz
            go_wp2_with fail
            go_roundw
            case rel => exact ⟨_, cnt1, gi, rfl, hg0, hg99, hBk2, T, P3⟩
            case measure => rw [hBk2.out.left, hl]; omega
          | true =>
            have hF : clsF (x, y) ek eky ⟨(p, r), bal, st, k1, key1, cv1, s, L⟩ = true := clsF_yes hne hc
            have T := Lib.hid (Th.out hF)
            have hm2 : Hid (cameL E (x, y) ek eky (V ++ [k]) = cameL E (x, y) ek eky V ++ [(p, r)]) := Lib.hid (by rw [Ca.out, hF, if_pos rfl])
            clear Ca Tm Th hF hz
            have hmlt := mask_lt hok
            obtain ⟨pr, rfl⟩ : ∃ n : Nat, p = n := ⟨p.toNat, by omega⟩
            obtain ⟨nr, rfl⟩ : ∃ n : Nat, r = n := ⟨r.toNat, by omega⟩
            have c0 := P2.out.se.cell (r := pr) (by omega)
            have f0 := P2.out.se.free pr
            have hlt2 := hmlt pr
            obtain ⟨m, hm3⟩ : ∃ m, Hid (mask (cameL E (x, y) ek eky V) pr = m) := ⟨_, Lib.hid rfl⟩
            rw [hm3.out] at c0 hlt2
            have ad := add_at (w.heap.size + 1 + 1 + 1) 0 pr nr m
            simp only [Nat.zero_add] at ad
            clear hmlt
            go_wp2_with fail
            refine (ad _ (by omega) (by omega) P2.out.se.lt c0 f0 hlt2).mono ?_
            rintro e w9 ⟨rfl, w8, hb8, rfl⟩
            have P3 : Hid (PtC w (w8.setCell ⟨w.heap.size + 1 + 1 + 1, pr, none⟩ (.int .u64 ((m ||| 2 ^ nr : Nat) : Int))) x y ck ckey cv (mask (cameL E (x, y) ek eky (V ++ [k])))) := Lib.hid ((P2.out.up hb8).put (by omega) (by rw [hm2.out, mask_app, if_pos rfl, hm3.out]; rfl) (fun i hi hne => by rw [hm2.out, mask_app, if_neg (fun e => hne (by have : (pr : Int) = (i : Int) := e; omega))]))
            have hb3 := hBk2.out.lt
            have hBk3 := Lib.hid ((hBk2.out.kept hb8).own (b := w.heap.size + 1 + 1 + 1) (by omega) (by omega) pr (.int .u64 ((m ||| 2 ^ nr : Nat) : Int)))
            have EA3 := Lib.hid ((heap_setCell_other w8 ⟨w.heap.size + 1 + 1 + 1, pr, none⟩ (xb + 1) (.int .u64 ((m ||| 2 ^ nr : Nat) : Int)) (by show xb + 1 ≠ w.heap.size + 1 + 1 + 1; omega)).trans (bblk hb8 hel EA.out))
            generalize m ||| 2 ^ nr = yv at P3 hBk3 EA3 ⊢
            clear c0 f0 hlt2 ad P2 hBk2 KA EA k0 k1' hkl hel hm2 hm3 hb3
            generalize w8.setCell ⟨w.heap.size + 1 + 1 + 1, pr, none⟩ (.int .u64 (yv : Int)) = W3 at P3 hBk3 EA3 ⊢
            clear hb8
            obtain ⟨e0, e1, e2, e3, e4, e5, e6, e7, e8⟩ := nine_cells EA3.out
            have hel := lt_of_heap EA3.out
            by_cases hle : s ≤ gi
            · have hmax : max gi s = gi := Int.max_eq_left hle
              rw [show max gi ((fun z : En => z.seq) ⟨((pr : Int), (nr : Int)), bal, st, k1, key1, cv1, s, L⟩) = gi from hmax] at T
              have hle2 : ¬ gi < s := by omega
              go_wp2_with fail
              go_roundw
              case rel => exact ⟨_, cnt1, gi, by first | rfl | (congr 1; omega), by omega, by omega, hBk3, T, P3⟩
              case measure => rw [hBk3.out.left, hl]; omega
            · have hmax : max gi s = s := Int.max_eq_right (by omega)
              rw [show max gi ((fun z : En => z.seq) ⟨((pr : Int), (nr : Int)), bal, st, k1, key1, cv1, s, L⟩) = s from hmax] at T
              have hle2 : gi ≤ s := by omega
              have hle3 : gi < s := by omega
              go_wp2_with fail
              go_roundw
              case rel => exact ⟨_, cnt1, s, by first | rfl | (congr 1; omega), by omega, by omega, hBk3, T, P3⟩
              case measure => rw [hBk3.out.left, hl]; omega
theorem icl_book (bb : Nat) (E : List En) (U : Nat → Value) (x y ck ckey cv : Int) (w : World) (hv : logB E = true) (hcv : cvB ck ckey cv = true) (h : Book w bb E.length (mapE E U E.length)) (hU : ∀ k, k < E.length → ∃ a n c, U k = .slice a n c) :
    Calls Tryz.prog 53 #[.map (some bb), .agg #[.int .i64 x, .int .i64 y], .agg #[.int .i64 ck, .int .i64 ckey, .int .i64 cv]] w fun e w' => e = .returned (.tuple #[setV (mask (idsE (clsE E (x, y) ck ckey))), .int .i64 (topE (clsE E (x, y) ck ckey))]) ∧ Below w.heap.size w w' := icl_gen bb E U x y ck ckey cv ck ckey w hv (fun k key v h => by unfold clB; rw [h, hcv]; rfl) h hU
theorem clsE_none (E : List En) (a : Pid) (key : Int) : clsE E a 3 key = [] := by
  unfold clsE
  refine List.filter_eq_nil_iff.2 fun x _ => ?_
  simp [kcB]
/-- Of an invalid command: it clashes with nothing. -/
theorem icl_bad (bb : Nat) (E : List En) (U : Nat → Value) (x y ck ckey cv : Int) (w : World) (hv : logB E = true) (hcv : cvB ck ckey cv = false) (h : Book w bb E.length (mapE E U E.length)) (hU : ∀ k, k < E.length → ∃ a n c, U k = .slice a n c) :
    Calls Tryz.prog 53 #[.map (some bb), .agg #[.int .i64 x, .int .i64 y], .agg #[.int .i64 ck, .int .i64 ckey, .int .i64 cv]] w fun e w' => e = .returned (.tuple #[setV (mask []), .int .i64 0]) ∧ Below w.heap.size w w' := by
  have := icl_gen bb E U x y ck ckey cv 3 0 w hv (fun k key v h => by unfold clB; rw [h, hcv]; simp [kcB]) h hU
  rw [clsE_none] at this
  exact this
end Go.Proofs.YtdikcenhakfheaaGreatDoor

/- The program's rank and ids of a command, by a book. -/
namespace Go.Proofs.YtdikcenhakfheaaGreatDoor
open Go.RowKit
set_option linter.unusedVariables false

theorem at_resB (tm : Array Value) (w : World) (b : Nat) (x0 x1 x2 x3 x4 x5 : Value) (t : TypeId) (h2 : tm[6]? = some (.pointer (some ⟨b, 0, none⟩))) (h : w.heap[b]? = some (.cells #[x0, x1, x2, x3, x4, x5] t (0, 0))) :
    (results Tryz.f74 tm).run Tryz.prog w = .ok (.agg #[x0, x1, x2, x3, x4, x5]) w := by
  obtain ⟨⟨t0, t1, t2, t3, t4, t5⟩, _, _⟩ := all6 h
  simp [results, Tryz.results74, go_sem, h2, t0, t1, t2, t3, t4, t5]

set_option maxRecDepth 100000 in
set_option maxHeartbeats 4000000 in
theorem iattrs_book (bb : Nat) (E : List En) (U : Nat → Value) (x y ck ckey cv ek eky : Int) (w : World) (hv : logB E = true) (hcv : ∀ k key v, cvB k key v = true → clB k key v ck ckey cv = kcB k key ek eky) (h : Book w bb E.length (mapE E U E.length)) (hU : ∀ k, k < E.length → ∃ a n c, U k = .slice a n c) :
    Calls Tryz.prog 74 #[.map (some bb), .agg #[.int .i64 x, .int .i64 y], .agg #[.int .i64 ck, .int .i64 ckey, .int .i64 cv]] w fun e w' => e = .returned (atV (topE (clsE E (x, y) ek eky) + 1) (mask (idsE (clsE E (x, y) ek eky)))) ∧ Below w.heap.size w w' := by
  have hTT := top_rank hv (x, y) ek eky
  have ic := fun W (hb : Below w.heap.size w W) => icl_gen bb E U x y ck ckey cv ek eky W hv hcv (h.up hb h.lt) hU
  obtain ⟨t, ht⟩ : ∃ t, Hid (topE (clsE E (x, y) ek eky) = t) := ⟨_, Lib.hid rfl⟩
  obtain ⟨g, hg⟩ : ∃ t, Hid (mask (idsE (clsE E (x, y) ek eky)) = t) := ⟨_, Lib.hid rfl⟩
  rw [ht.out, hg.out] at ic
  rw [ht.out] at hTT
  rw [ht.out, hg.out]
  unfold setV at ic
  unfold atV
  clear h hU hcv
  have A0 := Lib.hid ((Below.heap_alloc _ (.cells #[.int .i64 0, .int .u64 0, .int .u64 0, .int .u64 0, .int .u64 0, .int .u64 0] 76) _ (by simp; omega)).trans ((Below.heap_alloc _ (.cells #[.int .i64 ck, .int .i64 ckey, .int .i64 cv] 27) _ (by simp)).trans (heap_alloc_new w (.cells #[.int .i64 x, .int .i64 y] 25))))
  have C0 := Lib.hid ((Below.heap_alloc _ (.cells #[.int .i64 0, .int .u64 0, .int .u64 0, .int .u64 0, .int .u64 0, .int .u64 0] 76) _ (by simp)).trans (heap_alloc_at (w.alloc (.cells #[.int .i64 x, .int .i64 y] 25)) (.cells #[.int .i64 ck, .int .i64 ckey, .int .i64 cv] 27) (w.heap.size + 1) (by simp)))
  have R0 := Lib.hid (heap_alloc_at ((w.alloc (.cells #[.int .i64 x, .int .i64 y] 25)).alloc (.cells #[.int .i64 ck, .int .i64 ckey, .int .i64 cv] 27)) (.cells #[.int .i64 0, .int .u64 0, .int .u64 0, .int .u64 0, .int .u64 0, .int .u64 0] 76) (w.heap.size + 2) (by simp))
  have D0 := Lib.hid ((((Below.refl w.heap.size w).alloc (Nat.le_refl _) (.cells #[.int .i64 x, .int .i64 y] 25)).alloc (by simp) (.cells #[.int .i64 ck, .int .i64 ckey, .int .i64 cv] 27)).alloc (by simp; omega) (.cells #[.int .i64 0, .int .u64 0, .int .u64 0, .int .u64 0, .int .u64 0, .int .u64 0] 76))
  go_enter Tryz.func74, Tryz.ntmps74
  go_upto_region 1 with fail
  generalize (((w.alloc (.cells #[.int .i64 x, .int .i64 y] 25)).alloc (.cells #[.int .i64 ck, .int .i64 ckey, .int .i64 cv] 27)).alloc (.cells #[.int .i64 0, .int .u64 0, .int .u64 0, .int .u64 0, .int .u64 0, .int .u64 0] 76)) = w1 at A0 C0 R0 D0 ⊢
  obtain ⟨a0, a1, _, _⟩ := blk2 A0.out
  obtain ⟨b0, b1, b2, _, _, _⟩ := blk3 C0.out
  have hrl := lt_of_heap R0.out
  go_wp2_with fail
  refine (ic _ D0.out).mono ?_
  rintro e w4 ⟨rfl, B⟩
  have R1 := Lib.hid (bblk B hrl R0.out)
  have D1 := Lib.hid (bstep D0.out B)
  have BA := (Below.refl w4.heap.size w4).alloc (Nat.le_refl _) (.cells #[.int .u64 (g 0), .int .u64 (g 1), .int .u64 (g 2), .int .u64 (g 3), .int .u64 (g 4)] 74)
  have S5 : Set5 (w4.alloc (.cells #[.int .u64 (g 0), .int .u64 (g 1), .int .u64 (g 2), .int .u64 (g 3), .int .u64 (g 4)] 74)) w4.heap.size g := heap_alloc_new w4 _
  replace R1 := Lib.hid (bblk BA (lt_of_heap R1.out) R1.out)
  replace D1 := Lib.hid (bstep D1.out BA)
  have S5 := Lib.hid S5
  clear BA B ic a0 a1 b0 b1 b2 A0 C0 R0 D0 hrl
  go_upto_region 2 with fail
  obtain ⟨sb, hsb⟩ : ∃ c, Hid (w4.heap.size = c) := ⟨_, Lib.hid rfl⟩
  rw [hsb.out] at S5 ⊢
  generalize w4.alloc (.cells #[.int .u64 (g 0), .int .u64 (g 1), .int .u64 (g 2), .int .u64 (g 3), .int .u64 (g 4)] 74) = W4 at S5 R1 D1 ⊢
  obtain ⟨s0, s1, s2, s3, s4⟩ := S5.out.five
  have hsl := S5.out.lt
  obtain ⟨⟨z0, z1, z2, z3, z4, z5⟩, fz, hzl⟩ := all6 R1.out
  have f0 := fz 0; have f1 := fz 1; have f2 := fz 2; have f3 := fz 3; have f4 := fz 4; have f5 := fz 5
  clear hsb fz
  go_wp2_with fail
  refine bodyPost_ret (at_resB _ _ _ _ _ _ _ _ _ _ rfl (put6_at _ _ _ _ _ _ R1.out)) rfl ⟨rfl, D1.out.trans (put6_below _ _ _ _ _ _ (by omega))⟩
end Go.Proofs.YtdikcenhakfheaaGreatDoor

/- What Propose and PreAccept answer: plain facts. -/
namespace Go.Proofs.YtdikcenhakfheaaGreatDoor
set_option linter.unusedVariables false

/-- Whether a log takes an entry with an id and a ballot. -/
def admB (E : List En) (a : Pid) (bal : Int) : Bool := !(lfindR E a).2 || ((lfindR E a).1.st == 1 && decide ((lfindR E a).1.bal ≤ bal))
/-- What is left when an entry is put, or fails. -/
def PpR (E : List En) (Y : En) : List En × En × Bool := if enB Y = true ∧ (putE Y E).length ≤ 12 then (putE Y E, Y, true) else ([], en0, false)
theorem ppR_bad {E : List En} {Y : En} (h : enB Y = false) : PpR E Y = ([], en0, false) := by unfold PpR; rw [h, if_neg (by simp)]
theorem ppR_long {E : List En} {Y : En} (h : ¬ (putE Y E).length ≤ 12) : PpR E Y = ([], en0, false) := by unfold PpR; rw [if_neg (fun x => h x.2)]
theorem ppR_good {E : List En} {Y : En} (h1 : enB Y = true) (h2 : (putE Y E).length ≤ 12) : PpR E Y = (putE Y E, Y, true) := by unfold PpR; rw [if_pos ⟨h1, h2⟩]
/-- The entry that is proposed. -/
def proE (E : List En) (p k key v : Int) : En :=
  ⟨(p, topF (ofR p) (fun x => x.id.2) E + 1), 0, 1, k, key, v, topE (clsE E (p, topF (ofR p) (fun x => x.id.2) E + 1) k key) + 1, idsE (clsE E (p, topF (ofR p) (fun x => x.id.2) E + 1) k key)⟩
/-- What Propose answers. -/
def propR (E : List En) (p k key v : Int) : List En × En × Bool := if logB E = true then PpR E (proE E p k key v) else ([], en0, false)
/-- The entry that PreAccept makes of one. -/
def preE (E : List En) (X : En) : En :=
  { X with seq := max X.seq (topE (clsE E X.id X.k X.key) + 1), deps := joinP X.deps (idsE (clsE E X.id X.k X.key)) }
/-- What PreAccept answers. -/
def preR (E : List En) (X : En) : List En × En × Bool := if logB E = true ∧ enB X = true ∧ X.st = 1 ∧ admB E X.id X.bal = true then PpR E (preE E X) else ([], en0, false)
theorem preR_bad {E : List En} {X : En} (h : ¬ (logB E = true ∧ enB X = true ∧ X.st = 1 ∧ admB E X.id X.bal = true)) : preR E X = ([], en0, false) := if_neg h
theorem enB_of {X : En} (h : enB X = true) : okP X.id = true ∧ (1 ≤ X.seq ∧ X.seq ≤ 99) ∧ srtB X.deps = true ∧ hasP X.deps X.id = false ∧ (0 ≤ X.bal ∧ X.bal ≤ 999) ∧ (1 ≤ X.st ∧ X.st ≤ 3) ∧ cvB X.k X.key X.v = true := by
  simp only [enB, ndB, En.nd, Bool.and_eq_true, decide_eq_true_eq, Bool.not_eq_true'] at h
  exact ⟨h.1.1, of_decide_eq_true h.1.2.1, h.1.2.2.1, h.1.2.2.2, by simpa using h.2.1, by simpa using h.2.2.1, h.2.2.2⟩
theorem enB_to {X : En} (h1 : okP X.id = true) (h2 : 1 ≤ X.seq ∧ X.seq ≤ 99) (h3 : srtB X.deps = true) (h4 : hasP X.deps X.id = false) (h5 : 0 ≤ X.bal ∧ X.bal ≤ 999) (h6 : 1 ≤ X.st ∧ X.st ≤ 3) (h7 : cvB X.k X.key X.v = true) : enB X = true := by
  simp only [enB, ndB, En.nd, Bool.and_eq_true, decide_eq_true_eq, Bool.not_eq_true']
  exact ⟨⟨h1, decide_eq_true h2, h3, h4⟩, by simpa using h5, by simpa using h6, h7⟩
theorem cls_id {E : List En} {a : Pid} {k key : Int} : ¬ a ∈ idsE (clsE E a k key) := fun h => by
  obtain ⟨x, hx, e⟩ := List.mem_map.1 h
  have := (List.mem_filter.1 hx).2
  rw [e] at this
  simp at this
theorem hasP_iff {C : List Pid} {a : Pid} : hasP C a = true ↔ a ∈ C := by
  unfold hasP
  simp
theorem hasP_no {C : List Pid} {a : Pid} (h : ¬ a ∈ C) : hasP C a = false := by
  cases e : hasP C a with
  | false => rfl
  | true => exact absurd (hasP_iff.1 e) h
theorem joinF_zero (g : Nat → Nat) : joinF (fun _ => 0) g = g := by funext r; simp [joinF]
theorem new_id {E : List En} (p : Int) : ¬ (p, topF (ofR p) (fun x => x.id.2) E + 1) ∈ idsE E := fun h => by
  obtain ⟨x, hx, e⟩ := List.mem_map.1 h
  have := topF_le (f := ofR p) (v := fun x => x.id.2) hx (by unfold ofR; rw [e]; simp)
  rw [e] at this
  dsimp only at this
  omega
end Go.Proofs.YtdikcenhakfheaaGreatDoor

/- A log's book, and what it is when an entry was put. -/
namespace Go.Proofs.YtdikcenhakfheaaGreatDoor
open Go.RowKit
set_option linter.unusedVariables false
set_option maxRecDepth 100000

theorem asc_nd {A : List Pid} (h : Asc A) : A.Nodup := List.Pairwise.imp (fun {a b} hab e => by subst e; rw [ltP_irr] at hab; cases hab) h
theorem mem_idsP {e : En} {E : List En} (a : Pid) : a ∈ idsE (putE e E) ↔ a = e.id ∨ a ∈ idsE E := by
  unfold idsE
  simp only [List.mem_map, mem_putE]
  constructor
  · rintro ⟨x, rfl | ⟨h1, h2⟩, rfl⟩
    · exact .inl rfl
    · exact .inr ⟨x, h1, rfl⟩
  · rintro (rfl | ⟨x, h1, rfl⟩)
    · exact ⟨e, .inl rfl, rfl⟩
    · by_cases h2 : x.id = e.id
      · exact ⟨e, .inl rfl, h2.symm⟩
      · exact ⟨x, .inr ⟨h1, h2⟩, rfl⟩
/-- A book of entries. -/
structure BkE (w : World) (bb nn : Nat) (M : Pid → Option Value) (R : List En) : Prop where
  book : Book w bb nn M
  keys : KeysOf M (idsE R)
  asc : Asc (idsE R)
  look : ∀ k, k < R.length → ∃ u, M (R.getD k en0).id = some (env (R.getD k en0) u) ∧ Ids w u (R.getD k en0).deps
theorem BkE.up {w w' : World} {bb nn : Nat} {M : Pid → Option Value} {R : List En} (h : BkE w bb nn M R) (hb : Below w.heap.size w w') : BkE w' bb nn M R :=
  ⟨h.book.up hb h.book.lt, h.keys, h.asc, fun k hk => by obtain ⟨u, h1, h2⟩ := h.look k hk; exact ⟨u, h1, h2.up hb (Nat.le_refl _)⟩⟩
theorem bkE_log {w : World} {bb : Nat} {E : List En} {U : Nat → Value} (hv : logB E = true) (hB : Book w bb E.length (mapE E U E.length)) (hU : ∀ k, k < E.length → Ids w (U k) (E.getD k en0).deps) : BkE w bb E.length (mapE E U E.length) E := by
  refine ⟨hB, ⟨asc_nd (log_of hv).2.2, fun a ha => ?_, fun a ha => ?_⟩, (log_of hv).2.2, fun k hk => ⟨U k, mapE_some (fun j hj hl => log_inj hv hl hk hj) _ (Nat.le_refl _) hk rfl, hU k hk⟩⟩
  · obtain ⟨k, hk, rfl⟩ := mem_idsE.1 ha
    exact inR_ok (log_num hv hk)
  · rcases mapE_look hv U a with ⟨k, hk, e1, e2⟩ | ⟨e1, e2⟩
    · rw [e2]
      exact ⟨fun _ => mem_idsE.2 ⟨k, hk, e1⟩, fun _ => rfl⟩
    · rw [e2]
      refine ⟨fun h => (by cases h), fun h => ?_⟩
      obtain ⟨k, hk, e⟩ := mem_idsE.1 h
      exact absurd e (e1 k hk)
theorem Ids.turned {w w' : World} {bb n : Nat} {M : Pid → Option Value} {u : Value} {C : List Pid} (h : Ids w u C) (hB : Book w bb n M) (hg : w.grownBy w' (some bb)) : Ids w' u C := by
  obtain ⟨a, cap, rfl, h1, h2, h3⟩ := h
  refine ⟨a, cap, rfl, h1, h2, ?_⟩
  by_cases h0 : C.length = 0
  · exact .inl h0
  rcases h3 with h3 | ⟨b, off, rfl, h4, h5⟩
  · exact .inl h3
  · refine .inr ⟨b, off, rfl, Nat.lt_of_lt_of_le h4 hg.size, fun i hi => ?_⟩
    have hne : b ≠ bb := fun e => by
      obtain ⟨D, ⟨es, clock, hb, r⟩, _⟩ := hB
      have := (h5 0 (by omega)).1
      subst e
      simp [World.cell?, hb] at this
    have hc : ∀ o, w'.cell? ⟨b, o, none⟩ = w.cell? ⟨b, o, none⟩ := fun o => World.cell?_of_block (hg.block b h4 (fun e => by injection e with e; exact hne e))
    rw [hc, hc]
    exact h5 i hi
/-- An entry is put. -/
theorem BkE.put {w : World} {bb nn : Nat} {M : Pid → Option Value} {R : List En} (h : BkE w bb nn M R) {t e : TypeId} (ht : Tryz.prog.underlying t = some (.map 25 e)) (hn : nn < maxLen) {X : En} (hX : okP X.id = true) {u : Value} (hu : Ids w u X.deps) :
    ∃ w', (Instr.mapUpdate t (.map (some bb)) (idv2 X.id) (env X u)).run Tryz.prog w = .ok () w' ∧ BkE w' bb (nn + 1) (fun x => if x = X.id then some (env X u) else M x) (putE X R) ∧ w.grownBy w' (some bb) := by
  obtain ⟨w', r1, r2, r3⟩ := h.book.put ht hn (inR_ok hX) (env X u)
  refine ⟨w', r1, ⟨r2, ⟨asc_nd (putE_asc h.asc), fun a ha => ?_, fun a ha => ?_⟩, putE_asc h.asc, fun k hk => ?_⟩, r3⟩
  · rcases (mem_idsP a).1 ha with rfl | ha
    · exact inR_ok hX
    · exact h.keys.2.1 a ha
  · rw [mem_idsP]
    try dsimp only
    by_cases e : a = X.id
    · rw [if_pos e]; exact ⟨fun _ => .inl e, fun _ => rfl⟩
    · rw [if_neg e, h.keys.2.2 a ha]; exact ⟨.inr, fun h => h.resolve_left e⟩
  · rcases mem_putE.1 (enD_mem hk) with e | ⟨h1, h2⟩
    · rw [e]
      try dsimp only
      rw [if_pos rfl]
      exact ⟨u, rfl, hu.turned h.book r3⟩
    · obtain ⟨j, hj, e⟩ := mem_enD h1
      obtain ⟨v, g1, g2⟩ := h.look j hj
      rw [e] at g1 g2
      try dsimp only
      rw [if_neg h2]
      exact ⟨v, g1, g2.turned h.book r3⟩
end Go.Proofs.YtdikcenhakfheaaGreatDoor

/- The program's entries of a book: copies of all, as a log. -/
namespace Go.Proofs.YtdikcenhakfheaaGreatDoor
open Go.RowKit
set_option linter.unusedVariables false

/-- Where the book's entries are: what has been copied, the ids still there. -/
structure PtZ (w wr : World) (gb : Nat) (C : List Pid) (u v : Value) (L : List Zn) : Prop where
  zr : ZR wr w.heap.size v L
  ids : OwnP wr gb u C
  ne : v.ownBlock ≠ some gb
  kp : Below w.heap.size w wr
section
variable {w wr w' : World} {gb : Nat} {C : List Pid} {u v : Value} {L : List Zn}
theorem PtZ.up (h : PtZ w wr gb C u v L) (hb : Below wr.heap.size wr w') : PtZ w w' gb C u v L :=
  ⟨h.zr.up hb, h.ids.up hb h.ids.lt, h.ne, bstep h.kp hb⟩
theorem PtZ.next (h : PtZ w wr gb C u v L) {o : Obj} {v' : Value} {x : Zn} (hown : w'.ownsRow w.heap.size 30 9 v' (L.length + 1) (flatE (zel L) ++ ecell (x.en, x.u))) (hg : (wr.alloc o).grownBy w' (Value.ownBlock v)) (hn : v' ≠ .slice none 0 0)
    (hat : v'.ownBlock = v.ownBlock ∨ v'.ownBlock = some (wr.heap.size + 1)) (hx : w.heap.size ≤ x.p ∧ x.q ≤ wr.heap.size ∧ (∀ b, v.ownBlock = some b → x.p ≤ b → b < x.q → False) ∧ OwZ wr x.p x.q x.u x.en.deps) (ho : ∀ y ∈ L, y.q ≤ x.p) : PtZ w w' gb C u v' (L ++ [x]) := by
  have hl := h.ids.lt
  refine ⟨h.zr.put hown hg hn hat hx ho, h.ids.same ((hg.block gb (by simp; omega) (fun e => h.ne e.symm)).trans (Below.heap_alloc _ _ _ hl)), ?_, h.kp.trans (h.zr.grown hg h.kp.size)⟩
  rcases hat with e | e
  · rw [e]; exact h.ne
  · rw [e]; intro e'; injection e' with e'; omega
end

set_option maxRecDepth 100000 in
set_option maxHeartbeats 8000000 in
theorem ientries_any (bb nn : Nat) (M : Pid → Option Value) (R : List En) (w : World) (h : BkE w bb nn M R) (h0 : 1 ≤ R.length) (hl : R.length ≤ 12) :
    Calls Tryz.prog 86 #[.map (some bb)] w fun e w' => ∃ v, e = .returned v ∧ LogO w' w.heap.size w'.heap.size v R ∧ Below w.heap.size w w' := by
  obtain ⟨D, hD, hsz⟩ := book_len h.book h.keys
  rw [idsE_len] at hsz
  have so := fun Bm W => isorted_any Bm bb nn M (idsE R) h.keys h.asc (by rw [idsE_len]; exact h0) (by rw [idsE_len]; exact hl) W
  obtain ⟨i0, hi, hz0, hz1, hz2⟩ := info_parts info_en
  obtain ⟨n, hn⟩ : ∃ n, Hid (R.length = n) := ⟨_, Lib.hid rfl⟩
  rw [hn.out] at hsz h0 hl
  have mk := fun W => make_capE n (by omega) W
  have hzz := Lib.hid (zr_cap w n w.heap.size (Nat.le_refl _) (by omega))
  have B0 := Lib.hid ((Below.refl w.heap.size w).alloc (Nat.le_refl _) (.cells (madeCells #[.int .i64 0, .int .i64 0, .int .i64 0, .int .i64 0, .int .i64 0, .int .i64 0, .int .i64 0, .int .i64 0, .slice none 0 0] (n * 9)) 30))
  have hbb := h.book.lt
  have h := Lib.hid h
  go_enter Tryz.func86, Tryz.ntmps86
  go_wp2_with (first | (at_len; refine wpList_len_own _ rfl _ 69 rfl 25 30 Tryz.underlying69 Rv bb nn D rfl hD ?_; rw [hsz]) | fail)
  refine (keys_any (some bb) _).mono ?_
  rintro e w1 ⟨rfl, rfl⟩
  clear hD mk hsz
  obtain ⟨W0, hW0⟩ : ∃ W, Hid (w.alloc (.cells (madeCells #[.int .i64 0, .int .i64 0, .int .i64 0, .int .i64 0, .int .i64 0, .int .i64 0, .int .i64 0, .int .i64 0, .slice none 0 0] (n * 9)) 30) = W) := ⟨_, Lib.hid rfl⟩
  rw [hW0.out] at hzz B0
  rw [hW0.out]
  have hs0 : W0.heap.size = w.heap.size + 1 := by rw [← hW0.out]; simp
  clear hW0
  have B1 := Lib.hid (B0.out.alloc (by omega) (.cells #[.map (some bb)] 69))
  have so1 := so (w.heap.size + 1) (W0.alloc (.cells #[.map (some bb)] 69)) (by simp; omega) ((cell_of_cells (by rw [← hs0]; exact heap_alloc_new W0 (.cells #[.map (some bb)] 69))).trans rfl) (h.out.book.up B1.out hbb)
  go_wp2_with fail
  refine so1.mono ?_
  rintro e w2 ⟨u, gb, rfl, hgb, hO, B⟩
  have hgb2 : w.heap.size + 1 < gb := by simp at hgb; omega
  have P0 := Lib.hid (show PtZ w w2 gb (idsE R) u (.slice (some ⟨w.heap.size, 0, none⟩) 0 n) [] from ⟨(hzz.out.up ((Below.refl _ _).alloc (Nat.le_refl _) _)).up B, hO, by simp [Value.ownBlock]; omega, bstep B1.out B⟩)
  obtain ⟨cap, hu, hcap⟩ := hO.shape
  rw [idsE_len, hn.out] at hu hcap
  subst hu
  have hbk := Lib.hid (fun W (hb : Below w.heap.size w W) => h.out.book.up hb hbb)
  have hlk := Lib.hid h.out.look
  have hkey := Lib.hid (fun k (hk : k < R.length) => h.out.keys.2.1 _ (mem_idsE.2 ⟨k, hk, rfl⟩))
  clear so so1 B hzz B0 B1 hO hgb h
  generalize W0.alloc (.cells #[.map (some bb)] 69) = W1 at *
  go_wp2_with fail
  go_loopw [3, 13] (fun v i wr => ∃ (k : Nat) (L : List Zn), k ≤ n ∧ i = .int .i64 k ∧ Hid (zens L = R.take k) ∧ Hid (PtZ w wr gb (idsE R) (.slice (some ⟨gb, 0, none⟩) n cap) v L)) (fun _ i _ => n - (intOf i).toNat)
  case atStart => exact ⟨0, [], Nat.zero_le _, rfl, Lib.hid rfl, P0⟩
  case round =>
    clear P0
    obtain ⟨k, L, hk, rfl, hL, P⟩ := hrel
    by_cases hlt : k < n
    · have hkR : k < R.length := by rw [hn.out]; exact hlt
      obtain ⟨c0, c1⟩ := P.out.ids.cell k (by rw [idsE_len]; exact hkR)
      rw [idsE_get hkR] at c0 c1
      have hgl := P.out.ids.lt
      obtain ⟨v, hv1, hv2⟩ := hlk.out k hkR
      obtain ⟨X, hX⟩ : ∃ X, Hid (R.getD k en0 = X) := ⟨_, Lib.hid rfl⟩
      rw [hX.out] at c0 c1 hv1 hv2
      go_upto_region 5 with fail
      have BA := Lib.hid ((Below.refl wr.heap.size wr).alloc (Nat.le_refl _) (.cells #[.int .i64 X.id.1, .int .i64 X.id.2] 25))
      replace P := Lib.hid (P.out.up BA.out)
      have A0 := heap_alloc_new wr (.cells #[.int .i64 X.id.1, .int .i64 X.id.2] 25)
      obtain ⟨a0, a1, _, _⟩ := blk2 A0
      have hal := lt_of_heap A0
      have hq := hkey.out k hkR
      rw [hX.out] at hq
      have hlook := (hbk.out _ P.out.kp).at Tryz.underlying69 (Tryz.zeroValue30 _) hq hv1
      obtain ⟨ua, un, uc, rfl⟩ : ∃ ua un uc, v = .slice ua un uc := by obtain ⟨a, c, e, _⟩ := hv2; exact ⟨a, _, c, e⟩
      have ic := icopy_any X (.slice ua un uc) _ (hv2.up P.out.kp (Nat.le_refl _))
      unfold idv2 at hlook
      have hLq := Lib.hid (fun y (hy : y ∈ L) => (P.out.zr.deps y hy).2.1)
      clear c0 c1 hgl A0 hv1 hv2 hq
      generalize wr.alloc (.cells #[.int .i64 X.id.1, .int .i64 X.id.2] 25) = W at P a0 a1 hal hlook ic hLq ⊢
      unfold env at hlook ic
      go_wp2_with fail
      refine ic.mono ?_
      rintro e w3 ⟨⟨u', rfl, hO⟩, B⟩
      obtain ⟨va, vn, vc, rfl⟩ : ∃ ua un uc, u' = .slice ua un uc := by obtain ⟨a, c, e, _⟩ := hO.read; exact ⟨a, _, c, e⟩
      have hrow := P.out.zr.row
      have hx := Lib.hid (show w.heap.size ≤ W.heap.size ∧ w3.heap.size ≤ w3.heap.size ∧ (∀ b, u3.ownBlock = some b → W.heap.size ≤ b → b < w3.heap.size → False) ∧ OwZ w3 W.heap.size w3.heap.size (.slice va vn vc) X.deps from
        ⟨P.out.kp.size, Nat.le_refl _, fun b e b1 _ => by have := (rowT hrow e).1.lt; omega, hO⟩)
      replace P := Lib.hid (P.out.up B)
      have hPs := P.out.kp.size
      have hPr := Lib.hid P.out.zr.row
      have hLl : L.length = k := by
        have e := congrArg List.length hL.out
        rw [zens_len, List.length_take, hn.out] at e
        omega
      obtain ⟨m, hm'⟩ : ∃ m, Hid (L.length = m) := ⟨_, Lib.hid rfl⟩
      rw [hm'.out] at hPr hLl
      have hW := Lib.hid B.size
      clear hrow hO B ic hlook a0 a1 hal
      go_wp2_with (at_builtin; refine wpList_append_own_at _ rfl _ _ 23 rfl w.heap.size 30 i0 (.agg #[.int .i64 0, .int .i64 0, .int .i64 0, .int .i64 0, .int .i64 0, .int .i64 0, .int .i64 0, .int .i64 0, .slice none 0 0]) 9 88 Tryz.underlying23 hi hz0 hz1 hz2 rfl (by decide) _ m (flatE (zel L)) rfl (hPr.out.alloc _) ⟨w3.heap.size, 0, none⟩ 1 1 [.int .i64 X.id.1, .int .i64 X.id.2, .int .i64 X.bal, .int .i64 X.st, .int .i64 X.k, .int .i64 X.key, .int .i64 X.v, .int .i64 X.seq, .slice va vn vc] rfl rfl ?fc1 ?fc2 ?fc3 ?fc4 ?fc5 ?_)
      case fc1 => exact nine_srcE _ _ _ _ _ _ _ _ _ _ _ _ (by simp)
      case fc2 => exact nine_oneE _ _ _ _ _ _ _ _ _ _ _
      case fc3 => unfold maxLen; omega
      case fc4 => omega
      case fc5 => first | omega | (simp; omega)
      intro v' w' hown' hgrow hnil hat
      have P5 := Lib.hid (P.out.next (x := ⟨X, .slice va vn vc, W.heap.size, w3.heap.size⟩) (by rw [hm'.out, hLl]; exact hown') hgrow (fun e => hnil e) (hat.imp (fun h => h) (fun h => by simpa using h)) hx.out hLq.out)
      have hL5 := Lib.hid (show zens (L ++ [⟨X, .slice va vn vc, W.heap.size, w3.heap.size⟩]) = R.take (k + 1) from by
        rw [zens_app, hL.out, List.take_add_one, List.getElem?_eq_getElem hkR, ← hX.out, List.getD_eq_getElem?_getD, List.getElem?_eq_getElem hkR]; rfl)
      clear hown' hgrow hnil hat hPr hPs hx hLq hm' P hW hL
      go_wp2_with fail
      go_roundw
      case rel => exact ⟨k + 1, _, by omega, by go_num, hL5, P5⟩
      case measure => simp [intOf]; omega
    · obtain rfl : k = n := by omega
      have e : zens L = R := by rw [hL.out, List.take_of_length_le (by rw [hn.out]; exact Nat.le_refl _)]
      have hO := P.out.zr.log (by rw [← zens_len, e, hn.out]; omega)
      rw [e] at hO
      have hO := Lib.hid hO
      have hB := Lib.hid P.out.kp
      clear P hL e
      go_wp2_with fail
      go_ret
      exact ⟨_, rfl, hO.out, hB.out⟩
end Go.Proofs.YtdikcenhakfheaaGreatDoor

/- The program's put of an entry into a book. -/
namespace Go.Proofs.YtdikcenhakfheaaGreatDoor
open Go.RowKit
set_option linter.unusedVariables false

theorem enB_id {X : En} (h : enB X = true) : okP X.id = true := by
  simp only [enB, ndB, En.nd, Bool.and_eq_true] at h
  exact h.1.1
theorem putE_pos (X : En) (E : List En) : 1 ≤ (putE X E).length := List.length_pos_of_mem (mem_putE.2 (.inl rfl))
/-- What put answers. -/
def bputR (E : List En) (X : En) : List En × Bool := if (putE X E).length ≤ 12 then (putE X E, true) else ([], false)
/-- What put leaves. -/
def BpZ (bb : Nat) (E : List En) (X : En) (w : World) (e : Ending) (w' : World) : Prop :=
  (∃ v, e = .returned (.tuple #[v, .bool (bputR E X).2]) ∧ LogO w' w.heap.size w'.heap.size v (bputR E X).1) ∧ Keep w.heap.size bb w w'

set_option maxRecDepth 100000 in
set_option maxHeartbeats 4000000 in
theorem ibput_any (bb nn : Nat) (M : Pid → Option Value) (E : List En) (X : En) (v : Value) (w : World) (hn : nn < maxLen) (hp : enB X = true) (hB : BkE w bb nn M E) (hv : Ids w v X.deps) :
    Calls Tryz.prog 50 #[.map (some bb), env X v] w (BpZ bb E X w) := by
  obtain ⟨ua0, un0, uc0, rfl⟩ : ∃ ua un uc, v = .slice ua un uc := by obtain ⟨a, c, e, _⟩ := hv; exact ⟨a, _, c, e⟩
  have hbb := hB.book.lt
  have A0 := Lib.hid (heap_alloc_new w (.cells #[.int .i64 X.id.1, .int .i64 X.id.2, .int .i64 X.bal, .int .i64 X.st, .int .i64 X.k, .int .i64 X.key, .int .i64 X.v, .int .i64 X.seq, .slice ua0 un0 uc0] 30))
  have B0 := Lib.hid ((Below.refl w.heap.size w).alloc (Nat.le_refl _) (.cells #[.int .i64 X.id.1, .int .i64 X.id.2, .int .i64 X.bal, .int .i64 X.st, .int .i64 X.k, .int .i64 X.key, .int .i64 X.v, .int .i64 X.seq, .slice ua0 un0 uc0] 30))
  have hB := Lib.hid (hB.up ((Below.refl w.heap.size w).alloc (Nat.le_refl _) (.cells #[.int .i64 X.id.1, .int .i64 X.id.2, .int .i64 X.bal, .int .i64 X.st, .int .i64 X.k, .int .i64 X.key, .int .i64 X.v, .int .i64 X.seq, .slice ua0 un0 uc0] 30)))
  have hI := Lib.hid (hv.up B0.out (Nat.le_refl _))
  have hs0 : w.heap.size < (w.alloc (.cells #[.int .i64 X.id.1, .int .i64 X.id.2, .int .i64 X.bal, .int .i64 X.st, .int .i64 X.k, .int .i64 X.key, .int .i64 X.v, .int .i64 X.seq, .slice ua0 un0 uc0] 30)).heap.size := by simp
  clear hv
  unfold env
  go_enter Tryz.func50, Tryz.ntmps50
  go_upto_region 1 with fail
  generalize w.alloc (.cells #[.int .i64 X.id.1, .int .i64 X.id.2, .int .i64 X.bal, .int .i64 X.st, .int .i64 X.k, .int .i64 X.key, .int .i64 X.v, .int .i64 X.seq, .slice ua0 un0 uc0] 30) = w2 at A0 B0 hB hI hs0 ⊢
  obtain ⟨w3, hrun, hB3, hg3⟩ := hB.out.put Tryz.underlying69 hn (enB_id hp) hI.out
  have K3 : Hid (Keep w.heap.size bb w w3) := Lib.hid ((Keep.of_below B0.out).trans ⟨hg3.os, hg3.tape, hg3.output, hg3.size, fun c h1 h2 => hg3.block c (by omega) (fun e => by injection e with e; exact h2 e)⟩)
  have hs3 : w.heap.size ≤ w3.heap.size := K3.out.size
  obtain ⟨D, hD, hsz⟩ := book_len hB3.book hB3.keys
  rw [idsE_len] at hsz
  obtain ⟨m, hm⟩ : ∃ m, Hid ((putE X E).length = m) := ⟨_, Lib.hid rfl⟩
  rw [hm.out] at hsz
  have hm1 : 1 ≤ m := by rw [← hm.out]; exact putE_pos X E
  have ent := ientries_any bb _ _ (putE X E) w3 hB3 (by rw [hm.out]; exact hm1)
  rw [hm.out] at ent
  obtain ⟨⟨y0, y1, y2, y3, y4, y5, y6, y7, y8⟩, _, ys⟩ := nine_all A0.out
  unfold idv2 env at hrun
  clear hB3 hB hI hg3 A0 B0 hp
  by_cases h12 : m ≤ 12
  · have R := Lib.hid (show bputR E X = (putE X E, true) from if_pos (by rw [hm.out]; exact h12))
    have hg : ¬ 12 < m := by omega
    replace ent := ent h12
    go_wp2_with (first | (at_len; refine wpList_len_own _ rfl _ 69 rfl 25 30 Tryz.underlying69 Rv bb _ D rfl hD ?_; rw [hsz]) | fail)
    refine ent.mono ?_
    rintro e w4 ⟨v4, rfl, O4, B⟩
    have O4 := Lib.hid (O4.wide hs3 (Nat.le_refl _) (Nat.le_refl _))
    have K4 := Lib.hid (K3.out.trans (Keep.of_below (B.mono hs3)))
    obtain ⟨g4, c4, hv4, _⟩ := O4.out.shape
    subst hv4
    clear B K3 ent hD hrun y0 y1 y2 y3 y4 y5 y6 y7 y8 ys
    go_wp2_with fail
    go_ret2
    rw [BpZ, R.out]
    exact ⟨⟨_, rfl, O4.out⟩, K4.out⟩
  · have R := Lib.hid (show bputR E X = ([], false) from if_neg (by rw [hm.out]; exact h12))
    have hg : 12 < m := by omega
    clear ent
    go_wp2_with (first | (at_len; refine wpList_len_own _ rfl _ 69 rfl 25 30 Tryz.underlying69 Rv bb _ D rfl hD ?_; rw [hsz]) | fail)
    go_ret2
    rw [BpZ, R.out]
    exact ⟨⟨_, rfl, by have := LogO.none w3 w.heap.size hs3; simpa using this⟩, K3.out.alloc hs3 _⟩
end Go.Proofs.YtdikcenhakfheaaGreatDoor

/- When Propose fails, and what it answers else. -/
namespace Go.Proofs.YtdikcenhakfheaaGreatDoor
set_option linter.unusedVariables false

theorem okP_iff {a : Pid} : okP a = true ↔ (0 ≤ a.1 ∧ a.1 ≤ 4) ∧ 1 ≤ a.2 ∧ a.2 ≤ 50 := by
  obtain ⟨x, y⟩ := a
  simp [okP, idB]
  omega
theorem prop_bad {E : List En} {p k key v : Int} (h : enB (proE E p k key v) = false) : propR E p k key v = ([], en0, false) := by
  unfold propR; split
  · exact ppR_bad h
  · rfl
theorem enB_no {X : En} (h : ¬ enB X = true) : enB X = false := by simpa using h
theorem prop_num {E : List En} {p k key v : Int} (h : nextR E p < 0) : propR E p k key v = ([], en0, false) := by
  by_cases hv : logB E = true
  · refine prop_bad (enB_no fun hb => ?_)
    have h1 := okP_iff.1 (enB_of hb).1
    unfold proE at h1
    dsimp only at h1
    have := nextR_good (E := E) (p := p) hv h1.1 h1.2.2
    omega
  · exact if_neg hv
theorem prop_cmd {E : List En} {p k key v : Int} (h : cvB k key v = false) : propR E p k key v = ([], en0, false) := by
  refine prop_bad (enB_no fun hb => ?_)
  have h1 := (enB_of hb).2.2.2.2.2.2
  unfold proE at h1
  dsimp only at h1
  rw [h] at h1; cases h1
theorem prop_len {E : List En} {p k key v : Int} (hv : logB E = true) : (putE (proE E p k key v) E).length = E.length + 1 := by
  rw [putE_len (log_of hv).2.2, if_neg]
  exact new_id p
theorem prop_full {E : List En} {p k key v : Int} (h : E.length = 12) : propR E p k key v = ([], en0, false) := by
  unfold propR; split
  · rename_i hv
    refine ppR_long ?_
    rw [prop_len hv]; omega
  · rfl
theorem prop_seq {E : List En} {p k key v : Int} (h : 99 < (proE E p k key v).seq) : propR E p k key v = ([], en0, false) := by
  refine prop_bad (enB_no fun hb => ?_)
  have h1 := (enB_of hb).2.1
  omega
theorem prop_good {E : List En} {p k key v : Int} (h1 : ¬ nextR E p < 0) (h2 : cvB k key v = true) (h3 : ¬ E.length = 12) (h4 : ¬ 99 < (proE E p k key v).seq) : propR E p k key v = (putE (proE E p k key v) E, proE E p k key v, true) := by
  by_cases hv : logB E = true
  · by_cases hp : 0 ≤ p ∧ p ≤ 4
    · by_cases hn : topF (ofR p) (fun x => x.id.2) E + 1 ≤ 50
      · have ht := topF_nn (ofR p) (fun x => x.id.2) E
        have htt := top_rank hv (proE E p k key v).id k key
        unfold propR
        rw [if_pos hv]
        refine ppR_good (enB_to (okP_iff.2 ⟨hp, ?_, hn⟩) ⟨?_, by omega⟩ (cls_srt hv _ _ _) (hasP_no cls_id) ⟨show (0:Int) ≤ 0 by decide, show (0:Int) ≤ 999 by decide⟩ ⟨show (1:Int) ≤ 1 by decide, show (1:Int) ≤ 3 by decide⟩ h2) ?_
        · show 1 ≤ topF (ofR p) (fun x => x.id.2) E + 1; omega
        · show 1 ≤ topE (clsE E (proE E p k key v).id k key) + 1; omega
        · rw [prop_len hv]; have := (log_of hv).1; omega
      · exact absurd (by rw [nextR_full hn]; decide) h1
    · exact absurd (by rw [nextR_bad2 hp]; decide) h1
  · exact absurd (by rw [nextR_bad (by simpa using hv)]; decide) h1
theorem next_is {E : List En} {p : Int} (h : ¬ nextR E p < 0) : logB E = true ∧ nextR E p = topF (ofR p) (fun x => x.id.2) E + 1 ∧ (0 ≤ p ∧ p ≤ 4) ∧ nextR E p ≤ 50 := by
  unfold nextR at h ⊢
  split at h
  · rename_i g; rw [if_pos g]; exact ⟨g.1, rfl, g.2.1, g.2.2⟩
  · exact absurd (by decide) h
theorem prop_is {E : List En} {p k key v : Int} (h : (propR E p k key v).2.2 = true) : logB E = true ∧ (propR E p k key v).1 = putE (proE E p k key v) E ∧ (propR E p k key v).2.1 = proE E p k key v ∧ enB (proE E p k key v) = true ∧ (putE (proE E p k key v) E).length ≤ 12 := by
  unfold propR at h ⊢
  split at h
  · rename_i hv
    rw [if_pos hv]
    unfold PpR at h ⊢
    split at h
    · rename_i hg; rw [if_pos hg]; exact ⟨hv, rfl, rfl, hg.1, hg.2⟩
    · cases h
  · cases h
theorem propR_len (E : List En) (p k key v : Int) : (propR E p k key v).1.length ≤ 12 := by
  unfold propR PpR
  split
  · split
    · rename_i h; exact h.2
    · exact Nat.zero_le _
  · exact Nat.zero_le _
end Go.Proofs.YtdikcenhakfheaaGreatDoor

/- Entries in boxes: what was found, in which order its box and its list were made. -/
namespace Go.Proofs.YtdikcenhakfheaaGreatDoor
open Go.RowKit
set_option linter.unusedVariables false

/-- An entry in a box. -/
def BxE (w : World) (xb : Nat) (X : En) (u : Value) : Prop := w.heap[xb]? = some (.cells #[.int .i64 X.id.1, .int .i64 X.id.2, .int .i64 X.bal, .int .i64 X.st, .int .i64 X.k, .int .i64 X.key, .int .i64 X.v, .int .i64 X.seq, u] 30 (0, 0))
theorem BxE.up {w w' : World} {xb : Nat} {X : En} {u : Value} (h : BxE w xb X u) (hb : Below w.heap.size w w') : BxE w' xb X u := (hb.block xb (lt_of_heap h)).trans h
theorem BxE.apart {w w' : World} {P : Nat → Prop} {xb : Nat} {X : En} {u : Value} (h : BxE w xb X u) (he : Exc P w w') (hn : ¬ P xb) : BxE w' xb X u := he.at hn h
theorem BxE.cells {w : World} {xb : Nat} {X : En} {u : Value} (h : BxE w xb X u) : (w.cell? ⟨xb, 0, none⟩ = some (.int .i64 X.id.1) ∧ w.cell? ⟨xb, 1, none⟩ = some (.int .i64 X.id.2) ∧ w.cell? ⟨xb, 2, none⟩ = some (.int .i64 X.bal) ∧ w.cell? ⟨xb, 3, none⟩ = some (.int .i64 X.st) ∧ w.cell? ⟨xb, 4, none⟩ = some (.int .i64 X.k) ∧ w.cell? ⟨xb, 5, none⟩ = some (.int .i64 X.key) ∧ w.cell? ⟨xb, 6, none⟩ = some (.int .i64 X.v) ∧ w.cell? ⟨xb, 7, none⟩ = some (.int .i64 X.seq) ∧ w.cell? ⟨xb, 8, none⟩ = some u) ∧ xb < w.heap.size := ⟨nine_cells h, lt_of_heap h⟩
/-- An entry in a box, with its list: neither is touched where the other is. -/
def FxE (w : World) (xb : Nat) (X : En) (u : Value) (B T : Nat) : Prop := BxE w xb X u ∧ OwZ w B T u X.deps ∧ ¬ (B ≤ xb ∧ xb < T)
theorem FxE.up {w w' : World} {xb B T : Nat} {X : En} {u : Value} (h : FxE w xb X u B T) (hb : Below w.heap.size w w') : FxE w' xb X u B T := ⟨h.1.up hb, h.2.1.up hb, h.2.2⟩
theorem FxE.apart {w w' : World} {P : Nat → Prop} {xb B T : Nat} {X : En} {u : Value} (h : FxE w xb X u B T) (he : Exc P w w') (hx : ¬ P xb) (hn : ∀ b, B ≤ b → b < T → ¬ P b) : FxE w' xb X u B T := ⟨h.1.apart he hx, h.2.1.apart he hn, h.2.2⟩
theorem OwZ.put9 {W : World} {B T xb : Nat} {u : Value} {C : List Pid} (h : OwZ W B T u C) (hn : ¬ (B ≤ xb ∧ xb < T)) (x0 x1 x2 x3 x4 x5 x6 x7 x8 : Value) : OwZ (((((((((W.setCell ⟨xb, 0, none⟩ x0).setCell ⟨xb, 1, none⟩ x1).setCell ⟨xb, 2, none⟩ x2).setCell ⟨xb, 3, none⟩ x3).setCell ⟨xb, 4, none⟩ x4).setCell ⟨xb, 5, none⟩ x5).setCell ⟨xb, 6, none⟩ x6).setCell ⟨xb, 7, none⟩ x7).setCell ⟨xb, 8, none⟩ x8) B T u C := by
  rcases h with h | ⟨b, h1, h2, h3⟩
  · exact .inl h
  · exact .inr ⟨b, h1, h2, h3.same (put9_other _ _ _ _ _ _ _ _ _ (fun e => hn (by subst e; exact ⟨h1, h2⟩)))⟩
/-- What a region that finds an entry leaves. -/
def LfQ (X : En) (q : Bool) (w : World) (s s' : Value) (wx : World) : Prop :=
  ∃ xb u B T, s = .pointer (some ⟨xb, 0, none⟩) ∧ s' = .bool q ∧ FxE wx xb X u B T ∧ w.heap.size ≤ xb ∧ w.heap.size ≤ B ∧ T ≤ wx.heap.size ∧ Below w.heap.size w wx
/-- Within the region: its box. -/
structure FE (w0 W : World) (ox : Option Nat) : Prop where
  kp : Below w0.heap.size w0 W
  bx : ∀ b, ox = some b → w0.heap.size ≤ b ∧ W.heap[b]? = some (.cells #[.int .i64 0, .int .i64 0, .int .i64 0, .int .i64 0, .int .i64 0, .int .i64 0, .int .i64 0, .int .i64 0, .slice none 0 0] 30 (0, 0))
theorem FE.start {w0 : World} : FE w0 w0.drew none := ⟨Below.drew (Below.refl _ _), fun _ h => nomatch h⟩
theorem FE.low {w0 W W' : World} {ox : Option Nat} (h : FE w0 W ox) (B : Below W.heap.size W W') : FE w0 W' ox :=
  ⟨bstep h.kp B, fun b e => ⟨(h.bx b e).1, (B.block b (lt_of_heap (h.bx b e).2)).trans (h.bx b e).2⟩⟩
theorem FE.box {w0 W : World} {ox : Option Nat} (h : FE w0 W ox) : FE w0 (W.alloc (.cells #[.int .i64 0, .int .i64 0, .int .i64 0, .int .i64 0, .int .i64 0, .int .i64 0, .int .i64 0, .int .i64 0, .slice none 0 0] 30)) (some W.heap.size) :=
  ⟨h.kp.alloc h.kp.size _, fun b e => by injection e with e; subst e; exact ⟨h.kp.size, heap_alloc_new W _⟩⟩
theorem FE.done {w0 W : World} {xb B T : Nat} {X : En} {q : Bool} {u : Value} (h : FE w0 W (some xb)) (hO : OwZ W B T u X.deps) (h1 : w0.heap.size ≤ B) (h2 : T ≤ W.heap.size) (h3 : ¬ (B ≤ xb ∧ xb < T)) :
    LfQ X q w0 (.pointer (some ⟨xb, 0, none⟩)) (.bool q) (((((((((W.setCell ⟨xb, 0, none⟩ (.int .i64 X.id.1)).setCell ⟨xb, 1, none⟩ (.int .i64 X.id.2)).setCell ⟨xb, 2, none⟩ (.int .i64 X.bal)).setCell ⟨xb, 3, none⟩ (.int .i64 X.st)).setCell ⟨xb, 4, none⟩ (.int .i64 X.k)).setCell ⟨xb, 5, none⟩ (.int .i64 X.key)).setCell ⟨xb, 6, none⟩ (.int .i64 X.v)).setCell ⟨xb, 7, none⟩ (.int .i64 X.seq)).setCell ⟨xb, 8, none⟩ u) := by
  obtain ⟨g1, g2⟩ := h.bx xb rfl
  exact ⟨xb, u, B, T, rfl, rfl, ⟨put9_at _ _ _ _ _ _ _ _ _ g2, hO.put9 h3 _ _ _ _ _ _ _ _ _, h3⟩, g1, h1, by simpa using h2, h.kp.trans (put9_below _ _ _ _ _ _ _ _ _ g1)⟩
end Go.Proofs.YtdikcenhakfheaaGreatDoor

/- The program's admits. -/
namespace Go.Proofs.YtdikcenhakfheaaGreatDoor
open Go.RowKit
set_option linter.unusedVariables false

set_option maxRecDepth 100000 in
set_option maxHeartbeats 8000000 in
theorem iadm_any (bb : Nat) (E : List En) (U : Nat → Value) (a : Pid) (bal k key v r : Int) (g : Nat → Nat) (w : World) (hv : logB E = true) (h : Book w bb E.length (mapE E U E.length)) (hU : ∀ k, k < E.length → ∃ a n c, U k = .slice a n c) (ha : inR a) :
    Calls Tryz.prog 38 #[.map (some bb), prV a bal k key v r g] w fun e w' => e = .returned (.bool (admB E a bal)) ∧ Below w.heap.size w w' := by
  have B0 := (Below.refl w.heap.size w).alloc (Nat.le_refl _) (.cells #[.int .i64 a.1, .int .i64 a.2, .int .i64 bal, .int .i64 k, .int .i64 key, .int .i64 v, .int .i64 r, .int .u64 (g 0), .int .u64 (g 1), .int .u64 (g 2), .int .u64 (g 3), .int .u64 (g 4)] 78)
  have A0 := heap_alloc_new w (.cells #[.int .i64 a.1, .int .i64 a.2, .int .i64 bal, .int .i64 k, .int .i64 key, .int .i64 v, .int .i64 r, .int .u64 (g 0), .int .u64 (g 1), .int .u64 (g 2), .int .u64 (g 3), .int .u64 (g 4)] 78)
  have hl := (h.up B0 h.lt).look Tryz.underlying69 (Tryz.zeroValue30 _) ha
  have key2 : ∃ (z : En) (b : Bool) (ua : Option Addr) (un uc : Nat), (Instr.lookup 69 (.map (some bb)) (idv2 a) true).run Tryz.prog (w.alloc (.cells #[.int .i64 a.1, .int .i64 a.2, .int .i64 bal, .int .i64 k, .int .i64 key, .int .i64 v, .int .i64 r, .int .u64 (g 0), .int .u64 (g 1), .int .u64 (g 2), .int .u64 (g 3), .int .u64 (g 4)] 78)) = .ok (.tuple #[env z (.slice ua un uc), .bool b]) (w.alloc (.cells #[.int .i64 a.1, .int .i64 a.2, .int .i64 bal, .int .i64 k, .int .i64 key, .int .i64 v, .int .i64 r, .int .u64 (g 0), .int .u64 (g 1), .int .u64 (g 2), .int .u64 (g 3), .int .u64 (g 4)] 78)) ∧ admB E a bal = (!b || (z.st == 1 && decide (z.bal ≤ bal))) := by
    rcases mapE_look hv U a with ⟨j, hj, e1, e2⟩ | ⟨e1, e2⟩
    · rw [e2] at hl
      obtain ⟨ua, un, uc, hu⟩ := hU j hj
      rw [hu] at hl
      exact ⟨_, _, ua, un, uc, hl, by unfold admB; rw [lfindR_some hv hj e1]; rfl⟩
    · rw [e2] at hl
      exact ⟨en0, _, none, 0, 0, hl, by unfold admB; rw [lfindR_none e1]; rfl⟩
  obtain ⟨z, b, ua, un, uc, hlk, hA⟩ := key2
  rw [hA]
  clear hA hl h hU hv
  unfold prV
  unfold idv2 env at hlk
  obtain ⟨⟨c0, c1, c2, c3, c4, c5, c6, c7, c8, c9, c10, c11⟩, _, cl⟩ := all12 A0
  have D0 := Lib.hid B0
  have A0 := Lib.hid A0
  clear B0
  go_enter Tryz.func38, Tryz.ntmps38
  go_upto_region 1 with fail
  generalize w.alloc (.cells #[.int .i64 a.1, .int .i64 a.2, .int .i64 bal, .int .i64 k, .int .i64 key, .int .i64 v, .int .i64 r, .int .u64 (g 0), .int .u64 (g 1), .int .u64 (g 2), .int .u64 (g 3), .int .u64 (g 4)] 78) = w1 at A0 D0 hlk c0 c1 c2 c3 c4 c5 c6 c7 c8 c9 c10 c11 cl ⊢
  go_upto_region 2 with fail
  have BA := (Below.refl w1.heap.size w1).alloc (Nat.le_refl _) (.cells #[.int .i64 z.id.1, .int .i64 z.id.2, .int .i64 z.bal, .int .i64 z.st, .int .i64 z.k, .int .i64 z.key, .int .i64 z.v, .int .i64 z.seq, .slice ua un uc] 30)
  have Z0 := heap_alloc_new w1 (.cells #[.int .i64 z.id.1, .int .i64 z.id.2, .int .i64 z.bal, .int .i64 z.st, .int .i64 z.k, .int .i64 z.key, .int .i64 z.v, .int .i64 z.seq, .slice ua un uc] 30)
  have A1 := bblk BA cl A0.out
  have D1 := Lib.hid (bstep D0.out BA)
  clear c0 c1 c2 c3 c4 c5 c6 c7 c8 c9 c10 c11 cl hlk D0 A0 BA
  generalize w1.alloc (.cells #[.int .i64 z.id.1, .int .i64 z.id.2, .int .i64 z.bal, .int .i64 z.st, .int .i64 z.k, .int .i64 z.key, .int .i64 z.v, .int .i64 z.seq, .slice ua un uc] 30) = w2 at Z0 A1 D1 ⊢
  obtain ⟨⟨c0, c1, c2, c3, c4, c5, c6, c7, c8, c9, c10, c11⟩, _, cl⟩ := all12 A1
  obtain ⟨⟨y0, y1, y2, y3, y4, y5, y6, y7, y8⟩, _, ys⟩ := nine_all Z0
  clear A1 Z0
  cases b
  · go_wp2_with fail
    go_ret
    exact ⟨rfl, D1.out⟩
  · by_cases h1 : z.st = 1
    · have h1b : (z.st == 1) = true := by simpa using h1
      by_cases h2 : z.bal ≤ bal
      · go_wp2_with fail
        go_ret
        refine ⟨?_, D1.out⟩
        first | rfl | (rw [h1b, decide_eq_true h2]; rfl) | (rw [decide_eq_true h2]; rfl) | (simp [h2])
      · go_wp2_with fail
        go_ret
        refine ⟨?_, D1.out⟩
        first | rfl | (rw [h1b, decide_eq_false h2]; rfl) | (rw [decide_eq_false h2]; rfl) | (simp [h2]; done) | (simp [h2]; omega)
    · have h1b : (z.st == 1) = false := by simpa using h1
      go_wp2_with fail
      go_ret
      refine ⟨?_, D1.out⟩
      first | rfl | (rw [h1b]; rfl)
end Go.Proofs.YtdikcenhakfheaaGreatDoor
