/- Texts laid together. -/
import Derived.Test.YtpckhghcjedblaaC12
import Derived.Test.YtpckhghcjedblaaC13
import Derived.Test.YtpckhghcjedblaaC10
import Derived.Test.YtpckhghcjedblaaC06
import Derived.Test.YtpckhghcjedblaaC11
import Derived.Test.YtpckhghcjedblaaC09
/- The model's LogFind. -/
namespace Go.Proofs.Ytpckhghcjedblaa
open Go.RowKit
set_option linter.unusedVariables false

theorem en_resLf (tm : Array Value) (w : World) (b : Nat) (x0 x1 x2 x3 x4 x5 x6 x7 x8 : Value) (q : Bool) (t : TypeId) (h2 : tm[4]? = some (.pointer (some ⟨b, 0, none⟩))) (h3 : tm[5]? = some (.bool q)) (h : w.heap[b]? = some (.cells #[x0, x1, x2, x3, x4, x5, x6, x7, x8] t (0, 0))) :
    (results Try.f20 tm).run Try.prog w = .ok (.tuple #[.agg #[x0, x1, x2, x3, x4, x5, x6, x7, x8], .bool q]) w := by
  obtain ⟨t0, t1, t2, t3, t4, t5, t6, t7, t8⟩ := nine_cells h
  simp [results, Try.results20, go_sem, h2, h3, t0, t1, t2, t3, t4, t5, t6, t7, t8]

/-- What LogFind leaves. -/
def LfP (E : List En) (a : Pid) (w : World) (e : Ending) (w' : World) : Prop :=
  ∃ u, e = .returned (.tuple #[env (lfindR E a).1 u, .bool (lfindR E a).2]) ∧ OwZ w' w.heap.size w'.heap.size u (lfindR E a).1.deps ∧ Below w.heap.size w w'

set_option maxRecDepth 100000 in
set_option maxHeartbeats 4000000 in
theorem slfind_any (u : Value) (E : List En) (x y : Int) (w : World) (h : Ens w u E) :
    Calls Try.prog 20 #[u, .agg #[.int .i64 x, .int .i64 y]] w (LfP E (x, y) w) := by
  have sa := fun W (hb : Below w.heap.size w W) => seat_any u E x y W (h.up hb (Nat.le_refl _))
  have sv := fun W (hb : Below w.heap.size w W) => slogv_any u E W (h.up hb (Nat.le_refl _))
  unfold LfP
  obtain ⟨a, cap, rfl, h1, h2, h3⟩ := h
  obtain ⟨n, hn⟩ : ∃ n, Hid (E.length = n) := ⟨_, Lib.hid rfl⟩
  rw [hn.out] at sa sv h1 h2 h3 ⊢
  have h3 := Lib.hid h3
  have B0 := Lib.hid (((Below.refl w.heap.size w).alloc (Nat.le_refl _) (.cells #[.int .i64 x, .int .i64 y] 25)).alloc (by simp) (.cells #[.int .i64 0, .int .i64 0, .int .i64 0, .int .i64 0, .int .i64 0, .int .i64 0, .int .i64 0, .int .i64 0, .slice none 0 0] 30))
  have R0 := Lib.hid (heap_alloc_at (w.alloc (.cells #[.int .i64 x, .int .i64 y] 25)) (.cells #[.int .i64 0, .int .i64 0, .int .i64 0, .int .i64 0, .int .i64 0, .int .i64 0, .int .i64 0, .int .i64 0, .slice none 0 0] 30) (w.heap.size + 1) (by simp))
  go_enter Try.func20, Try.ntmps20
  go_wp2_with fail
  refine (sa _ B0.out).mono ?_
  rintro e w1 ⟨⟨z, rfl, hz⟩, B⟩
  have R1 := Lib.hid (bblk B (lt_of_heap R0.out) R0.out)
  have B1 := Lib.hid (bstep B0.out B)
  have hz := Lib.hid hz
  clear B sa R0 B0
  go_wp2_with fail
  refine (sv _ B1.out).mono ?_
  rintro e w2 ⟨rfl, B⟩
  have R2 := Lib.hid (bblk B (lt_of_heap R1.out) R1.out)
  have B2 := Lib.hid (bstep B1.out B)
  obtain ⟨q, hq⟩ : ∃ q, Hid (logB E = q) := ⟨_, Lib.hid rfl⟩
  rw [hq.out]
  clear B sv R1 B1
  obtain ⟨⟨y0, y1, y2, y3, y4, y5, y6, y7, y8⟩, ⟨g0, g1, g2, g3, g4, g5, g6, g7, g8⟩, s1⟩ := nine_all R2.out
  have fail9 : ∀ W, lfindR E (x, y) = (en0, false) → W = w2 → LfP E (x, y) w (.returned (.tuple #[.agg #[.int .i64 0, .int .i64 0, .int .i64 0, .int .i64 0, .int .i64 0, .int .i64 0, .int .i64 0, .int .i64 0, .slice none 0 0], .bool false])) (((((((((w2.setCell ⟨w.heap.size + 1, 0, none⟩ (.int .i64 0)).setCell ⟨w.heap.size + 1, 1, none⟩ (.int .i64 0)).setCell ⟨w.heap.size + 1, 2, none⟩ (.int .i64 0)).setCell ⟨w.heap.size + 1, 3, none⟩ (.int .i64 0)).setCell ⟨w.heap.size + 1, 4, none⟩ (.int .i64 0)).setCell ⟨w.heap.size + 1, 5, none⟩ (.int .i64 0)).setCell ⟨w.heap.size + 1, 6, none⟩ (.int .i64 0)).setCell ⟨w.heap.size + 1, 7, none⟩ (.int .i64 0)).setCell ⟨w.heap.size + 1, 8, none⟩ (.slice none 0 0)) := fun W e _ => by
    unfold LfP
    rw [e]
    exact ⟨.slice none 0 0, rfl, .inl ⟨rfl, none, 0, rfl⟩, B2.out.trans (put9_below _ _ _ _ _ _ _ _ _ (Nat.le_succ _))⟩
  have fail9 := Lib.hid fail9
  cases q
  · have hR := Lib.hid (lfindR_bad hq.out (x, y))
    clear h3 hz
    go_wp2_with fail
    exact bodyPost_ret (en_resLf _ _ _ _ _ _ _ _ _ _ _ _ _ _ rfl rfl (put9_at _ _ _ _ _ _ _ _ _ R2.out)) rfl (fail9.out w2 hR.out rfl)
  · rcases hz.out with ⟨rfl, hno⟩ | ⟨k, rfl, hk, hid⟩
    · have hR := Lib.hid (lfindR_none (E := E) (a := (x, y)) fun k hk e => hno (mem_idsE.2 ⟨k, hk, e⟩))
      clear h3 hz hno
      go_wp2_with fail
      exact bodyPost_ret (en_resLf _ _ _ _ _ _ _ _ _ _ _ _ _ _ rfl rfl (put9_at _ _ _ _ _ _ _ _ _ R2.out)) rfl (fail9.out w2 hR.out rfl)
    · have hR := lfindR_some (a := (x, y)) hq.out hk hid
      have hkn : k < n := by rw [← hn.out]; exact hk
      obtain ⟨b, off, U, ha, hA⟩ := h3.out.resolve_left (by omega)
      subst ha
      have hA2 := hA.up B2.out (Nat.le_refl _)
      have hbl := hA2.lt
      have hX := hA2.at_ k hk
      obtain ⟨X, hXe⟩ : ∃ X, Hid (E.getD k en0 = X) := ⟨_, Lib.hid rfl⟩
      rw [hXe.out] at hX hR
      have hR := Lib.hid hR
      obtain ⟨ua, un, uc, hu⟩ : ∃ ua un uc, U k = .slice ua un uc := by obtain ⟨a, c, e, _⟩ := hX.ids; exact ⟨a, _, c, e⟩
      rw [hu] at hX
      have sc := copy_at X.id.1 X.id.2 X.bal X.st X.k X.key X.v X.seq X.deps (.slice ua un uc) w2 hX.ids
      have hDl : X.deps.length ≤ 2000000 := by obtain ⟨_, _, _, _, h, _⟩ := hX.ids; exact h
      obtain ⟨q0, q1, q2, q3, q4, q5, q6, q7, q8, _⟩ := hX
      obtain ⟨⟨p, r⟩, bal, st, ck, ckey, cv, s, D⟩ := X
      dsimp only at q0 q1 q2 q3 q4 q5 q6 q7 q8 sc hDl
      dsimp only [env]
      clear hA hA2 fail9 hu h3 hz hid
      go_wp2_with fail
      refine sc.mono ?_
      rintro e w3 ⟨⟨u', rfl, hrow⟩, B⟩
      obtain ⟨b3, hb3, hO⟩ := hrow.own hDl
      have R3 := Lib.hid (bblk B (lt_of_heap R2.out) R2.out)
      have B3 := Lib.hid (bstep B2.out B)
      have hO := Lib.hid hO
      obtain ⟨uc', rfl, _⟩ := hO.out.shape
      have hbs : w.heap.size + 1 < b3 := by have := lt_of_heap R2.out; omega
      clear B hrow sc R2 B2 y0 y1 y2 y3 y4 y5 y6 y7 y8 g0 g1 g2 g3 g4 g5 g6 g7 g8 s1 q0 q1 q2 q3 q4 q5 q6 q7 q8
      obtain ⟨⟨y0, y1, y2, y3, y4, y5, y6, y7, y8⟩, ⟨g0, g1, g2, g3, g4, g5, g6, g7, g8⟩, s1⟩ := nine_all R3.out
      go_wp2_with fail
      refine bodyPost_ret (en_resLf _ _ _ _ _ _ _ _ _ _ _ _ _ _ rfl rfl (put9_at _ _ _ _ _ _ _ _ _ R3.out)) rfl ?_
      rw [hR.out]
      exact ⟨_, rfl, OwZ.of (b := b3) (hO.out.same (put9_other _ _ _ _ _ _ _ _ _ (by omega))) (by omega), B3.out.trans (put9_below _ _ _ _ _ _ _ _ _ (Nat.le_succ _))⟩
end Go.Proofs.Ytpckhghcjedblaa

/- The program's LogFind. -/
namespace Go.Proofs.Ytpckhghcjedblaa
open Go.RowKit
set_option linter.unusedVariables false

theorem mapE_none {E : List En} {U : Nat → Value} {a : Pid} : ∀ n, (∀ k, k < n → ¬ (E.getD k en0).id = a) → mapE E U n a = none
  | 0, _ => rfl
  | n + 1, h => by
    unfold mapE
    rw [if_neg (fun e => h n (Nat.lt_succ_self n) e.symm)]
    exact mapE_none n fun k hk => h k (Nat.lt_succ_of_lt hk)
theorem mapE_some {E : List En} {U : Nat → Value} {a : Pid} {k : Nat} (hu : ∀ j, (E.getD j en0).id = a → j < E.length → j = k) : ∀ n, n ≤ E.length → k < n → (E.getD k en0).id = a → mapE E U n a = some (env (E.getD k en0) (U k))
  | 0, _, h, _ => absurd h (Nat.not_lt_zero _)
  | n + 1, hl, hk, e => by
    unfold mapE
    by_cases hn : a = (E.getD n en0).id
    · rw [if_pos hn, hu n hn.symm (by omega)]
    · rw [if_neg hn]
      have : k ≠ n := fun h => hn (by rw [← h]; exact e.symm)
      exact mapE_some hu n (by omega) (by omega) e
/-- What is looked up in a log's book. -/
theorem mapE_look {E : List En} (hv : logB E = true) (U : Nat → Value) (a : Pid) : (∃ k, k < E.length ∧ (E.getD k en0).id = a ∧ mapE E U E.length a = some (env (E.getD k en0) (U k))) ∨ ((∀ k, k < E.length → ¬ (E.getD k en0).id = a) ∧ mapE E U E.length a = none) := by
  by_cases h : ∃ k, k < E.length ∧ (E.getD k en0).id = a
  · obtain ⟨k, hk, e⟩ := h
    exact .inl ⟨k, hk, e, mapE_some (fun j hj hl => log_inj hv hl hk (hj.trans e.symm)) _ (Nat.le_refl _) hk e⟩
  · have h' : ∀ k, k < E.length → ¬ (E.getD k en0).id = a := fun k hk e => h ⟨k, hk, e⟩
    exact .inr ⟨h', mapE_none _ h'⟩
/-- What bookOf leaves, whatever entries there are. -/
theorem ibook_any (u : Value) (E : List En) (w : World) (h : Ens w u E) :
    ∃ U, (∀ k, k < E.length → Ids w (U k) (E.getD k en0).deps) ∧ Calls Try.prog 43 #[u] w (BkPost E U w) := by
  obtain ⟨a, cap, rfl, h1, h2, h3⟩ := h
  rcases h3 with h3 | ⟨b, off, U, rfl, h4⟩
  · obtain rfl : E = [] := List.length_eq_zero_iff.1 h3
    exact ⟨fun _ => .slice none 0 0, fun k hk => absurd hk (Nat.not_lt_zero _), ibook_nil a cap _ w⟩
  · exact ⟨U, fun k hk => (h4.at_ k hk).ids, ibook_at b off cap E U w h2 h4⟩
theorem en_resIf (tm : Array Value) (w : World) (b : Nat) (x0 x1 x2 x3 x4 x5 x6 x7 x8 : Value) (q : Bool) (t : TypeId) (h2 : tm[4]? = some (.pointer (some ⟨b, 0, none⟩))) (h3 : tm[5]? = some (.bool q)) (h : w.heap[b]? = some (.cells #[x0, x1, x2, x3, x4, x5, x6, x7, x8] t (0, 0))) :
    (results Try.f16 tm).run Try.prog w = .ok (.tuple #[.agg #[x0, x1, x2, x3, x4, x5, x6, x7, x8], .bool q]) w := by
  obtain ⟨t0, t1, t2, t3, t4, t5, t6, t7, t8⟩ := nine_cells h
  simp [results, Try.results16, go_sem, h2, h3, t0, t1, t2, t3, t4, t5, t6, t7, t8]

set_option maxRecDepth 100000 in
set_option maxHeartbeats 4000000 in
theorem ilfind_any (u : Value) (E : List En) (x y : Int) (w : World) (h : Ens w u E) (ha : inR (x, y)) :
    Calls Try.prog 16 #[u, .agg #[.int .i64 x, .int .i64 y]] w (LfP E (x, y) w) := by
  have B0 := Lib.hid (((Below.refl w.heap.size w).alloc (Nat.le_refl _) (.cells #[.int .i64 x, .int .i64 y] 25)).alloc (by simp) (.cells #[.int .i64 0, .int .i64 0, .int .i64 0, .int .i64 0, .int .i64 0, .int .i64 0, .int .i64 0, .int .i64 0, .slice none 0 0] 30))
  have A0 := Lib.hid ((Below.heap_alloc _ (.cells #[.int .i64 0, .int .i64 0, .int .i64 0, .int .i64 0, .int .i64 0, .int .i64 0, .int .i64 0, .int .i64 0, .slice none 0 0] 30) _ (by simp)).trans (heap_alloc_new w (.cells #[.int .i64 x, .int .i64 y] 25)))
  have O0 := Lib.hid (heap_alloc_at (w.alloc (.cells #[.int .i64 x, .int .i64 y] 25)) (.cells #[.int .i64 0, .int .i64 0, .int .i64 0, .int .i64 0, .int .i64 0, .int .i64 0, .int .i64 0, .int .i64 0, .slice none 0 0] 30) (w.heap.size + 1) (by simp))
  obtain ⟨U, hU, bk⟩ := ibook_any u E _ (h.up B0.out (Nat.le_refl _))
  have hU := Lib.hid hU
  have hz := Lib.hid (show ∀ W : World, (zeroValue 30).run Try.prog W = .ok (env en0 (.slice none 0 0)) W from fun W => Try.zeroValue30 W)
  unfold BkPost at bk
  have ic := fun (X : En) (ua : Option Addr) (un uc : Nat) (W : World) (H : Ids W (.slice ua un uc) X.deps) => icopy_any X (.slice ua un uc) W H
  obtain ⟨q, hq⟩ : ∃ q, Hid (logB E = q) := ⟨_, Lib.hid rfl⟩
  rw [hq.out] at bk
  clear h
  unfold LfP
  go_enter Try.func16, Try.ntmps16
  go_wp2_with fail
  refine bk.mono ?_
  rintro e w1 ⟨hcase, B⟩
  have A1 := Lib.hid (bblk B (lt_of_heap A0.out) A0.out)
  have O1 := Lib.hid (bblk B (lt_of_heap O0.out) O0.out)
  have B1 := Lib.hid (bstep B0.out B)
  have hU1 := Lib.hid (fun k (hk : k < E.length) => (hU.out k hk).up B (Nat.le_refl _))
  obtain ⟨a0, a1, _, _⟩ := blk2 A1.out
  have hal := lt_of_heap A1.out
  have hol := lt_of_heap O1.out
  -- the entry that comes: what was found, or none
  have key : ∃ (m : Value) (b : Bool) (X : En) (v : Value), e = .returned (.tuple #[m, .bool q]) ∧ (Instr.lookup 71 m (idv2 (x, y)) true).run Try.prog w1 = .ok (.tuple #[env X v, .bool b]) w1 ∧ lfindR E (x, y) = (X, b) ∧ Ids w1 v X.deps := by
    rcases hcase with ⟨hqt, bb, _, rfl, hB⟩ | ⟨hqf, rfl⟩
    · subst hqt
      have hl := hB.look Try.underlying71 (hz.out w1) ha
      rcases mapE_look hq.out U (x, y) with ⟨k, hk, e1, e2⟩ | ⟨e1, e2⟩
      · rw [e2] at hl
        exact ⟨_, _, _, _, rfl, hl, lfindR_some hq.out hk e1, hU1.out k hk⟩
      · rw [e2] at hl
        exact ⟨_, _, _, _, rfl, hl, lfindR_none e1, none, 0, rfl, Nat.zero_le _, Nat.zero_le _, .inl rfl⟩
    · subst hqf
      exact ⟨_, _, _, _, rfl, book_nil Try.underlying71 (hz.out w1) ha, lfindR_bad hq.out _, none, 0, rfl, Nat.zero_le _, Nat.zero_le _, .inl rfl⟩
  obtain ⟨m, b, X, v, rfl, hl, hR, hI⟩ := key
  obtain ⟨va, vn, vc, rfl⟩ : ∃ ua un uc, v = .slice ua un uc := by obtain ⟨a, c, e, _⟩ := hI; exact ⟨a, _, c, e⟩
  unfold idv2 env at hl
  have hR := Lib.hid hR
  have hl := hl
  have B2 := Lib.hid ((Below.refl w1.heap.size w1).alloc (Nat.le_refl _) (.cells #[.int .i64 X.id.1, .int .i64 X.id.2, .int .i64 X.bal, .int .i64 X.st, .int .i64 X.k, .int .i64 X.key, .int .i64 X.v, .int .i64 X.seq, .slice va vn vc] 30))
  have ic2 := ic X va vn vc _ (hI.up B2.out (Nat.le_refl _))
  clear hcase B hU hU1 bk ic hz hI A0 O0 B0
  unfold env at ic2
  obtain ⟨⟨p, r⟩, bal, st, k, key, s5, s, D⟩ := X
  dsimp only at hl ic2 B2
  go_wp2_with fail
  refine ic2.mono ?_
  rintro e w3 ⟨⟨u', rfl, hO⟩, B⟩
  have O3 := Lib.hid (bblk (B2.out.trans (B.mono B2.out.size)) hol O1.out)
  have B3 := Lib.hid (bstep B1.out (B2.out.trans (B.mono B2.out.size)))
  obtain ⟨wa, wn, wc, rfl⟩ : ∃ ua un uc, u' = .slice ua un uc := by obtain ⟨a, c, e, _⟩ := hO.read; exact ⟨a, _, c, e⟩
  have hO := Lib.hid hO
  clear ic2 B a0 a1 hl A1 O1 B1 B2
  obtain ⟨⟨y0, y1, y2, y3, y4, y5, y6, y7, y8⟩, ⟨g0, g1, g2, g3, g4, g5, g6, g7, g8⟩, s1⟩ := nine_all O3.out
  dsimp only
  go_wp2_with fail
  refine bodyPost_ret (en_resIf _ _ _ _ _ _ _ _ _ _ _ _ _ _ rfl rfl (put9_at _ _ _ _ _ _ _ _ _ O3.out)) rfl ?_
  rw [hR.out]
  refine ⟨_, rfl, ?_, B3.out.trans (put9_below _ _ _ _ _ _ _ _ _ (Nat.le_succ _))⟩
  rcases hO.out with h | ⟨b', h1, h2, h3⟩
  · exact .inl h
  · have hb : w.heap.size + 1 < b' := by simp at h1; omega
    exact .inr ⟨b', by omega, by simpa using h2, h3.same (put9_other _ _ _ _ _ _ _ _ _ (by omega))⟩
end Go.Proofs.Ytpckhghcjedblaa

/- Entries in boxes: what was found, in which order its box and its list were made. -/
namespace Go.Proofs.Ytpckhghcjedblaa
open Go.RowKit
set_option linter.unusedVariables false

/-- An entry in a box. -/
def BxE (w : World) (xb : Nat) (X : En) (u : Value) : Prop := w.heap[xb]? = some (.cells #[.int .i64 X.id.1, .int .i64 X.id.2, .int .i64 X.bal, .int .i64 X.st, .int .i64 X.k, .int .i64 X.key, .int .i64 X.v, .int .i64 X.seq, u] 30 (0, 0))
theorem BxE.up {w w' : World} {xb : Nat} {X : En} {u : Value} (h : BxE w xb X u) (hb : Below w.heap.size w w') : BxE w' xb X u := (hb.block xb (lt_of_heap h)).trans h
theorem BxE.apart {w w' : World} {P : Nat → Prop} {xb : Nat} {X : En} {u : Value} (h : BxE w xb X u) (he : Exc P w w') (hn : ¬ P xb) : BxE w' xb X u := he.at hn h
theorem BxE.cells {w : World} {xb : Nat} {X : En} {u : Value} (h : BxE w xb X u) : (w.cell? ⟨xb, 0, none⟩ = some (.int .i64 X.id.1) ∧ w.cell? ⟨xb, 1, none⟩ = some (.int .i64 X.id.2) ∧ w.cell? ⟨xb, 2, none⟩ = some (.int .i64 X.bal) ∧ w.cell? ⟨xb, 3, none⟩ = some (.int .i64 X.st) ∧ w.cell? ⟨xb, 4, none⟩ = some (.int .i64 X.k) ∧ w.cell? ⟨xb, 5, none⟩ = some (.int .i64 X.key) ∧ w.cell? ⟨xb, 6, none⟩ = some (.int .i64 X.v) ∧ w.cell? ⟨xb, 7, none⟩ = some (.int .i64 X.seq) ∧ w.cell? ⟨xb, 8, none⟩ = some u) ∧ xb < w.heap.size := ⟨nine_cells h, lt_of_heap h⟩
/-- An entry in a box, with its list: neither is touched where the other is. -/
def FxE (w : World) (xb : Nat) (X : En) (u : Value) (B T : Nat) : Prop := BxE w xb X u ∧ OwZ w B T u X.deps ∧ ¬ (B ≤ xb ∧ xb < T)
theorem FxE.up {w w' : World} {xb B T : Nat} {X : En} {u : Value} (h : FxE w xb X u B T) (hb : Below w.heap.size w w') : FxE w' xb X u B T := ⟨h.1.up hb, h.2.1.up hb, h.2.2⟩
theorem FxE.apart {w w' : World} {P : Nat → Prop} {xb B T : Nat} {X : En} {u : Value} (h : FxE w xb X u B T) (he : Exc P w w') (hx : ¬ P xb) (hn : ∀ b, B ≤ b → b < T → ¬ P b) : FxE w' xb X u B T := ⟨h.1.apart he hx, h.2.1.apart he hn, h.2.2⟩
theorem OwZ.put9 {W : World} {B T xb : Nat} {u : Value} {C : List Pid} (h : OwZ W B T u C) (hn : ¬ (B ≤ xb ∧ xb < T)) (x0 x1 x2 x3 x4 x5 x6 x7 x8 : Value) : OwZ (((((((((W.setCell ⟨xb, 0, none⟩ x0).setCell ⟨xb, 1, none⟩ x1).setCell ⟨xb, 2, none⟩ x2).setCell ⟨xb, 3, none⟩ x3).setCell ⟨xb, 4, none⟩ x4).setCell ⟨xb, 5, none⟩ x5).setCell ⟨xb, 6, none⟩ x6).setCell ⟨xb, 7, none⟩ x7).setCell ⟨xb, 8, none⟩ x8) B T u C := by
  rcases h with h | ⟨b, h1, h2, h3⟩
  · exact .inl h
  · exact .inr ⟨b, h1, h2, h3.same (put9_other _ _ _ _ _ _ _ _ _ (fun e => hn (by subst e; exact ⟨h1, h2⟩)))⟩
/-- What a region that finds an entry leaves. -/
def LfQ (X : En) (q : Bool) (w : World) (s s' : Value) (wx : World) : Prop :=
  ∃ xb u B T, s = .pointer (some ⟨xb, 0, none⟩) ∧ s' = .bool q ∧ FxE wx xb X u B T ∧ w.heap.size ≤ xb ∧ w.heap.size ≤ B ∧ T ≤ wx.heap.size ∧ Below w.heap.size w wx
/-- Within the region: its box. -/
structure FE (w0 W : World) (ox : Option Nat) : Prop where
  kp : Below w0.heap.size w0 W
  bx : ∀ b, ox = some b → w0.heap.size ≤ b ∧ W.heap[b]? = some (.cells #[.int .i64 0, .int .i64 0, .int .i64 0, .int .i64 0, .int .i64 0, .int .i64 0, .int .i64 0, .int .i64 0, .slice none 0 0] 30 (0, 0))
theorem FE.start {w0 : World} : FE w0 w0.drew none := ⟨Below.drew (Below.refl _ _), fun _ h => nomatch h⟩
theorem FE.low {w0 W W' : World} {ox : Option Nat} (h : FE w0 W ox) (B : Below W.heap.size W W') : FE w0 W' ox :=
  ⟨bstep h.kp B, fun b e => ⟨(h.bx b e).1, (B.block b (lt_of_heap (h.bx b e).2)).trans (h.bx b e).2⟩⟩
theorem FE.box {w0 W : World} {ox : Option Nat} (h : FE w0 W ox) : FE w0 (W.alloc (.cells #[.int .i64 0, .int .i64 0, .int .i64 0, .int .i64 0, .int .i64 0, .int .i64 0, .int .i64 0, .int .i64 0, .slice none 0 0] 30)) (some W.heap.size) :=
  ⟨h.kp.alloc h.kp.size _, fun b e => by injection e with e; subst e; exact ⟨h.kp.size, heap_alloc_new W _⟩⟩
theorem FE.done {w0 W : World} {xb B T : Nat} {X : En} {q : Bool} {u : Value} (h : FE w0 W (some xb)) (hO : OwZ W B T u X.deps) (h1 : w0.heap.size ≤ B) (h2 : T ≤ W.heap.size) (h3 : ¬ (B ≤ xb ∧ xb < T)) :
    LfQ X q w0 (.pointer (some ⟨xb, 0, none⟩)) (.bool q) (((((((((W.setCell ⟨xb, 0, none⟩ (.int .i64 X.id.1)).setCell ⟨xb, 1, none⟩ (.int .i64 X.id.2)).setCell ⟨xb, 2, none⟩ (.int .i64 X.bal)).setCell ⟨xb, 3, none⟩ (.int .i64 X.st)).setCell ⟨xb, 4, none⟩ (.int .i64 X.k)).setCell ⟨xb, 5, none⟩ (.int .i64 X.key)).setCell ⟨xb, 6, none⟩ (.int .i64 X.v)).setCell ⟨xb, 7, none⟩ (.int .i64 X.seq)).setCell ⟨xb, 8, none⟩ u) := by
  obtain ⟨g1, g2⟩ := h.bx xb rfl
  exact ⟨xb, u, B, T, rfl, rfl, ⟨put9_at _ _ _ _ _ _ _ _ _ g2, hO.put9 h3 _ _ _ _ _ _ _ _ _, h3⟩, g1, h1, by simpa using h2, h.kp.trans (put9_below _ _ _ _ _ _ _ _ _ g1)⟩
end Go.Proofs.Ytpckhghcjedblaa
