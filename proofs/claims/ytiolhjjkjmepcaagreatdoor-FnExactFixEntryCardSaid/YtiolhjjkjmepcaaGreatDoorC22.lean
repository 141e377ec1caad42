/- Texts laid together. -/
import Derived.Test.YtiolhjjkjmepcaaGreatDoorC13
import Derived.Test.YtiolhjjkjmepcaaGreatDoorC07
import Derived.Test.YtiolhjjkjmepcaaGreatDoorC04
import Derived.Test.YtiolhjjkjmepcaaGreatDoorC20
import Derived.Test.YtiolhjjkjmepcaaGreatDoorC08
/- The program's LogPut. -/
namespace Go.Proofs.YtiolhjjkjmepcaaGreatDoor
open Go.RowKit
set_option linter.unusedVariables false

/-- What LogPut leaves. -/
def LpZ (E : List En) (X : En) (w : World) (e : Ending) (w' : World) : Prop :=
  (∃ v, e = .returned (.tuple #[v, .bool (lputR E X).2]) ∧ LogO w' w.heap.size w'.heap.size v (lputR E X).1) ∧ Below w.heap.size w w'
theorem lpz_fail {E : List En} {X : En} {w w2 : World} (B : Below w.heap.size w w2) (h : lputR E X = ([], false)) : LpZ E X w (.returned (.tuple #[.slice (some ⟨w2.heap.size, 0, none⟩) 0 0, .bool false])) (w2.alloc (.cells #[] 30)) := by
  unfold LpZ
  rw [h]
  exact ⟨⟨_, rfl, by have := LogO.none w2 w.heap.size B.size; simpa using this⟩, B.alloc B.size _⟩

set_option maxRecDepth 100000 in
set_option maxHeartbeats 4000000 in
theorem ilput_any (u : Value) (E : List En) (X : En) (v : Value) (w : World) (h : Ens w u E) (hv : Ids w v X.deps) :
    Calls Tryz.prog 16 #[u, env X v] w (LpZ E X w) := by
  obtain ⟨ua0, un0, uc0, rfl⟩ : ∃ ua un uc, v = .slice ua un uc := by obtain ⟨a, c, e, _⟩ := hv; exact ⟨a, _, c, e⟩
  have A0 := Lib.hid (heap_alloc_new w (.cells #[.int .i64 X.id.1, .int .i64 X.id.2, .int .i64 X.bal, .int .i64 X.st, .int .i64 X.k, .int .i64 X.key, .int .i64 X.v, .int .i64 X.seq, .slice ua0 un0 uc0] 30))
  have B0 := Lib.hid ((Below.refl w.heap.size w).alloc (Nat.le_refl _) (.cells #[.int .i64 X.id.1, .int .i64 X.id.2, .int .i64 X.bal, .int .i64 X.st, .int .i64 X.k, .int .i64 X.key, .int .i64 X.v, .int .i64 X.seq, .slice ua0 un0 uc0] 30))
  obtain ⟨U, hU, bk⟩ := ibook_any u E _ (h.up B0.out (Nat.le_refl _))
  have hU := Lib.hid hU
  have nv := fun W (H : Ids W (.slice ua0 un0 uc0) X.deps) => ievalid_any X (.slice ua0 un0 uc0) W H
  have hI := Lib.hid (fun W (hb : Below w.heap.size w W) => hv.up hb (Nat.le_refl _))
  unfold BkPost at bk
  obtain ⟨q, hq⟩ : ∃ q, Hid (logB E = q) := ⟨_, Lib.hid rfl⟩
  obtain ⟨p, hp⟩ : ∃ q, Hid (enB X = q) := ⟨_, Lib.hid rfl⟩
  rw [hq.out] at bk
  rw [hp.out] at nv
  clear h hv
  unfold env at nv ⊢
  go_enter Tryz.func16, Tryz.ntmps16
  go_wp2_with fail
  refine bk.mono ?_
  rintro e w1 ⟨⟨hqt, bb, hbb, rfl, hB⟩ | ⟨hqf, rfl⟩, B⟩
  · subst hqt
    have A1 := Lib.hid (bblk B (lt_of_heap A0.out) A0.out)
    have B1 := Lib.hid (bstep B0.out B)
    have hU1 := Lib.hid (fun k (hk : k < E.length) => (hU.out k hk).up B (Nat.le_refl _))
    have hB := Lib.hid hB
    replace hbb : w.heap.size < bb := by simp at hbb; omega
    clear B A0 B0 bk hU
    obtain ⟨⟨y0, y1, y2, y3, y4, y5, y6, y7, y8⟩, _, ys⟩ := nine_all A1.out
    go_wp2_with fail
    refine (nv _ (hI.out _ B1.out)).mono ?_
    rintro e w2 ⟨rfl, B⟩
    have A2 := Lib.hid (bblk B (lt_of_heap A1.out) A1.out)
    have B2 := Lib.hid (bstep B1.out B)
    have hU2 := Lib.hid (fun k (hk : k < E.length) => (hU1.out k hk).up B (Nat.le_refl _))
    replace hB := Lib.hid (hB.out.up B hB.out.lt)
    clear B A1 B1 nv hU1 y0 y1 y2 y3 y4 y5 y6 y7 y8 ys
    cases p
    · have R := Lib.hid (lpz_fail B2.out (lputR_bad2 (E := E) hp.out))
      go_wp2_with fail
      go_ret2
      exact R.out
    · have hlog := Lib.hid (log_of hq.out)
      have hE12 := hlog.out.1
      have hbz : w.heap.size < bb := hbb
      have bp := ibput_any bb _ _ E X (.slice ua0 un0 uc0) w2 (by unfold maxLen; omega) hp.out (bkE_log hq.out hB.out hU2.out) (hI.out _ B2.out)
      unfold BpZ at bp
      have hs2 := B2.out.size
      have hR : Hid (lputR E X = bputR E X) := Lib.hid (by
        unfold bputR
        by_cases h12 : (putE X E).length ≤ 12
        · rw [lputR_good hq.out hp.out h12, if_pos h12]
        · rw [lputR_long h12, if_neg h12])
      obtain ⟨⟨N, q2⟩, hQ⟩ : ∃ r, Hid (bputR E X = r) := ⟨_, Lib.hid rfl⟩
      rw [hQ.out] at bp hR
      dsimp only at bp
      unfold env at bp
      obtain ⟨⟨y0, y1, y2, y3, y4, y5, y6, y7, y8⟩, _, ys⟩ := nine_all A2.out
      clear hB hU2 hI A2 hlog
      go_wp2_with fail
      refine bp.mono ?_
      rintro e w4 ⟨⟨v4, rfl, O4⟩, K4⟩
      have B4 : Hid (Below w.heap.size w w4) := Lib.hid (B2.out.trans ((K4.mono hs2).below (Nat.le_of_lt hbz)))
      have O4 := Lib.hid (O4.wide hs2 (Nat.le_refl _) (Nat.le_refl _))
      obtain ⟨g4, c4, hv4, _⟩ := O4.out.shape
      subst hv4
      clear K4 bp y0 y1 y2 y3 y4 y5 y6 y7 y8 ys
      go_wp2_with fail
      go_ret2
      rw [LpZ, hR.out]
      exact ⟨⟨_, rfl, O4.out⟩, B4.out⟩
  · subst hqf
    have B1 := Lib.hid (bstep B0.out B)
    have R := Lib.hid (lpz_fail B1.out (lputR_bad (e := X) hq.out))
    clear bk B A0 B0 nv hU hI
    go_wp2_with fail
    go_ret2
    exact R.out
end Go.Proofs.YtiolhjjkjmepcaaGreatDoor

/- The program's LogFind. -/
namespace Go.Proofs.YtiolhjjkjmepcaaGreatDoor
open Go.RowKit
set_option linter.unusedVariables false

theorem en_resIf (tm : Array Value) (w : World) (b : Nat) (x0 x1 x2 x3 x4 x5 x6 x7 x8 : Value) (q : Bool) (t : TypeId) (h2 : tm[4]? = some (.pointer (some ⟨b, 0, none⟩))) (h3 : tm[5]? = some (.bool q)) (h : w.heap[b]? = some (.cells #[x0, x1, x2, x3, x4, x5, x6, x7, x8] t (0, 0))) :
    (results Tryz.f21 tm).run Tryz.prog w = .ok (.tuple #[.agg #[x0, x1, x2, x3, x4, x5, x6, x7, x8], .bool q]) w := by
  obtain ⟨t0, t1, t2, t3, t4, t5, t6, t7, t8⟩ := nine_cells h
  simp [results, Tryz.results21, go_sem, h2, h3, t0, t1, t2, t3, t4, t5, t6, t7, t8]

set_option maxRecDepth 100000 in
set_option maxHeartbeats 4000000 in
theorem ilfind_any (u : Value) (E : List En) (x y : Int) (w : World) (h : Ens w u E) (ha : inR (x, y)) :
    Calls Tryz.prog 21 #[u, .agg #[.int .i64 x, .int .i64 y]] w (LfP E (x, y) w) := by
  have B0 := Lib.hid (((Below.refl w.heap.size w).alloc (Nat.le_refl _) (.cells #[.int .i64 x, .int .i64 y] 25)).alloc (by simp) (.cells #[.int .i64 0, .int .i64 0, .int .i64 0, .int .i64 0, .int .i64 0, .int .i64 0, .int .i64 0, .int .i64 0, .slice none 0 0] 30))
  have A0 := Lib.hid ((Below.heap_alloc _ (.cells #[.int .i64 0, .int .i64 0, .int .i64 0, .int .i64 0, .int .i64 0, .int .i64 0, .int .i64 0, .int .i64 0, .slice none 0 0] 30) _ (by simp)).trans (heap_alloc_new w (.cells #[.int .i64 x, .int .i64 y] 25)))
  have O0 := Lib.hid (heap_alloc_at (w.alloc (.cells #[.int .i64 x, .int .i64 y] 25)) (.cells #[.int .i64 0, .int .i64 0, .int .i64 0, .int .i64 0, .int .i64 0, .int .i64 0, .int .i64 0, .int .i64 0, .slice none 0 0] 30) (w.heap.size + 1) (by simp))
  obtain ⟨U, hU, bk⟩ := ibook_any u E _ (h.up B0.out (Nat.le_refl _))
  have hU := Lib.hid hU
  have hz := Lib.hid (show ∀ W : World, (zeroValue 30).run Tryz.prog W = .ok (env en0 (.slice none 0 0)) W from fun W => Tryz.zeroValue30 W)
  unfold BkPost at bk
  have ic := fun (X : En) (ua : Option Addr) (un uc : Nat) (W : World) (H : Ids W (.slice ua un uc) X.deps) => icopy_any X (.slice ua un uc) W H
  obtain ⟨q, hq⟩ : ∃ q, Hid (logB E = q) := ⟨_, Lib.hid rfl⟩
  rw [hq.out] at bk
  clear h
  unfold LfP
  go_enter Tryz.func21, Tryz.ntmps21
  go_wp2_with fail
  refine bk.mono ?_
  rintro e w1 ⟨hcase, B⟩
  have A1 := Lib.hid (bblk B (lt_of_heap A0.out) A0.out)
  have O1 := Lib.hid (bblk B (lt_of_heap O0.out) O0.out)
  have B1 := Lib.hid (bstep B0.out B)
  have hU1 := Lib.hid (fun k (hk : k < E.length) => (hU.out k hk).up B (Nat.le_refl _))
  obtain ⟨a0, a1, _, _⟩ := blk2 A1.out
  have hal := lt_of_heap A1.out
  have hol := lt_of_heap O1.out
  -- the entry that comes: what was found, or none
  have key : ∃ (m : Value) (b : Bool) (X : En) (v : Value), e = .returned (.tuple #[m, .bool q]) ∧ (Instr.lookup 60 m (idv2 (x, y)) true).run Tryz.prog w1 = .ok (.tuple #[env X v, .bool b]) w1 ∧ lfindR E (x, y) = (X, b) ∧ Ids w1 v X.deps := by
    rcases hcase with ⟨hqt, bb, _, rfl, hB⟩ | ⟨hqf, rfl⟩
    · subst hqt
      have hl := hB.look Tryz.underlying60 (hz.out w1) ha
      rcases mapE_look hq.out U (x, y) with ⟨k, hk, e1, e2⟩ | ⟨e1, e2⟩
      · rw [e2] at hl
        exact ⟨_, _, _, _, rfl, hl, lfindR_some hq.out hk e1, hU1.out k hk⟩
      · rw [e2] at hl
        exact ⟨_, _, _, _, rfl, hl, lfindR_none e1, none, 0, rfl, Nat.zero_le _, Nat.zero_le _, .inl rfl⟩
    · subst hqf
      exact ⟨_, _, _, _, rfl, book_nil Tryz.underlying60 (hz.out w1) ha, lfindR_bad hq.out _, none, 0, rfl, Nat.zero_le _, Nat.zero_le _, .inl rfl⟩
  obtain ⟨m, b, X, v, rfl, hl, hR, hI⟩ := key
  obtain ⟨va, vn, vc, rfl⟩ : ∃ ua un uc, v = .slice ua un uc := by obtain ⟨a, c, e, _⟩ := hI; exact ⟨a, _, c, e⟩
  unfold idv2 env at hl
  have hR := Lib.hid hR
  have hl := hl
  have B2 := Lib.hid ((Below.refl w1.heap.size w1).alloc (Nat.le_refl _) (.cells #[.int .i64 X.id.1, .int .i64 X.id.2, .int .i64 X.bal, .int .i64 X.st, .int .i64 X.k, .int .i64 X.key, .int .i64 X.v, .int .i64 X.seq, .slice va vn vc] 30))
  have ic2 := ic X va vn vc _ (hI.up B2.out (Nat.le_refl _))
  clear hcase B hU hU1 bk ic hz hI A0 O0 B0
  unfold env at ic2
  obtain ⟨⟨p, r⟩, bal, st, k, key, s5, s, D⟩ := X
  dsimp only at hl ic2 B2
  go_wp2_with fail
  refine ic2.mono ?_
  rintro e w3 ⟨⟨u', rfl, hO⟩, B⟩
  have O3 := Lib.hid (bblk (B2.out.trans (B.mono B2.out.size)) hol O1.out)
  have B3 := Lib.hid (bstep B1.out (B2.out.trans (B.mono B2.out.size)))
  obtain ⟨wa, wn, wc, rfl⟩ : ∃ ua un uc, u' = .slice ua un uc := by obtain ⟨a, c, e, _⟩ := hO.read; exact ⟨a, _, c, e⟩
  have hO := Lib.hid hO
  clear ic2 B a0 a1 hl A1 O1 B1 B2
  obtain ⟨⟨y0, y1, y2, y3, y4, y5, y6, y7, y8⟩, ⟨g0, g1, g2, g3, g4, g5, g6, g7, g8⟩, s1⟩ := nine_all O3.out
  dsimp only
  go_wp2_with fail
  refine bodyPost_ret (en_resIf _ _ _ _ _ _ _ _ _ _ _ _ _ _ rfl rfl (put9_at _ _ _ _ _ _ _ _ _ O3.out)) rfl ?_
  rw [hR.out]
  refine ⟨_, rfl, ?_, B3.out.trans (put9_below _ _ _ _ _ _ _ _ _ (Nat.le_succ _))⟩
  rcases hO.out with h | ⟨b', h1, h2, h3⟩
  · exact .inl h
  · have hb : w.heap.size + 1 < b' := by simp at h1; omega
    exact .inr ⟨b', by omega, by simpa using h2, h3.same (put9_other _ _ _ _ _ _ _ _ _ (by omega))⟩
end Go.Proofs.YtiolhjjkjmepcaaGreatDoor
