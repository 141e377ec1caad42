/- Texts laid together. -/
import Derived.Test.YtlipmjbeiiifkaaC14
import Derived.Test.YtlipmjbeiiifkaaC04
import Derived.Deep.RegionWith
import Derived.Maps.AppendAt
import Derived.Test.YtlipmjbeiiifkaaC12
import Derived.Lib.SliceRun
/- The model's l11Copy. -/
namespace Go.Proofs.Ytlipmjbeiiifkaa
open Go.RowKit
set_option linter.unusedVariables false

theorem en_resC (tm : Array Value) (w : World) (b : Nat) (x0 x1 x2 x3 x4 x5 x6 x7 x8 : Value) (t : TypeId) (h2 : tm[2]? = some (.pointer (some ⟨b, 0, none⟩))) (h : w.heap[b]? = some (.cells #[x0, x1, x2, x3, x4, x5, x6, x7, x8] t (0, 0))) :
    (results Try.f59 tm).run Try.prog w = .ok (.agg #[x0, x1, x2, x3, x4, x5, x6, x7, x8]) w := by
  obtain ⟨t0, t1, t2, t3, t4, t5, t6, t7, t8⟩ := nine_cells h
  simp [results, Try.results59, go_sem, h2, t0, t1, t2, t3, t4, t5, t6, t7, t8]
theorem three_a (w : World) (o1 o2 o3 : Obj) : (((w.alloc o1).alloc o2).alloc o3).heap[w.heap.size]? = some o1 :=
  (Below.heap_alloc _ _ w.heap.size (by simp; omega)).trans ((Below.heap_alloc _ _ w.heap.size (by simp)).trans (heap_alloc_new w o1))
theorem three_b (w : World) (o1 o2 o3 : Obj) : (((w.alloc o1).alloc o2).alloc o3).heap[w.heap.size + 1]? = some o2 :=
  (Below.heap_alloc _ _ (w.heap.size + 1) (by simp)).trans (heap_alloc_at (w.alloc o1) o2 (w.heap.size + 1) (by simp))
theorem row_same {w w' : World} {B C : Nat} {v : Value} {O : List Pid} (h : Row w B v O) (hC : C ≤ B) (hs : ∀ k, B ≤ k → w'.heap[k]? = w.heap[k]?) : Row w' C v O := by
  obtain ⟨⟨h1, h2⟩, h3⟩ := h
  refine ⟨⟨h1, ?_⟩, h3⟩
  rcases h2 with hn | ⟨g, cap, cur, rfl, hb, hg, rest⟩
  · exact .inl hn
  · exact .inr ⟨g, cap, cur, rfl, Nat.le_trans hC hb, (hs g hb).trans hg, rest⟩
theorem flatc_src {w : World} {b off : Nat} {C : List Pid} (h : ∀ i, i < C.length → w.cell? ⟨b, off + i * 2, none⟩ = some (.int .i64 (C.getD i nop).1) ∧ w.cell? ⟨b, off + i * 2 + 1, none⟩ = some (.int .i64 (C.getD i nop).2)) :
    ∀ j u, (flatP C)[j]? = some u → w.cell? (Addr.add ⟨b, off, none⟩ j) = some u := by
  intro j u hj
  have hl : j < C.length * 2 := by
    have := (List.getElem?_eq_some_iff.1 hj).1
    rw [flatP_len] at this; exact this
  have hk : j / 2 < C.length := by omega
  obtain ⟨g0, g1⟩ := flatP_get C (j / 2) hk
  obtain ⟨c0, c1⟩ := h (j / 2) hk
  have ha : (⟨b, off, none⟩ : Addr).add j = ⟨b, off + j, none⟩ := by simp [Addr.add]
  rw [ha]
  rcases (show j = j / 2 * 2 ∨ j = j / 2 * 2 + 1 by omega) with e | e
  · rw [← e] at g0 c0
    rw [hj] at g0
    rw [g0]; exact c0
  · rw [← e] at g1
    rw [hj] at g1
    rw [Nat.add_assoc, ← e] at c1
    rw [g1]; exact c1

set_option maxRecDepth 100000 in
set_option maxHeartbeats 2000000 in
/-- A copy of an entry: its list lies in a row of its own, behind what was there. -/
theorem copy_at (p q bal st k key v seq : Int) (D : List Pid) (u : Value) (w : World) (h : Ids w u D) :
    Calls Try.prog 59 #[.agg #[.int .i64 p, .int .i64 q, .int .i64 bal, .int .i64 st, .int .i64 k, .int .i64 key, .int .i64 v, .int .i64 seq, u]] w fun r w' => (∃ u', r = .returned (.agg #[.int .i64 p, .int .i64 q, .int .i64 bal, .int .i64 st, .int .i64 k, .int .i64 key, .int .i64 v, .int .i64 seq, u']) ∧ Row w' w.heap.size u' D) ∧ Below w.heap.size w w' := by
  obtain ⟨i0, hi, hz0, hz1, hz2⟩ := info_parts infoP
  obtain ⟨a, cap, rfl, hc, hm, h⟩ := h
  go_enter Try.func59, Try.ntmps59
  rcases a with _ | ⟨b, off, sub⟩
  · obtain rfl : D = [] := by
      rcases h with h | ⟨_, _, h, _⟩
      · exact List.length_eq_zero_iff.1 h
      · cases h
    clear h hc hm
    have hR := row_new ((w.alloc (.cells #[.int .i64 p, .int .i64 q, .int .i64 bal, .int .i64 st, .int .i64 k, .int .i64 key, .int .i64 v, .int .i64 seq, .slice (some ⟨w.heap.size + 1 + 1, 0, none⟩) 0 0] 30)).alloc (.cells #[.int .i64 p, .int .i64 q, .int .i64 bal, .int .i64 st, .int .i64 k, .int .i64 key, .int .i64 v, .int .i64 seq, .slice (some ⟨w.heap.size + 1 + 1, 0, none⟩) 0 0] 30)) w.heap.size (by simp; omega)
    have B0 : Below w.heap.size w (((w.alloc (.cells #[.int .i64 p, .int .i64 q, .int .i64 bal, .int .i64 st, .int .i64 k, .int .i64 key, .int .i64 v, .int .i64 seq, .slice (some ⟨w.heap.size + 1 + 1, 0, none⟩) 0 0] 30)).alloc (.cells #[.int .i64 p, .int .i64 q, .int .i64 bal, .int .i64 st, .int .i64 k, .int .i64 key, .int .i64 v, .int .i64 seq, .slice (some ⟨w.heap.size + 1 + 1, 0, none⟩) 0 0] 30)).alloc (.cells #[] 25)) := (((Below.refl _ _).alloc (Nat.le_refl _) _).alloc (by simp) _).alloc (by simp; omega) _
    have e0 : ((w.alloc (.cells #[.int .i64 p, .int .i64 q, .int .i64 bal, .int .i64 st, .int .i64 k, .int .i64 key, .int .i64 v, .int .i64 seq, .slice (some ⟨w.heap.size + 1 + 1, 0, none⟩) 0 0] 30)).alloc (.cells #[.int .i64 p, .int .i64 q, .int .i64 bal, .int .i64 st, .int .i64 k, .int .i64 key, .int .i64 v, .int .i64 seq, .slice (some ⟨w.heap.size + 1 + 1, 0, none⟩) 0 0] 30)).heap.size = w.heap.size + 1 + 1 := by simp
    have hA : (((w.alloc (.cells #[.int .i64 p, .int .i64 q, .int .i64 bal, .int .i64 st, .int .i64 k, .int .i64 key, .int .i64 v, .int .i64 seq, .slice (some ⟨w.heap.size + 1 + 1, 0, none⟩) 0 0] 30)).alloc (.cells #[.int .i64 p, .int .i64 q, .int .i64 bal, .int .i64 st, .int .i64 k, .int .i64 key, .int .i64 v, .int .i64 seq, .slice (some ⟨w.heap.size + 1 + 1, 0, none⟩) 0 0] 30)).alloc (.cells #[] 25)).heap[w.heap.size + 1]? = some (.cells #[.int .i64 p, .int .i64 q, .int .i64 bal, .int .i64 st, .int .i64 k, .int .i64 key, .int .i64 v, .int .i64 seq, .slice (some ⟨w.heap.size + 1 + 1, 0, none⟩) 0 0] 30 (0, 0)) := three_b _ _ _ _
    rw [e0] at hR
    have hR := Lib.hid hR
    have B0 := Lib.hid B0
    have hA := Lib.hid hA
    clear e0
    go_wp2_with fail
    exact bodyPost_ret (en_resC _ _ _ _ _ _ _ _ _ _ _ _ _ rfl hA.out) rfl ⟨⟨_, rfl, hR.out⟩, B0.out⟩
  · have hs : ∀ j u, (flatP D)[j]? = some u → b < w.heap.size ∧ w.cell? (Addr.add ⟨b, off, sub⟩ j) = some u := by
      rcases h with h | ⟨b', off', e, hb, h⟩
      · obtain rfl := List.length_eq_zero_iff.1 h
        intro j u hj
        simp [flatP] at hj
      · cases e
        exact fun j u hj => ⟨hb, flatc_src h j u hj⟩
    have hs := Lib.hid hs
    obtain ⟨n, hn⟩ : ∃ n, Hid (D.length = n) := ⟨_, Lib.hid rfl⟩
    rw [hn.out] at hc hm ⊢
    clear h
    have hR := row_new ((w.alloc (.cells #[.int .i64 p, .int .i64 q, .int .i64 bal, .int .i64 st, .int .i64 k, .int .i64 key, .int .i64 v, .int .i64 seq, .slice (some ⟨b, off, sub⟩) n cap] 30)).alloc (.cells #[.int .i64 0, .int .i64 0, .int .i64 0, .int .i64 0, .int .i64 0, .int .i64 0, .int .i64 0, .int .i64 0, .slice none 0 0] 30)) (w.heap.size + 1 + 1) (by simp)
    have e0 : ((w.alloc (.cells #[.int .i64 p, .int .i64 q, .int .i64 bal, .int .i64 st, .int .i64 k, .int .i64 key, .int .i64 v, .int .i64 seq, .slice (some ⟨b, off, sub⟩) n cap] 30)).alloc (.cells #[.int .i64 0, .int .i64 0, .int .i64 0, .int .i64 0, .int .i64 0, .int .i64 0, .int .i64 0, .int .i64 0, .slice none 0 0] 30)).heap.size = w.heap.size + 1 + 1 := by simp
    rw [e0] at hR
    have hR := Lib.hid hR
    have B0 := Lib.hid (show Below w.heap.size w (((w.alloc (.cells #[.int .i64 p, .int .i64 q, .int .i64 bal, .int .i64 st, .int .i64 k, .int .i64 key, .int .i64 v, .int .i64 seq, .slice (some ⟨b, off, sub⟩) n cap] 30)).alloc (.cells #[.int .i64 0, .int .i64 0, .int .i64 0, .int .i64 0, .int .i64 0, .int .i64 0, .int .i64 0, .int .i64 0, .slice none 0 0] 30)).alloc (.cells #[] 25)) from (((Below.refl _ _).alloc (Nat.le_refl _) _).alloc (by simp) _).alloc (by simp; omega) _)
    have A0 := Lib.hid (show (((w.alloc (.cells #[.int .i64 p, .int .i64 q, .int .i64 bal, .int .i64 st, .int .i64 k, .int .i64 key, .int .i64 v, .int .i64 seq, .slice (some ⟨b, off, sub⟩) n cap] 30)).alloc (.cells #[.int .i64 0, .int .i64 0, .int .i64 0, .int .i64 0, .int .i64 0, .int .i64 0, .int .i64 0, .int .i64 0, .slice none 0 0] 30)).alloc (.cells #[] 25)).heap[w.heap.size]? = some (.cells #[.int .i64 p, .int .i64 q, .int .i64 bal, .int .i64 st, .int .i64 k, .int .i64 key, .int .i64 v, .int .i64 seq, .slice (some ⟨b, off, sub⟩) n cap] 30 (0, 0)) from three_a _ _ _ _)
    have A1 := Lib.hid (show (((w.alloc (.cells #[.int .i64 p, .int .i64 q, .int .i64 bal, .int .i64 st, .int .i64 k, .int .i64 key, .int .i64 v, .int .i64 seq, .slice (some ⟨b, off, sub⟩) n cap] 30)).alloc (.cells #[.int .i64 0, .int .i64 0, .int .i64 0, .int .i64 0, .int .i64 0, .int .i64 0, .int .i64 0, .int .i64 0, .slice none 0 0] 30)).alloc (.cells #[] 25)).heap[w.heap.size + 1]? = some (.cells #[.int .i64 0, .int .i64 0, .int .i64 0, .int .i64 0, .int .i64 0, .int .i64 0, .int .i64 0, .int .i64 0, .slice none 0 0] 30 (0, 0)) from three_b _ _ _ _)
    clear e0
    go_wp2_with (at_builtin; go_loud (refine wpList_append_own_at _ rfl _ _ 28 rfl (w.heap.size + 1 + 1) 25 i0 (.agg #[.int .i64 0, .int .i64 0]) 2 16 Try.underlying28 hi hz0 hz1 hz2 rfl (by decide) _ _ _ rfl hR.out.1 ⟨b, off, sub⟩ n cap (flatP D) rfl ?gc0 ?gc1 ?gc2 ?gc3 ?gc4 ?gc5 ?_))
    case gc0 => rw [flatP_len, hn.out]
    case gc1 =>
      intro j u hj
      obtain ⟨hb, e⟩ := hs.out j u hj
      exact (B0.out.cell (p := Addr.add ⟨b, off, sub⟩ j) (by simp only [Addr.add]; split <;> exact hb)).trans e
    case gc2 => exact flatP_one _
    case gc3 => show (0 : Nat) + n ≤ maxLen; unfold maxLen; omega
    case gc4 => show ((0 : Nat) + n) * 16 ≤ _; omega
    case gc5 => simp
    intro v5 w5 hown' hgrow hnil hat
    have R5 : Row w5 (w.heap.size + 1 + 1) v5 D := ⟨by rw [hn.out]; simpa [flatP] using hown', fun e => hnil e⟩
    obtain ⟨g5, c5, rfl, hg1, hg2, _, _⟩ := R5.shape
    have b5 := grown_below hR.out hgrow (by simp)
    have o0 := Lib.hid ((b5.block w.heap.size (by omega)).trans A0.out)
    have o1 := Lib.hid ((b5.block (w.heap.size + 1) (by omega)).trans A1.out)
    have B5 := Lib.hid (B0.out.trans (b5.mono (by omega)))
    have R5 := Lib.hid R5
    clear hown' hgrow hnil hat b5 B0 A0 A1 hR hs hg1 hg2
    obtain ⟨⟨x0, x1, x2, x3, x4, x5, x6, x7, x8⟩, ⟨f0, f1, f2, f3, f4, f5, f6, f7, f8⟩, s0⟩ := nine_all o0.out
    obtain ⟨⟨y0, y1, y2, y3, y4, y5, y6, y7, y8⟩, ⟨g0, g1, g2, g3, g4, g5', g6, g7, g8⟩, s1⟩ := nine_all o1.out
    go_wp2_with fail
    have o8 := (heap_setCell_other w5 ⟨w.heap.size, 8, none⟩ (w.heap.size + 1) (.slice (some ⟨g5, 0, none⟩) D.length c5) (by first | (simp; done) | (simp; omega))).trans o1.out
    refine bodyPost_ret (en_resC _ _ _ _ _ _ _ _ _ _ _ _ _ rfl (put9_at (.int .i64 p) (.int .i64 q) (.int .i64 bal) (.int .i64 st) (.int .i64 k) (.int .i64 key) (.int .i64 v) (.int .i64 seq) (.slice (some ⟨g5, 0, none⟩) D.length c5) o8)) rfl ⟨⟨_, rfl, row_same R5.out (by omega) fun j hj => ?_⟩, ?_⟩
    · rw [put9_other _ _ _ _ _ _ _ _ _ (by omega : j ≠ w.heap.size + 1), heap_setCell_other _ _ _ _ (by show j ≠ w.heap.size; omega)]
    · exact (B5.out.setCell (p := ⟨w.heap.size, 8, none⟩) (Nat.le_refl _) _).trans (put9_below _ _ _ _ _ _ _ _ _ (Nat.le_succ _))
end Go.Proofs.Ytlipmjbeiiifkaa

/- slices.Clone at ids; the program's copies of entries. -/
namespace Go.Proofs.Ytlipmjbeiiifkaa
open Go.RowKit
set_option linter.unusedVariables false

set_option maxRecDepth 100000 in
set_option maxHeartbeats 2000000 in
/-- A copy of ids. -/
theorem clone_any (u : Value) (D : List Pid) (w : World) (h : Ids w u D) :
    Calls Try.prog 60 #[u] w fun e w' => (∃ u', e = .returned u' ∧ OwZ w' w.heap.size w'.heap.size u' D) ∧ Below w.heap.size w w' := by
  obtain ⟨i0, hi, hz0, hz1, hz2⟩ := info_parts infoP
  have q28 : ∀ (w : World) (a : Option Addr) (n c n' c' : Nat), (binOp .eql 28 (.slice a n c) (.slice none n' c')).run Try.prog w = .ok (.bool a.isNone) w := fun w a n c n' c' => Lib.run_eql_slice_nil w _ _ a n c n' c' Try.underlying28
  obtain ⟨a, cap, rfl, hc, hm, h⟩ := h
  rcases a with _ | ⟨b, off, sub⟩
  · obtain rfl : D = [] := by
      rcases h with h | ⟨_, _, h, _⟩
      · exact List.length_eq_zero_iff.1 h
      · cases h
    go_enter Try.func60, Try.ntmps60
    go_wp2_with fail
    go_ret
    exact ⟨⟨_, rfl, .inl ⟨rfl, none, 0, rfl⟩⟩, Below.refl _ _⟩
  · have hs : ∀ j u, (flatP D)[j]? = some u → b < w.heap.size ∧ w.cell? (Addr.add ⟨b, off, sub⟩ j) = some u := by
      rcases h with h | ⟨b', off', e, hb, h⟩
      · obtain rfl := List.length_eq_zero_iff.1 h
        intro j u hj
        simp [flatP] at hj
      · cases e
        exact fun j u hj => ⟨hb, flatc_src h j u hj⟩
    have hs := Lib.hid hs
    obtain ⟨n, hn⟩ : ∃ n, Hid (D.length = n) := ⟨_, Lib.hid rfl⟩
    rw [hn.out] at hc hm ⊢
    clear h
    have hR := Lib.hid (row_new w w.heap.size (Nat.le_refl _))
    have B0 := Lib.hid ((Below.refl w.heap.size w).alloc (Nat.le_refl _) (.cells #[] 25))
    go_enter Try.func60, Try.ntmps60
    go_wp2_with (at_builtin; go_loud (refine wpList_append_own_at _ rfl _ _ 28 rfl w.heap.size 25 i0 (.agg #[.int .i64 0, .int .i64 0]) 2 16 Try.underlying28 hi hz0 hz1 hz2 rfl (by decide) _ _ _ rfl hR.out.1 ⟨b, off, sub⟩ n cap (flatP D) rfl ?gc0 ?gc1 ?gc2 ?gc3 ?gc4 ?gc5 ?_))
    case gc0 => rw [flatP_len, hn.out]
    case gc1 =>
      intro j u hj
      obtain ⟨hb, e⟩ := hs.out j u hj
      exact (B0.out.cell (p := Addr.add ⟨b, off, sub⟩ j) (by simp only [Addr.add]; split <;> exact hb)).trans e
    case gc2 => exact flatP_one _
    case gc3 => show (0 : Nat) + n ≤ maxLen; unfold maxLen; omega
    case gc4 => show ((0 : Nat) + n) * 16 ≤ _; omega
    case gc5 => simp
    intro v5 w5 hown' hgrow hnil hat
    have R5 : Row w5 w.heap.size v5 D := ⟨by rw [hn.out]; simpa [flatP] using hown', fun e => hnil e⟩
    obtain ⟨b5, hb5, hO⟩ := R5.own (by rw [hn.out]; exact hm)
    have R := Lib.hid (show OwZ w5 w.heap.size w5.heap.size v5 D from OwZ.of hO hb5)
    have D5 := Lib.hid (B0.out.trans (grown_below hR.out hgrow (by simp)))
    clear hown' hgrow hnil hat hO R5 hR B0 hs
    go_wp2_with fail
    go_ret
    exact ⟨⟨_, rfl, R.out⟩, D5.out⟩

theorem en_resP (tm : Array Value) (w : World) (b : Nat) (x0 x1 x2 x3 x4 x5 x6 x7 x8 : Value) (t : TypeId) (h2 : tm[2]? = some (.pointer (some ⟨b, 0, none⟩))) (h : w.heap[b]? = some (.cells #[x0, x1, x2, x3, x4, x5, x6, x7, x8] t (0, 0))) :
    (results Try.f33 tm).run Try.prog w = .ok (.agg #[x0, x1, x2, x3, x4, x5, x6, x7, x8]) w := by
  obtain ⟨t0, t1, t2, t3, t4, t5, t6, t7, t8⟩ := nine_cells h
  simp [results, Try.results33, go_sem, h2, t0, t1, t2, t3, t4, t5, t6, t7, t8]

set_option maxRecDepth 100000 in
set_option maxHeartbeats 2000000 in
/-- A copy of an entry. -/
theorem icopy_any (X : En) (u : Value) (w : World) (h : Ids w u X.deps) :
    Calls Try.prog 33 #[env X u] w fun e w' => (∃ u', e = .returned (env X u') ∧ OwZ w' w.heap.size w'.heap.size u' X.deps) ∧ Below w.heap.size w w' := by
  have sc := fun W (hb : Below w.heap.size w W) => clone_any u X.deps W (h.up hb (Nat.le_refl _))
  obtain ⟨ua, un, uc, rfl⟩ : ∃ ua un uc, u = .slice ua un uc := by obtain ⟨a, c, e, _⟩ := h; exact ⟨a, _, c, e⟩
  clear h
  obtain ⟨⟨p, r⟩, bal, st, k, key, v, s, D⟩ := X
  dsimp only [env] at sc ⊢
  have B0 := Lib.hid (((Below.refl w.heap.size w).alloc (Nat.le_refl _) (.cells #[.int .i64 p, .int .i64 r, .int .i64 bal, .int .i64 st, .int .i64 k, .int .i64 key, .int .i64 v, .int .i64 s, .slice ua un uc] 30)).alloc (by simp) (.cells #[.int .i64 0, .int .i64 0, .int .i64 0, .int .i64 0, .int .i64 0, .int .i64 0, .int .i64 0, .int .i64 0, .slice none 0 0] 30))
  have A0 := Lib.hid ((Below.heap_alloc _ (.cells #[.int .i64 0, .int .i64 0, .int .i64 0, .int .i64 0, .int .i64 0, .int .i64 0, .int .i64 0, .int .i64 0, .slice none 0 0] 30) _ (by simp)).trans (heap_alloc_new w (.cells #[.int .i64 p, .int .i64 r, .int .i64 bal, .int .i64 st, .int .i64 k, .int .i64 key, .int .i64 v, .int .i64 s, .slice ua un uc] 30)))
  have O0 := Lib.hid (heap_alloc_at (w.alloc (.cells #[.int .i64 p, .int .i64 r, .int .i64 bal, .int .i64 st, .int .i64 k, .int .i64 key, .int .i64 v, .int .i64 s, .slice ua un uc] 30)) (.cells #[.int .i64 0, .int .i64 0, .int .i64 0, .int .i64 0, .int .i64 0, .int .i64 0, .int .i64 0, .int .i64 0, .slice none 0 0] 30) (w.heap.size + 1) (by simp))
  go_enter Try.func33, Try.ntmps33
  go_wp2_with fail
  refine (sc _ B0.out).mono ?_
  rintro e w5 ⟨⟨u', rfl, hO⟩, B⟩
  have o0 := Lib.hid (bblk B (lt_of_heap A0.out) A0.out)
  have o1 := Lib.hid (bblk B (lt_of_heap O0.out) O0.out)
  have B5 := Lib.hid (bstep B0.out B)
  obtain ⟨va, vn, vc, rfl⟩ : ∃ ua un uc, u' = .slice ua un uc := by obtain ⟨a, c, e, _⟩ := hO.read; exact ⟨a, _, c, e⟩
  have hO := Lib.hid hO
  clear sc B A0 O0 B0
  obtain ⟨⟨x0, x1, x2, x3, x4, x5, x6, x7, x8⟩, ⟨f0, f1, f2, f3, f4, f5, f6, f7, f8⟩, s0⟩ := nine_all o0.out
  obtain ⟨⟨y0, y1, y2, y3, y4, y5, y6, y7, y8⟩, ⟨g0, g1, g2, g3, g4, g5, g6, g7, g8⟩, s1⟩ := nine_all o1.out
  go_wp2_with fail
  have o8 := (heap_setCell_other w5 ⟨w.heap.size, 8, none⟩ (w.heap.size + 1) (.slice va vn vc) (by first | (simp; done) | (simp; omega))).trans o1.out
  refine bodyPost_ret (en_resP _ _ _ _ _ _ _ _ _ _ _ _ _ rfl (put9_at (.int .i64 p) (.int .i64 r) (.int .i64 bal) (.int .i64 st) (.int .i64 k) (.int .i64 key) (.int .i64 v) (.int .i64 s) (.slice va vn vc) o8)) rfl ⟨⟨_, rfl, ?_⟩, ?_⟩
  · rcases hO.out with h | ⟨b, h1, h2, h3⟩
    · exact .inl h
    · refine .inr ⟨b, ?_, ?_, h3.same ?_⟩
      · simp at h1; omega
      · simp; exact h2
      · have hb : w.heap.size + 1 < b := by simp at h1; omega
        rw [put9_other _ _ _ _ _ _ _ _ _ (by omega : b ≠ w.heap.size + 1), heap_setCell_other _ _ _ _ (by show b ≠ w.heap.size; omega)]
  · exact (B5.out.setCell (p := ⟨w.heap.size, 8, none⟩) (Nat.le_refl _) _).trans (put9_below _ _ _ _ _ _ _ _ _ (Nat.le_succ _))
end Go.Proofs.Ytlipmjbeiiifkaa
