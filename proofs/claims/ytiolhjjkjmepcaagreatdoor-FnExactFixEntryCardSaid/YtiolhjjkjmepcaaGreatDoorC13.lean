/- Texts laid together. -/
import Derived.Test.YtiolhjjkjmepcaaGreatDoorC10
import Derived.Test.YtiolhjjkjmepcaaGreatDoorC12
import Derived.Test.YtiolhjjkjmepcaaGreatDoorC02
import Derived.Test.YtiolhjjkjmepcaaGreatDoorC08
import Derived.Deep.RegionWith
import Derived.Maps.AppendAt
import Derived.Test.YtiolhjjkjmepcaaGreatDoorC11
import Derived.Lib.SliceRun
import Derived.Test.YtiolhjjkjmepcaaGreatDoorC07
import Derived.Test.YtiolhjjkjmepcaaGreatDoorC09
import Derived.Test.YtiolhjjkjmepcaaGreatDoorC04
import Derived.Test.YtiolhjjkjmepcaaGreatDoorC14
import Derived.Test.YtiolhjjkjmepcaaGreatDoorC15
import Derived.Test.YtiolhjjkjmepcaaGreatDoorC01
import Derived.Deep.DeepCutAuto
import Derived.Test.YtiolhjjkjmepcaaGreatDoorC20
/- slices.Collect and slices.SortedFunc at the keys of a book. -/
namespace Go.Proofs.YtiolhjjkjmepcaaGreatDoor
open Go.RowKit Go.Shelf
set_option linter.unusedVariables false

/-- What collecting a book's keys leaves. -/
def CollP (Ks : List Pid) (w : World) (e : Ending) (w' : World) : Prop :=
  ∃ v, ∃ L : List Pid, e = .returned v ∧ L.Nodup ∧ (∀ a, a ∈ L ↔ a ∈ Ks) ∧ w'.ownsRow w.heap.size 25 2 v L.length (flatP L) ∧ Below w.heap.size w w'

theorem iappseq_any (Bm bb nn : Nat) (M : Pid → Option Value) (Ks : List Pid) (hKs : KeysOf M Ks) (hl : Ks.length ≤ 2000000) (w : World) (hBm : Bm < w.heap.size) (hm : w.cell? ⟨Bm, 0, none⟩ = some (.map (some bb))) (hown : Book w bb nn M) :
    Calls Tryz.prog 99 #[.slice none 0 0, .func (.func 94) #[] #[.pointer (some ⟨Bm, 0, none⟩)]] w (CollP Ks w) :=
  (callsIn_wide.1 (iappseq_in Fence.wide 3 trivial trivial rfl (Nat.le_refl _) Bm bb nn M Ks hKs hl w hBm hm hown)).mono fun e w' ⟨v, L, h1, h2, h3, h4, h5⟩ => ⟨v, kvs L, h1, h2.1, h2.2, h3, h5⟩

set_option maxRecDepth 100000 in
set_option maxHeartbeats 2000000 in
theorem icoll_any (Bm bb nn : Nat) (M : Pid → Option Value) (Ks : List Pid) (hKs : KeysOf M Ks) (hl : Ks.length ≤ 2000000) (w : World) (hBm : Bm < w.heap.size) (hm : w.cell? ⟨Bm, 0, none⟩ = some (.map (some bb))) (hown : Book w bb nn M) :
    Calls Tryz.prog 92 #[.func (.func 94) #[] #[.pointer (some ⟨Bm, 0, none⟩)]] w (CollP Ks w) := by
  have ap := iappseq_any Bm bb nn M Ks hKs hl w hBm hm hown
  clear hown hKs hm
  go_enter Tryz.func92, Tryz.ntmps92
  go_wp2_with fail
  refine ap.mono ?_
  rintro e w1 ⟨v, L, rfl, h1, h2, h3, B⟩
  have h1 := Lib.hid h1
  have h2 := Lib.hid h2
  have h3 := Lib.hid h3
  have B := Lib.hid B
  clear ap
  go_wp2_with fail
  go_ret
  exact ⟨v, L, rfl, h1.out, h2.out, h3.out, B.out⟩

theorem srI_asc {Q0 Q : List Pid} (h : SrI Q0 Q Q.length) : Asc Q := by
  unfold Asc
  rw [List.pairwise_iff_getElem]
  intro i j hi hj hij
  have := h.ord i j hij hj
  rw [List.getD_eq_getElem?_getD, List.getD_eq_getElem?_getD, List.getElem?_eq_getElem hi, List.getElem?_eq_getElem hj] at this
  exact this

set_option maxRecDepth 100000 in
set_option maxHeartbeats 2000000 in
theorem isorted_any (Bm bb nn : Nat) (M : Pid → Option Value) (Ks : List Pid) (hKs : KeysOf M Ks) (ha : Asc Ks) (h0 : 1 ≤ Ks.length) (hl : Ks.length ≤ 12) (w : World) (hBm : Bm < w.heap.size) (hm : w.cell? ⟨Bm, 0, none⟩ = some (.map (some bb))) (hown : Book w bb nn M) :
    Calls Tryz.prog 77 #[.func (.func 94) #[] #[.pointer (some ⟨Bm, 0, none⟩)], .func (.func 71) #[] #[]] w fun e w' => ∃ v b, e = .returned v ∧ w.heap.size ≤ b ∧ OwnP w' b v Ks ∧ Below w.heap.size w w' := by
  have ap := icoll_any Bm bb nn M Ks hKs (by omega) w hBm hm hown
  have hnd := Lib.hid hKs.1
  have ha := Lib.hid ha
  clear hown hKs hm
  go_enter Tryz.func77, Tryz.ntmps77
  go_wp2_with fail
  refine ap.mono ?_
  rintro e w1 ⟨v, L, rfl, h1, h2, h3, B⟩
  have hlen := Lib.hid (show L.length = Ks.length from ((List.perm_ext_iff_of_nodup h1 hnd.out).2 h2).length_eq)
  obtain ⟨n, hn⟩ : ∃ n, Hid (Ks.length = n) := ⟨_, Lib.hid rfl⟩
  rw [hn.out] at h0 hl hlen
  rw [hlen.out] at h3
  obtain ⟨m, hm1⟩ : ∃ m, n = m + 1 := ⟨n - 1, by omega⟩
  subst hm1
  obtain ⟨g, cap, rfl⟩ := ownsRow_succ h3
  obtain ⟨b, hb, O⟩ := OwnP.of_row h3 hlen.out.symm (by rw [hlen.out]; omega) (by simp)
  obtain ⟨cap', e', _⟩ := O.shape
  obtain rfl : g = b := by injection e' with e1; injection e1 with e1; injection e1
  have so := isort2_at g cap (m + 1) L w1 hlen.out h1 h0 hl O
  unfold SortI at so
  replace h2 := Lib.hid h2
  have hB := Lib.hid B
  clear e' h3 O ap h1 B
  go_wp2_with fail
  refine so.mono ?_
  rintro e w2 ⟨rfl, Q, hS, OQ, XX⟩
  have hq : Q.length = m + 1 := hS.perm.length_eq.trans hlen.out
  have hQ : Q = Ks := asc_ext (srI_asc (by rw [hq]; exact hS)) ha.out (fun x => (hS.perm.mem_iff).trans (h2.out x))
  rw [hQ] at OQ
  have OQ := Lib.hid OQ
  have D := Lib.hid (hB.out.trans (XX.to hB.out.size (fun c e => by omega)))
  clear hS XX so hq hQ
  go_wp2_with fail
  go_ret
  exact ⟨_, g, rfl, hb, OQ.out, D.out⟩
end Go.Proofs.YtiolhjjkjmepcaaGreatDoor

/- The model's l11Copy. -/
namespace Go.Proofs.YtiolhjjkjmepcaaGreatDoor
open Go.RowKit
set_option linter.unusedVariables false

theorem en_resC (tm : Array Value) (w : World) (b : Nat) (x0 x1 x2 x3 x4 x5 x6 x7 x8 : Value) (t : TypeId) (h2 : tm[2]? = some (.pointer (some ⟨b, 0, none⟩))) (h : w.heap[b]? = some (.cells #[x0, x1, x2, x3, x4, x5, x6, x7, x8] t (0, 0))) :
    (results Tryz.f80 tm).run Tryz.prog w = .ok (.agg #[x0, x1, x2, x3, x4, x5, x6, x7, x8]) w := by
  obtain ⟨t0, t1, t2, t3, t4, t5, t6, t7, t8⟩ := nine_cells h
  simp [results, Tryz.results80, go_sem, h2, t0, t1, t2, t3, t4, t5, t6, t7, t8]
theorem three_a (w : World) (o1 o2 o3 : Obj) : (((w.alloc o1).alloc o2).alloc o3).heap[w.heap.size]? = some o1 :=
  (Below.heap_alloc _ _ w.heap.size (by simp; omega)).trans ((Below.heap_alloc _ _ w.heap.size (by simp)).trans (heap_alloc_new w o1))
theorem three_b (w : World) (o1 o2 o3 : Obj) : (((w.alloc o1).alloc o2).alloc o3).heap[w.heap.size + 1]? = some o2 :=
  (Below.heap_alloc _ _ (w.heap.size + 1) (by simp)).trans (heap_alloc_at (w.alloc o1) o2 (w.heap.size + 1) (by simp))
theorem row_same {w w' : World} {B C : Nat} {v : Value} {O : List Pid} (h : Row w B v O) (hC : C ≤ B) (hs : ∀ k, B ≤ k → w'.heap[k]? = w.heap[k]?) : Row w' C v O := by
  obtain ⟨⟨h1, h2⟩, h3⟩ := h
  refine ⟨⟨h1, ?_⟩, h3⟩
  rcases h2 with hn | ⟨g, cap, cur, rfl, hb, hg, rest⟩
  · exact .inl hn
  · exact .inr ⟨g, cap, cur, rfl, Nat.le_trans hC hb, (hs g hb).trans hg, rest⟩
theorem flatc_src {w : World} {b off : Nat} {C : List Pid} (h : ∀ i, i < C.length → w.cell? ⟨b, off + i * 2, none⟩ = some (.int .i64 (C.getD i nop).1) ∧ w.cell? ⟨b, off + i * 2 + 1, none⟩ = some (.int .i64 (C.getD i nop).2)) :
    ∀ j u, (flatP C)[j]? = some u → w.cell? (Addr.add ⟨b, off, none⟩ j) = some u := by
  intro j u hj
  have hl : j < C.length * 2 := by
    have := (List.getElem?_eq_some_iff.1 hj).1
    rw [flatP_len] at this; exact this
  have hk : j / 2 < C.length := by omega
  obtain ⟨g0, g1⟩ := flatP_get C (j / 2) hk
  obtain ⟨c0, c1⟩ := h (j / 2) hk
  have ha : (⟨b, off, none⟩ : Addr).add j = ⟨b, off + j, none⟩ := by simp [Addr.add]
  rw [ha]
  rcases (show j = j / 2 * 2 ∨ j = j / 2 * 2 + 1 by omega) with e | e
  · rw [← e] at g0 c0
    rw [hj] at g0
    rw [g0]; exact c0
  · rw [← e] at g1
    rw [hj] at g1
    rw [Nat.add_assoc, ← e] at c1
    rw [g1]; exact c1

set_option maxRecDepth 100000 in
set_option maxHeartbeats 2000000 in
/-- A copy of an entry: its list lies in a row of its own, behind what was there. -/
theorem copy_at (p q bal st k key v seq : Int) (D : List Pid) (u : Value) (w : World) (h : Ids w u D) :
    Calls Tryz.prog 80 #[.agg #[.int .i64 p, .int .i64 q, .int .i64 bal, .int .i64 st, .int .i64 k, .int .i64 key, .int .i64 v, .int .i64 seq, u]] w fun r w' => (∃ u', r = .returned (.agg #[.int .i64 p, .int .i64 q, .int .i64 bal, .int .i64 st, .int .i64 k, .int .i64 key, .int .i64 v, .int .i64 seq, u']) ∧ Row w' w.heap.size u' D) ∧ Below w.heap.size w w' := by
  obtain ⟨i0, hi, hz0, hz1, hz2⟩ := info_parts infoP
  obtain ⟨a, cap, rfl, hc, hm, h⟩ := h
  go_enter Tryz.func80, Tryz.ntmps80
  rcases a with _ | ⟨b, off, sub⟩
  · obtain rfl : D = [] := by
      rcases h with h | ⟨_, _, h, _⟩
      · exact List.length_eq_zero_iff.1 h
      · cases h
    clear h hc hm
    have hR := row_new ((w.alloc (.cells #[.int .i64 p, .int .i64 q, .int .i64 bal, .int .i64 st, .int .i64 k, .int .i64 key, .int .i64 v, .int .i64 seq, .slice (some ⟨w.heap.size + 1 + 1, 0, none⟩) 0 0] 30)).alloc (.cells #[.int .i64 p, .int .i64 q, .int .i64 bal, .int .i64 st, .int .i64 k, .int .i64 key, .int .i64 v, .int .i64 seq, .slice (some ⟨w.heap.size + 1 + 1, 0, none⟩) 0 0] 30)) w.heap.size (by simp; omega)
    have B0 : Below w.heap.size w (((w.alloc (.cells #[.int .i64 p, .int .i64 q, .int .i64 bal, .int .i64 st, .int .i64 k, .int .i64 key, .int .i64 v, .int .i64 seq, .slice (some ⟨w.heap.size + 1 + 1, 0, none⟩) 0 0] 30)).alloc (.cells #[.int .i64 p, .int .i64 q, .int .i64 bal, .int .i64 st, .int .i64 k, .int .i64 key, .int .i64 v, .int .i64 seq, .slice (some ⟨w.heap.size + 1 + 1, 0, none⟩) 0 0] 30)).alloc (.cells #[] 25)) := (((Below.refl _ _).alloc (Nat.le_refl _) _).alloc (by simp) _).alloc (by simp; omega) _
    have e0 : ((w.alloc (.cells #[.int .i64 p, .int .i64 q, .int .i64 bal, .int .i64 st, .int .i64 k, .int .i64 key, .int .i64 v, .int .i64 seq, .slice (some ⟨w.heap.size + 1 + 1, 0, none⟩) 0 0] 30)).alloc (.cells #[.int .i64 p, .int .i64 q, .int .i64 bal, .int .i64 st, .int .i64 k, .int .i64 key, .int .i64 v, .int .i64 seq, .slice (some ⟨w.heap.size + 1 + 1, 0, none⟩) 0 0] 30)).heap.size = w.heap.size + 1 + 1 := by simp
    have hA : (((w.alloc (.cells #[.int .i64 p, .int .i64 q, .int .i64 bal, .int .i64 st, .int .i64 k, .int .i64 key, .int .i64 v, .int .i64 seq, .slice (some ⟨w.heap.size + 1 + 1, 0, none⟩) 0 0] 30)).alloc (.cells #[.int .i64 p, .int .i64 q, .int .i64 bal, .int .i64 st, .int .i64 k, .int .i64 key, .int .i64 v, .int .i64 seq, .slice (some ⟨w.heap.size + 1 + 1, 0, none⟩) 0 0] 30)).alloc (.cells #[] 25)).heap[w.heap.size + 1]? = some (.cells #[.int .i64 p, .int .i64 q, .int .i64 bal, .int .i64 st, .int .i64 k, .int .i64 key, .int .i64 v, .int .i64 seq, .slice (some ⟨w.heap.size + 1 + 1, 0, none⟩) 0 0] 30 (0, 0)) := three_b _ _ _ _
    rw [e0] at hR
    have hR := Lib.hid hR
    have B0 := Lib.hid B0
    have hA := Lib.hid hA
    clear e0
    go_wp2_with fail
    exact bodyPost_ret (en_resC _ _ _ _ _ _ _ _ _ _ _ _ _ rfl hA.out) rfl ⟨⟨_, rfl, hR.out⟩, B0.out⟩
  · have hs : ∀ j u, (flatP D)[j]? = some u → b < w.heap.size ∧ w.cell? (Addr.add ⟨b, off, sub⟩ j) = some u := by
      rcases h with h | ⟨b', off', e, hb, h⟩
      · obtain rfl := List.length_eq_zero_iff.1 h
        intro j u hj
        simp [flatP] at hj
      · cases e
        exact fun j u hj => ⟨hb, flatc_src h j u hj⟩
    have hs := Lib.hid hs
    obtain ⟨n, hn⟩ : ∃ n, Hid (D.length = n) := ⟨_, Lib.hid rfl⟩
    rw [hn.out] at hc hm ⊢
    clear h
    have hR := row_new ((w.alloc (.cells #[.int .i64 p, .int .i64 q, .int .i64 bal, .int .i64 st, .int .i64 k, .int .i64 key, .int .i64 v, .int .i64 seq, .slice (some ⟨b, off, sub⟩) n cap] 30)).alloc (.cells #[.int .i64 0, .int .i64 0, .int .i64 0, .int .i64 0, .int .i64 0, .int .i64 0, .int .i64 0, .int .i64 0, .slice none 0 0] 30)) (w.heap.size + 1 + 1) (by simp)
    have e0 : ((w.alloc (.cells #[.int .i64 p, .int .i64 q, .int .i64 bal, .int .i64 st, .int .i64 k, .int .i64 key, .int .i64 v, .int .i64 seq, .slice (some ⟨b, off, sub⟩) n cap] 30)).alloc (.cells #[.int .i64 0, .int .i64 0, .int .i64 0, .int .i64 0, .int .i64 0, .int .i64 0, .int .i64 0, .int .i64 0, .slice none 0 0] 30)).heap.size = w.heap.size + 1 + 1 := by simp
    rw [e0] at hR
    have hR := Lib.hid hR
    have B0 := Lib.hid (show Below w.heap.size w (((w.alloc (.cells #[.int .i64 p, .int .i64 q, .int .i64 bal, .int .i64 st, .int .i64 k, .int .i64 key, .int .i64 v, .int .i64 seq, .slice (some ⟨b, off, sub⟩) n cap] 30)).alloc (.cells #[.int .i64 0, .int .i64 0, .int .i64 0, .int .i64 0, .int .i64 0, .int .i64 0, .int .i64 0, .int .i64 0, .slice none 0 0] 30)).alloc (.cells #[] 25)) from (((Below.refl _ _).alloc (Nat.le_refl _) _).alloc (by simp) _).alloc (by simp; omega) _)
    have A0 := Lib.hid (show (((w.alloc (.cells #[.int .i64 p, .int .i64 q, .int .i64 bal, .int .i64 st, .int .i64 k, .int .i64 key, .int .i64 v, .int .i64 seq, .slice (some ⟨b, off, sub⟩) n cap] 30)).alloc (.cells #[.int .i64 0, .int .i64 0, .int .i64 0, .int .i64 0, .int .i64 0, .int .i64 0, .int .i64 0, .int .i64 0, .slice none 0 0] 30)).alloc (.cells #[] 25)).heap[w.heap.size]? = some (.cells #[.int .i64 p, .int .i64 q, .int .i64 bal, .int .i64 st, .int .i64 k, .int .i64 key, .int .i64 v, .int .i64 seq, .slice (some ⟨b, off, sub⟩) n cap] 30 (0, 0)) from three_a _ _ _ _)
    have A1 := Lib.hid (show (((w.alloc (.cells #[.int .i64 p, .int .i64 q, .int .i64 bal, .int .i64 st, .int .i64 k, .int .i64 key, .int .i64 v, .int .i64 seq, .slice (some ⟨b, off, sub⟩) n cap] 30)).alloc (.cells #[.int .i64 0, .int .i64 0, .int .i64 0, .int .i64 0, .int .i64 0, .int .i64 0, .int .i64 0, .int .i64 0, .slice none 0 0] 30)).alloc (.cells #[] 25)).heap[w.heap.size + 1]? = some (.cells #[.int .i64 0, .int .i64 0, .int .i64 0, .int .i64 0, .int .i64 0, .int .i64 0, .int .i64 0, .int .i64 0, .slice none 0 0] 30 (0, 0)) from three_b _ _ _ _)
    clear e0
    go_wp2_with (at_builtin; go_loud (refine wpList_append_own_at _ rfl _ _ 28 rfl (w.heap.size + 1 + 1) 25 i0 (.agg #[.int .i64 0, .int .i64 0]) 2 16 Tryz.underlying28 hi hz0 hz1 hz2 rfl (by decide) _ _ _ rfl hR.out.1 ⟨b, off, sub⟩ n cap (flatP D) rfl ?gc0 ?gc1 ?gc2 ?gc3 ?gc4 ?gc5 ?_))
    case gc0 => rw [flatP_len, hn.out]
    case gc1 =>
      intro j u hj
      obtain ⟨hb, e⟩ := hs.out j u hj
      exact (B0.out.cell (p := Addr.add ⟨b, off, sub⟩ j) (by simp only [Addr.add]; split <;> exact hb)).trans e
    case gc2 => exact flatP_one _
    case gc3 => show (0 : Nat) + n ≤ maxLen; unfold maxLen; omega
    case gc4 => show ((0 : Nat) + n) * 16 ≤ _; omega
    case gc5 => simp
    intro v5 w5 hown' hgrow hnil hat
    have R5 : Row w5 (w.heap.size + 1 + 1) v5 D := ⟨by rw [hn.out]; simpa [flatP] using hown', fun e => hnil e⟩
    obtain ⟨g5, c5, rfl, hg1, hg2, _, _⟩ := R5.shape
    have b5 := grown_below hR.out hgrow (by simp)
    have o0 := Lib.hid ((b5.block w.heap.size (by omega)).trans A0.out)
    have o1 := Lib.hid ((b5.block (w.heap.size + 1) (by omega)).trans A1.out)
    have B5 := Lib.hid (B0.out.trans (b5.mono (by omega)))
    have R5 := Lib.hid R5
    clear hown' hgrow hnil hat b5 B0 A0 A1 hR hs hg1 hg2
    obtain ⟨⟨x0, x1, x2, x3, x4, x5, x6, x7, x8⟩, ⟨f0, f1, f2, f3, f4, f5, f6, f7, f8⟩, s0⟩ := nine_all o0.out
    obtain ⟨⟨y0, y1, y2, y3, y4, y5, y6, y7, y8⟩, ⟨g0, g1, g2, g3, g4, g5', g6, g7, g8⟩, s1⟩ := nine_all o1.out
    go_wp2_with fail
    have o8 := (heap_setCell_other w5 ⟨w.heap.size, 8, none⟩ (w.heap.size + 1) (.slice (some ⟨g5, 0, none⟩) D.length c5) (by first | (simp; done) | (simp; omega))).trans o1.out
    refine bodyPost_ret (en_resC _ _ _ _ _ _ _ _ _ _ _ _ _ rfl (put9_at (.int .i64 p) (.int .i64 q) (.int .i64 bal) (.int .i64 st) (.int .i64 k) (.int .i64 key) (.int .i64 v) (.int .i64 seq) (.slice (some ⟨g5, 0, none⟩) D.length c5) o8)) rfl ⟨⟨_, rfl, row_same R5.out (by omega) fun j hj => ?_⟩, ?_⟩
    · rw [put9_other _ _ _ _ _ _ _ _ _ (by omega : j ≠ w.heap.size + 1), heap_setCell_other _ _ _ _ (by show j ≠ w.heap.size; omega)]
    · exact (B5.out.setCell (p := ⟨w.heap.size, 8, none⟩) (Nat.le_refl _) _).trans (put9_below _ _ _ _ _ _ _ _ _ (Nat.le_succ _))
end Go.Proofs.YtiolhjjkjmepcaaGreatDoor

/- slices.Clone at ids; the program's copies of entries. -/
namespace Go.Proofs.YtiolhjjkjmepcaaGreatDoor
open Go.RowKit
set_option linter.unusedVariables false

set_option maxRecDepth 100000 in
set_option maxHeartbeats 2000000 in
/-- A copy of ids. -/
theorem clone_any (u : Value) (D : List Pid) (w : World) (h : Ids w u D) :
    Calls Tryz.prog 81 #[u] w fun e w' => (∃ u', e = .returned u' ∧ OwZ w' w.heap.size w'.heap.size u' D) ∧ Below w.heap.size w w' := by
  obtain ⟨i0, hi, hz0, hz1, hz2⟩ := info_parts infoP
  have q28 : ∀ (w : World) (a : Option Addr) (n c n' c' : Nat), (binOp .eql 28 (.slice a n c) (.slice none n' c')).run Tryz.prog w = .ok (.bool a.isNone) w := fun w a n c n' c' => Lib.run_eql_slice_nil w _ _ a n c n' c' Tryz.underlying28
  obtain ⟨a, cap, rfl, hc, hm, h⟩ := h
  rcases a with _ | ⟨b, off, sub⟩
  · obtain rfl : D = [] := by
      rcases h with h | ⟨_, _, h, _⟩
      · exact List.length_eq_zero_iff.1 h
      · cases h
    go_enter Tryz.func81, Tryz.ntmps81
    go_wp2_with fail
    go_ret
    exact ⟨⟨_, rfl, .inl ⟨rfl, none, 0, rfl⟩⟩, Below.refl _ _⟩
  · have hs : ∀ j u, (flatP D)[j]? = some u → b < w.heap.size ∧ w.cell? (Addr.add ⟨b, off, sub⟩ j) = some u := by
      rcases h with h | ⟨b', off', e, hb, h⟩
      · obtain rfl := List.length_eq_zero_iff.1 h
        intro j u hj
        simp [flatP] at hj
      · cases e
        exact fun j u hj => ⟨hb, flatc_src h j u hj⟩
    have hs := Lib.hid hs
    obtain ⟨n, hn⟩ : ∃ n, Hid (D.length = n) := ⟨_, Lib.hid rfl⟩
    rw [hn.out] at hc hm ⊢
    clear h
    have hR := Lib.hid (row_new w w.heap.size (Nat.le_refl _))
    have B0 := Lib.hid ((Below.refl w.heap.size w).alloc (Nat.le_refl _) (.cells #[] 25))
    go_enter Tryz.func81, Tryz.ntmps81
    go_wp2_with (at_builtin; go_loud (refine wpList_append_own_at _ rfl _ _ 28 rfl w.heap.size 25 i0 (.agg #[.int .i64 0, .int .i64 0]) 2 16 Tryz.underlying28 hi hz0 hz1 hz2 rfl (by decide) _ _ _ rfl hR.out.1 ⟨b, off, sub⟩ n cap (flatP D) rfl ?gc0 ?gc1 ?gc2 ?gc3 ?gc4 ?gc5 ?_))
    case gc0 => rw [flatP_len, hn.out]
    case gc1 =>
      intro j u hj
      obtain ⟨hb, e⟩ := hs.out j u hj
      exact (B0.out.cell (p := Addr.add ⟨b, off, sub⟩ j) (by simp only [Addr.add]; split <;> exact hb)).trans e
    case gc2 => exact flatP_one _
    case gc3 => show (0 : Nat) + n ≤ maxLen; unfold maxLen; omega
    case gc4 => show ((0 : Nat) + n) * 16 ≤ _; omega
    case gc5 => simp
    intro v5 w5 hown' hgrow hnil hat
    have R5 : Row w5 w.heap.size v5 D := ⟨by rw [hn.out]; simpa [flatP] using hown', fun e => hnil e⟩
    obtain ⟨b5, hb5, hO⟩ := R5.own (by rw [hn.out]; exact hm)
    have R := Lib.hid (show OwZ w5 w.heap.size w5.heap.size v5 D from OwZ.of hO hb5)
    have D5 := Lib.hid (B0.out.trans (grown_below hR.out hgrow (by simp)))
    clear hown' hgrow hnil hat hO R5 hR B0 hs
    go_wp2_with fail
    go_ret
    exact ⟨⟨_, rfl, R.out⟩, D5.out⟩

theorem en_resP (tm : Array Value) (w : World) (b : Nat) (x0 x1 x2 x3 x4 x5 x6 x7 x8 : Value) (t : TypeId) (h2 : tm[2]? = some (.pointer (some ⟨b, 0, none⟩))) (h : w.heap[b]? = some (.cells #[x0, x1, x2, x3, x4, x5, x6, x7, x8] t (0, 0))) :
    (results Tryz.f49 tm).run Tryz.prog w = .ok (.agg #[x0, x1, x2, x3, x4, x5, x6, x7, x8]) w := by
  obtain ⟨t0, t1, t2, t3, t4, t5, t6, t7, t8⟩ := nine_cells h
  simp [results, Tryz.results49, go_sem, h2, t0, t1, t2, t3, t4, t5, t6, t7, t8]

set_option maxRecDepth 100000 in
set_option maxHeartbeats 2000000 in
/-- A copy of an entry. -/
theorem icopy_any (X : En) (u : Value) (w : World) (h : Ids w u X.deps) :
    Calls Tryz.prog 49 #[env X u] w fun e w' => (∃ u', e = .returned (env X u') ∧ OwZ w' w.heap.size w'.heap.size u' X.deps) ∧ Below w.heap.size w w' := by
  have sc := fun W (hb : Below w.heap.size w W) => clone_any u X.deps W (h.up hb (Nat.le_refl _))
  obtain ⟨ua, un, uc, rfl⟩ : ∃ ua un uc, u = .slice ua un uc := by obtain ⟨a, c, e, _⟩ := h; exact ⟨a, _, c, e⟩
  clear h
  obtain ⟨⟨p, r⟩, bal, st, k, key, v, s, D⟩ := X
  dsimp only [env] at sc ⊢
  have B0 := Lib.hid (((Below.refl w.heap.size w).alloc (Nat.le_refl _) (.cells #[.int .i64 p, .int .i64 r, .int .i64 bal, .int .i64 st, .int .i64 k, .int .i64 key, .int .i64 v, .int .i64 s, .slice ua un uc] 30)).alloc (by simp) (.cells #[.int .i64 0, .int .i64 0, .int .i64 0, .int .i64 0, .int .i64 0, .int .i64 0, .int .i64 0, .int .i64 0, .slice none 0 0] 30))
  have A0 := Lib.hid ((Below.heap_alloc _ (.cells #[.int .i64 0, .int .i64 0, .int .i64 0, .int .i64 0, .int .i64 0, .int .i64 0, .int .i64 0, .int .i64 0, .slice none 0 0] 30) _ (by simp)).trans (heap_alloc_new w (.cells #[.int .i64 p, .int .i64 r, .int .i64 bal, .int .i64 st, .int .i64 k, .int .i64 key, .int .i64 v, .int .i64 s, .slice ua un uc] 30)))
  have O0 := Lib.hid (heap_alloc_at (w.alloc (.cells #[.int .i64 p, .int .i64 r, .int .i64 bal, .int .i64 st, .int .i64 k, .int .i64 key, .int .i64 v, .int .i64 s, .slice ua un uc] 30)) (.cells #[.int .i64 0, .int .i64 0, .int .i64 0, .int .i64 0, .int .i64 0, .int .i64 0, .int .i64 0, .int .i64 0, .slice none 0 0] 30) (w.heap.size + 1) (by simp))
  go_enter Tryz.func49, Tryz.ntmps49
  go_wp2_with fail
  refine (sc _ B0.out).mono ?_
  rintro e w5 ⟨⟨u', rfl, hO⟩, B⟩
  have o0 := Lib.hid (bblk B (lt_of_heap A0.out) A0.out)
  have o1 := Lib.hid (bblk B (lt_of_heap O0.out) O0.out)
  have B5 := Lib.hid (bstep B0.out B)
  obtain ⟨va, vn, vc, rfl⟩ : ∃ ua un uc, u' = .slice ua un uc := by obtain ⟨a, c, e, _⟩ := hO.read; exact ⟨a, _, c, e⟩
  have hO := Lib.hid hO
  clear sc B A0 O0 B0
  obtain ⟨⟨x0, x1, x2, x3, x4, x5, x6, x7, x8⟩, ⟨f0, f1, f2, f3, f4, f5, f6, f7, f8⟩, s0⟩ := nine_all o0.out
  obtain ⟨⟨y0, y1, y2, y3, y4, y5, y6, y7, y8⟩, ⟨g0, g1, g2, g3, g4, g5, g6, g7, g8⟩, s1⟩ := nine_all o1.out
  go_wp2_with fail
  have o8 := (heap_setCell_other w5 ⟨w.heap.size, 8, none⟩ (w.heap.size + 1) (.slice va vn vc) (by first | (simp; done) | (simp; omega))).trans o1.out
  refine bodyPost_ret (en_resP _ _ _ _ _ _ _ _ _ _ _ _ _ rfl (put9_at (.int .i64 p) (.int .i64 r) (.int .i64 bal) (.int .i64 st) (.int .i64 k) (.int .i64 key) (.int .i64 v) (.int .i64 s) (.slice va vn vc) o8)) rfl ⟨⟨_, rfl, ?_⟩, ?_⟩
  · rcases hO.out with h | ⟨b, h1, h2, h3⟩
    · exact .inl h
    · refine .inr ⟨b, ?_, ?_, h3.same ?_⟩
      · simp at h1; omega
      · simp; exact h2
      · have hb : w.heap.size + 1 < b := by simp at h1; omega
        rw [put9_other _ _ _ _ _ _ _ _ _ (by omega : b ≠ w.heap.size + 1), heap_setCell_other _ _ _ _ (by show b ≠ w.heap.size; omega)]
  · exact (B5.out.setCell (p := ⟨w.heap.size, 8, none⟩) (Nat.le_refl _) _).trans (put9_below _ _ _ _ _ _ _ _ _ (Nat.le_succ _))
end Go.Proofs.YtiolhjjkjmepcaaGreatDoor

/- The program's entries of a book: copies of all, as a log. -/
namespace Go.Proofs.YtiolhjjkjmepcaaGreatDoor
open Go.RowKit
set_option linter.unusedVariables false

/-- Where the book's entries are: what has been copied, the ids still there. -/
structure PtZ (w wr : World) (gb : Nat) (C : List Pid) (u v : Value) (L : List Zn) : Prop where
  zr : ZR wr w.heap.size v L
  ids : OwnP wr gb u C
  ne : v.ownBlock ≠ some gb
  kp : Below w.heap.size w wr
section
variable {w wr w' : World} {gb : Nat} {C : List Pid} {u v : Value} {L : List Zn}
theorem PtZ.up (h : PtZ w wr gb C u v L) (hb : Below wr.heap.size wr w') : PtZ w w' gb C u v L :=
  ⟨h.zr.up hb, h.ids.up hb h.ids.lt, h.ne, bstep h.kp hb⟩
theorem PtZ.next (h : PtZ w wr gb C u v L) {o : Obj} {v' : Value} {x : Zn} (hown : w'.ownsRow w.heap.size 30 9 v' (L.length + 1) (flatE (zel L) ++ ecell (x.en, x.u))) (hg : (wr.alloc o).grownBy w' (Value.ownBlock v)) (hn : v' ≠ .slice none 0 0)
    (hat : v'.ownBlock = v.ownBlock ∨ v'.ownBlock = some (wr.heap.size + 1)) (hx : w.heap.size ≤ x.p ∧ x.q ≤ wr.heap.size ∧ (∀ b, v.ownBlock = some b → x.p ≤ b → b < x.q → False) ∧ OwZ wr x.p x.q x.u x.en.deps) (ho : ∀ y ∈ L, y.q ≤ x.p) : PtZ w w' gb C u v' (L ++ [x]) := by
  have hl := h.ids.lt
  refine ⟨h.zr.put hown hg hn hat hx ho, h.ids.same ((hg.block gb (by simp; omega) (fun e => h.ne e.symm)).trans (Below.heap_alloc _ _ _ hl)), ?_, h.kp.trans (h.zr.grown hg h.kp.size)⟩
  rcases hat with e | e
  · rw [e]; exact h.ne
  · rw [e]; intro e'; injection e' with e'; omega
end

set_option maxRecDepth 100000 in
set_option maxHeartbeats 8000000 in
theorem ientries_any (bb nn : Nat) (M : Pid → Option Value) (R : List En) (w : World) (h : BkE w bb nn M R) (h0 : 1 ≤ R.length) (hl : R.length ≤ 12) :
    Calls Tryz.prog 46 #[.map (some bb)] w fun e w' => ∃ v, e = .returned v ∧ LogO w' w.heap.size w'.heap.size v R ∧ Below w.heap.size w w' := by
  obtain ⟨D, hD, hsz⟩ := book_len h.book h.keys
  rw [idsE_len] at hsz
  have so := fun Bm W => isorted_any Bm bb nn M (idsE R) h.keys h.asc (by rw [idsE_len]; exact h0) (by rw [idsE_len]; exact hl) W
  obtain ⟨i0, hi, hz0, hz1, hz2⟩ := info_parts info_en
  obtain ⟨n, hn⟩ : ∃ n, Hid (R.length = n) := ⟨_, Lib.hid rfl⟩
  rw [hn.out] at hsz h0 hl
  have mk := fun W => make_capE n (by omega) W
  have hzz := Lib.hid (zr_cap w n w.heap.size (Nat.le_refl _) (by omega))
  have B0 := Lib.hid ((Below.refl w.heap.size w).alloc (Nat.le_refl _) (.cells (madeCells #[.int .i64 0, .int .i64 0, .int .i64 0, .int .i64 0, .int .i64 0, .int .i64 0, .int .i64 0, .int .i64 0, .slice none 0 0] (n * 9)) 30))
  have hbb := h.book.lt
  have h := Lib.hid h
  go_enter Tryz.func46, Tryz.ntmps46
  go_wp2_with (first | (at_len; refine wpList_len_own _ rfl _ 60 rfl 25 30 Tryz.underlying60 Rv bb nn D rfl hD ?_; rw [hsz]) | fail)
  refine (keys_any (some bb) _).mono ?_
  rintro e w1 ⟨rfl, rfl⟩
  clear hD mk hsz
  obtain ⟨W0, hW0⟩ : ∃ W, Hid (w.alloc (.cells (madeCells #[.int .i64 0, .int .i64 0, .int .i64 0, .int .i64 0, .int .i64 0, .int .i64 0, .int .i64 0, .int .i64 0, .slice none 0 0] (n * 9)) 30) = W) := ⟨_, Lib.hid rfl⟩
  rw [hW0.out] at hzz B0
  rw [hW0.out]
  have hs0 : W0.heap.size = w.heap.size + 1 := by rw [← hW0.out]; simp
  clear hW0
  have B1 := Lib.hid (B0.out.alloc (by omega) (.cells #[.map (some bb)] 60))
  have so1 := so (w.heap.size + 1) (W0.alloc (.cells #[.map (some bb)] 60)) (by simp; omega) ((cell_of_cells (by rw [← hs0]; exact heap_alloc_new W0 (.cells #[.map (some bb)] 60))).trans rfl) (h.out.book.up B1.out hbb)
  go_wp2_with fail
  refine so1.mono ?_
  rintro e w2 ⟨u, gb, rfl, hgb, hO, B⟩
  have hgb2 : w.heap.size + 1 < gb := by simp at hgb; omega
  have P0 := Lib.hid (show PtZ w w2 gb (idsE R) u (.slice (some ⟨w.heap.size, 0, none⟩) 0 n) [] from ⟨(hzz.out.up ((Below.refl _ _).alloc (Nat.le_refl _) _)).up B, hO, by simp [Value.ownBlock]; omega, bstep B1.out B⟩)
  obtain ⟨cap, hu, hcap⟩ := hO.shape
  rw [idsE_len, hn.out] at hu hcap
  subst hu
  have hbk := Lib.hid (fun W (hb : Below w.heap.size w W) => h.out.book.up hb hbb)
  have hlk := Lib.hid h.out.look
  have hkey := Lib.hid (fun k (hk : k < R.length) => h.out.keys.2.1 _ (mem_idsE.2 ⟨k, hk, rfl⟩))
  clear so so1 B hzz B0 B1 hO hgb h
  generalize W0.alloc (.cells #[.map (some bb)] 60) = W1 at *
  go_wp2_with fail
  go_loopw [3, 13] (fun v i wr => ∃ (k : Nat) (L : List Zn), k ≤ n ∧ i = .int .i64 k ∧ Hid (zens L = R.take k) ∧ Hid (PtZ w wr gb (idsE R) (.slice (some ⟨gb, 0, none⟩) n cap) v L)) (fun _ i _ => n - (intOf i).toNat)
  case atStart => exact ⟨0, [], Nat.zero_le _, rfl, Lib.hid rfl, P0⟩
  case round =>
    clear P0
    obtain ⟨k, L, hk, rfl, hL, P⟩ := hrel
    by_cases hlt : k < n
    · have hkR : k < R.length := by rw [hn.out]; exact hlt
      obtain ⟨c0, c1⟩ := P.out.ids.cell k (by rw [idsE_len]; exact hkR)
      rw [idsE_get hkR] at c0 c1
      have hgl := P.out.ids.lt
      obtain ⟨v, hv1, hv2⟩ := hlk.out k hkR
      obtain ⟨X, hX⟩ : ∃ X, Hid (R.getD k en0 = X) := ⟨_, Lib.hid rfl⟩
      rw [hX.out] at c0 c1 hv1 hv2
      go_upto_region 5 with fail
      have BA := Lib.hid ((Below.refl wr.heap.size wr).alloc (Nat.le_refl _) (.cells #[.int .i64 X.id.1, .int .i64 X.id.2] 25))
      replace P := Lib.hid (P.out.up BA.out)
      have A0 := heap_alloc_new wr (.cells #[.int .i64 X.id.1, .int .i64 X.id.2] 25)
      obtain ⟨a0, a1, _, _⟩ := blk2 A0
      have hal := lt_of_heap A0
      have hq := hkey.out k hkR
      rw [hX.out] at hq
      have hlook := (hbk.out _ P.out.kp).at Tryz.underlying60 (Tryz.zeroValue30 _) hq hv1
      obtain ⟨ua, un, uc, rfl⟩ : ∃ ua un uc, v = .slice ua un uc := by obtain ⟨a, c, e, _⟩ := hv2; exact ⟨a, _, c, e⟩
      have ic := icopy_any X (.slice ua un uc) _ (hv2.up P.out.kp (Nat.le_refl _))
      unfold idv2 at hlook
      have hLq := Lib.hid (fun y (hy : y ∈ L) => (P.out.zr.deps y hy).2.1)
      clear c0 c1 hgl A0 hv1 hv2 hq
      generalize wr.alloc (.cells #[.int .i64 X.id.1, .int .i64 X.id.2] 25) = W at P a0 a1 hal hlook ic hLq ⊢
      unfold env at hlook ic
      go_wp2_with fail
      refine ic.mono ?_
      rintro e w3 ⟨⟨u', rfl, hO⟩, B⟩
      obtain ⟨va, vn, vc, rfl⟩ : ∃ ua un uc, u' = .slice ua un uc := by obtain ⟨a, c, e, _⟩ := hO.read; exact ⟨a, _, c, e⟩
      have hrow := P.out.zr.row
      have hx := Lib.hid (show w.heap.size ≤ W.heap.size ∧ w3.heap.size ≤ w3.heap.size ∧ (∀ b, u3.ownBlock = some b → W.heap.size ≤ b → b < w3.heap.size → False) ∧ OwZ w3 W.heap.size w3.heap.size (.slice va vn vc) X.deps from
        ⟨P.out.kp.size, Nat.le_refl _, fun b e b1 _ => by have := (rowT hrow e).1.lt; omega, hO⟩)
      replace P := Lib.hid (P.out.up B)
      have hPs := P.out.kp.size
      have hPr := Lib.hid P.out.zr.row
      have hLl : L.length = k := by
        have e := congrArg List.length hL.out
        rw [zens_len, List.length_take, hn.out] at e
        omega
      obtain ⟨m, hm'⟩ : ∃ m, Hid (L.length = m) := ⟨_, Lib.hid rfl⟩
      rw [hm'.out] at hPr hLl
      have hW := Lib.hid B.size
      clear hrow hO B ic hlook a0 a1 hal
      go_wp2_with (at_builtin; refine wpList_append_own_at _ rfl _ _ 23 rfl w.heap.size 30 i0 (.agg #[.int .i64 0, .int .i64 0, .int .i64 0, .int .i64 0, .int .i64 0, .int .i64 0, .int .i64 0, .int .i64 0, .slice none 0 0]) 9 88 Tryz.underlying23 hi hz0 hz1 hz2 rfl (by decide) _ m (flatE (zel L)) rfl (hPr.out.alloc _) ⟨w3.heap.size, 0, none⟩ 1 1 [.int .i64 X.id.1, .int .i64 X.id.2, .int .i64 X.bal, .int .i64 X.st, .int .i64 X.k, .int .i64 X.key, .int .i64 X.v, .int .i64 X.seq, .slice va vn vc] rfl rfl ?fc1 ?fc2 ?fc3 ?fc4 ?fc5 ?_)
      case fc1 => exact nine_srcE _ _ _ _ _ _ _ _ _ _ _ _ (by simp)
      case fc2 => exact nine_oneE _ _ _ _ _ _ _ _ _ _ _
      case fc3 => unfold maxLen; omega
      case fc4 => omega
      case fc5 => first | omega | (simp; omega)
      intro v' w' hown' hgrow hnil hat
      have P5 := Lib.hid (P.out.next (x := ⟨X, .slice va vn vc, W.heap.size, w3.heap.size⟩) (by rw [hm'.out, hLl]; exact hown') hgrow (fun e => hnil e) (hat.imp (fun h => h) (fun h => by simpa using h)) hx.out hLq.out)
      have hL5 := Lib.hid (show zens (L ++ [⟨X, .slice va vn vc, W.heap.size, w3.heap.size⟩]) = R.take (k + 1) from by
        rw [zens_app, hL.out, List.take_add_one, List.getElem?_eq_getElem hkR, ← hX.out, List.getD_eq_getElem?_getD, List.getElem?_eq_getElem hkR]; rfl)
      clear hown' hgrow hnil hat hPr hPs hx hLq hm' P hW hL
      go_wp2_with fail
      go_roundw
      case rel => exact ⟨k + 1, _, by omega, by go_num, hL5, P5⟩
      case measure => simp [intOf]; omega
    · obtain rfl : k = n := by omega
      have e : zens L = R := by rw [hL.out, List.take_of_length_le (by rw [hn.out]; exact Nat.le_refl _)]
      have hO := P.out.zr.log (by rw [← zens_len, e, hn.out]; omega)
      rw [e] at hO
      have hO := Lib.hid hO
      have hB := Lib.hid P.out.kp
      clear P hL e
      go_wp2_with fail
      go_ret
      exact ⟨_, rfl, hO.out, hB.out⟩
end Go.Proofs.YtiolhjjkjmepcaaGreatDoor

/- The program's put of an entry into a book. -/
namespace Go.Proofs.YtiolhjjkjmepcaaGreatDoor
open Go.RowKit
set_option linter.unusedVariables false

theorem enB_id {X : En} (h : enB X = true) : okP X.id = true := by
  simp only [enB, ndB, En.nd, Bool.and_eq_true] at h
  exact h.1.1
theorem putE_pos (X : En) (E : List En) : 1 ≤ (putE X E).length := List.length_pos_of_mem (mem_putE.2 (.inl rfl))
/-- What put answers. -/
def bputR (E : List En) (X : En) : List En × Bool := if (putE X E).length ≤ 12 then (putE X E, true) else ([], false)
/-- What put leaves. -/
def BpZ (bb : Nat) (E : List En) (X : En) (w : World) (e : Ending) (w' : World) : Prop :=
  (∃ v, e = .returned (.tuple #[v, .bool (bputR E X).2]) ∧ LogO w' w.heap.size w'.heap.size v (bputR E X).1) ∧ Keep w.heap.size bb w w'

set_option maxRecDepth 100000 in
set_option maxHeartbeats 4000000 in
theorem ibput_any (bb nn : Nat) (M : Pid → Option Value) (E : List En) (X : En) (v : Value) (w : World) (hn : nn < maxLen) (hp : enB X = true) (hB : BkE w bb nn M E) (hv : Ids w v X.deps) :
    Calls Tryz.prog 38 #[.map (some bb), env X v] w (BpZ bb E X w) := by
  obtain ⟨ua0, un0, uc0, rfl⟩ : ∃ ua un uc, v = .slice ua un uc := by obtain ⟨a, c, e, _⟩ := hv; exact ⟨a, _, c, e⟩
  have hbb := hB.book.lt
  have A0 := Lib.hid (heap_alloc_new w (.cells #[.int .i64 X.id.1, .int .i64 X.id.2, .int .i64 X.bal, .int .i64 X.st, .int .i64 X.k, .int .i64 X.key, .int .i64 X.v, .int .i64 X.seq, .slice ua0 un0 uc0] 30))
  have B0 := Lib.hid ((Below.refl w.heap.size w).alloc (Nat.le_refl _) (.cells #[.int .i64 X.id.1, .int .i64 X.id.2, .int .i64 X.bal, .int .i64 X.st, .int .i64 X.k, .int .i64 X.key, .int .i64 X.v, .int .i64 X.seq, .slice ua0 un0 uc0] 30))
  have hB := Lib.hid (hB.up ((Below.refl w.heap.size w).alloc (Nat.le_refl _) (.cells #[.int .i64 X.id.1, .int .i64 X.id.2, .int .i64 X.bal, .int .i64 X.st, .int .i64 X.k, .int .i64 X.key, .int .i64 X.v, .int .i64 X.seq, .slice ua0 un0 uc0] 30)))
  have hI := Lib.hid (hv.up B0.out (Nat.le_refl _))
  have hs0 : w.heap.size < (w.alloc (.cells #[.int .i64 X.id.1, .int .i64 X.id.2, .int .i64 X.bal, .int .i64 X.st, .int .i64 X.k, .int .i64 X.key, .int .i64 X.v, .int .i64 X.seq, .slice ua0 un0 uc0] 30)).heap.size := by simp
  clear hv
  unfold env
  go_enter Tryz.func38, Tryz.ntmps38
  go_upto_region 1 with fail
  generalize w.alloc (.cells #[.int .i64 X.id.1, .int .i64 X.id.2, .int .i64 X.bal, .int .i64 X.st, .int .i64 X.k, .int .i64 X.key, .int .i64 X.v, .int .i64 X.seq, .slice ua0 un0 uc0] 30) = w2 at A0 B0 hB hI hs0 ⊢
  obtain ⟨w3, hrun, hB3, hg3⟩ := hB.out.put Tryz.underlying60 hn (enB_id hp) hI.out
  have K3 : Hid (Keep w.heap.size bb w w3) := Lib.hid ((Keep.of_below B0.out).trans ⟨hg3.os, hg3.tape, hg3.output, hg3.size, fun c h1 h2 => hg3.block c (by omega) (fun e => by injection e with e; exact h2 e)⟩)
  have hs3 : w.heap.size ≤ w3.heap.size := K3.out.size
  obtain ⟨D, hD, hsz⟩ := book_len hB3.book hB3.keys
  rw [idsE_len] at hsz
  obtain ⟨m, hm⟩ : ∃ m, Hid ((putE X E).length = m) := ⟨_, Lib.hid rfl⟩
  rw [hm.out] at hsz
  have hm1 : 1 ≤ m := by rw [← hm.out]; exact putE_pos X E
  have ent := ientries_any bb _ _ (putE X E) w3 hB3 (by rw [hm.out]; exact hm1)
  rw [hm.out] at ent
  obtain ⟨⟨y0, y1, y2, y3, y4, y5, y6, y7, y8⟩, _, ys⟩ := nine_all A0.out
  unfold idv2 env at hrun
  clear hB3 hB hI hg3 A0 B0 hp
  by_cases h12 : m ≤ 12
  · have R := Lib.hid (show bputR E X = (putE X E, true) from if_pos (by rw [hm.out]; exact h12))
    have hg : ¬ 12 < m := by omega
    replace ent := ent h12
    go_wp2_with (first | (at_len; refine wpList_len_own _ rfl _ 60 rfl 25 30 Tryz.underlying60 Rv bb _ D rfl hD ?_; rw [hsz]) | fail)
    refine ent.mono ?_
    rintro e w4 ⟨v4, rfl, O4, B⟩
    have O4 := Lib.hid (O4.wide hs3 (Nat.le_refl _) (Nat.le_refl _))
    have K4 := Lib.hid (K3.out.trans (Keep.of_below (B.mono hs3)))
    obtain ⟨g4, c4, hv4, _⟩ := O4.out.shape
    subst hv4
    clear B K3 ent hD hrun y0 y1 y2 y3 y4 y5 y6 y7 y8 ys
    go_wp2_with fail
    go_ret2
    rw [BpZ, R.out]
    exact ⟨⟨_, rfl, O4.out⟩, K4.out⟩
  · have R := Lib.hid (show bputR E X = ([], false) from if_neg (by rw [hm.out]; exact h12))
    have hg : 12 < m := by omega
    clear ent
    go_wp2_with (first | (at_len; refine wpList_len_own _ rfl _ 60 rfl 25 30 Tryz.underlying60 Rv bb _ D rfl hD ?_; rw [hsz]) | fail)
    go_ret2
    rw [BpZ, R.out]
    exact ⟨⟨_, rfl, by have := LogO.none w3 w.heap.size hs3; simpa using this⟩, K3.out.alloc hs3 _⟩
end Go.Proofs.YtiolhjjkjmepcaaGreatDoor

/- The program's TakeEntry. -/
namespace Go.Proofs.YtiolhjjkjmepcaaGreatDoor
open Go.RowKit
set_option linter.unusedVariables false

/-- What TakeEntry leaves. -/
def TkZ (Q : List En × Bool) (w : World) (e : Ending) (w' : World) : Prop :=
  (∃ v, e = .returned (.tuple #[v, .bool Q.2]) ∧ LogO w' w.heap.size w'.heap.size v Q.1) ∧ Below w.heap.size w w'
theorem tkz_fail {Q : List En × Bool} {w w2 : World} (B : Below w.heap.size w w2) (h : Q = ([], false)) : TkZ Q w (.returned (.tuple #[.slice (some ⟨w2.heap.size, 0, none⟩) 0 0, .bool false])) (w2.alloc (.cells #[] 30)) := by
  unfold TkZ
  rw [h]
  exact ⟨⟨_, rfl, by have := LogO.none w2 w.heap.size B.size; simpa using this⟩, B.alloc B.size _⟩
theorem SenIn.cells {a0 a1 : Addr} {w : World} (h : SenIn a0 a1 w) : w.cell? ⟨0, 0, none⟩ = some (.iface 173 (.pointer (some a0))) ∧ w.cell? ⟨1, 0, none⟩ = some (.iface 173 (.pointer (some a1))) := ⟨h.1, h.2.1⟩

set_option maxRecDepth 100000 in
set_option maxHeartbeats 4000000 in
theorem itake_any (a0 a1 : Addr) (u v : Value) (E : List En) (X : En) (w : World) (h : Ens w u E) (hv : Ids w v X.deps) (hX : inR X.id) (hS : ∀ W, Below w.heap.size w W → SenIn a0 a1 W) :
    Calls Tryz.prog 13 #[u, env X v] w (TkZ (takeR E X) w) := by
  obtain ⟨ua0, un0, uc0, rfl⟩ : ∃ ua un uc, v = .slice ua un uc := by obtain ⟨a, c, e, _⟩ := hv; exact ⟨a, _, c, e⟩
  have A0 := Lib.hid (heap_alloc_new w (.cells #[.int .i64 X.id.1, .int .i64 X.id.2, .int .i64 X.bal, .int .i64 X.st, .int .i64 X.k, .int .i64 X.key, .int .i64 X.v, .int .i64 X.seq, .slice ua0 un0 uc0] 30))
  have B0 := Lib.hid ((Below.refl w.heap.size w).alloc (Nat.le_refl _) (.cells #[.int .i64 X.id.1, .int .i64 X.id.2, .int .i64 X.bal, .int .i64 X.st, .int .i64 X.k, .int .i64 X.key, .int .i64 X.v, .int .i64 X.seq, .slice ua0 un0 uc0] 30))
  obtain ⟨U, hU, bk⟩ := ibookfor_any u (.slice ua0 un0 uc0) E X 2 _ (h.up B0.out (Nat.le_refl _)) (hv.up B0.out (Nat.le_refl _))
  have hU := Lib.hid hU
  have hX := Lib.hid hX
  have hS := Lib.hid hS
  have hI := Lib.hid (fun W (hb : Below w.heap.size w W) => hv.up hb (Nat.le_refl _))
  unfold BfP at bk
  have hok : Hid (∀ ok, ok = (enB X && decide (X.st = 2)) → ok = false → takeR E X = ([], false)) := Lib.hid (by
    intro ok e1 e2
    unfold takeR
    rw [if_neg]
    rintro ⟨_, g1, g2, _⟩
    rw [e2, g1, g2] at e1
    simp at e1)
  obtain ⟨ok, hokE⟩ : ∃ q, Hid ((enB X && decide (X.st = 2)) = q) := ⟨_, Lib.hid rfl⟩
  rw [hokE.out] at bk
  obtain ⟨Q, hQ⟩ : ∃ q, Hid (takeR E X = q) := ⟨_, Lib.hid rfl⟩
  rw [hQ.out]
  clear h hv
  unfold env at bk ⊢
  go_enter Tryz.func13, Tryz.ntmps13
  obtain ⟨⟨y0, y1, y2, y3, y4, y5, y6, y7, y8⟩, _, ys⟩ := nine_all A0.out
  go_wp2_with fail
  refine bk.mono ?_
  rintro e w1 ⟨⟨hqt, bb, hbb, rfl, hB⟩ | ⟨hqf, rfl⟩, B⟩
  · have A1 := Lib.hid (bblk B (lt_of_heap A0.out) A0.out)
    have B1 := Lib.hid (bstep B0.out B)
    have hU1 := Lib.hid (fun k (hk : k < E.length) => (hU.out k hk).up B (Nat.le_refl _))
    have lt := ilate_any bb a0 a1 E U X ua0 un0 uc0 w1 hqt hB (fun k hk => by obtain ⟨a, c, e, _⟩ := hU1.out k hk; exact ⟨a, _, c, e⟩) hX.out (fun W hb => (hS.out W (bstep B1.out hb)).1) (fun W hb => (hS.out W (bstep B1.out hb)).2.1)
    have hqt := Lib.hid hqt
    have hB := Lib.hid hB
    replace hbb : w.heap.size < bb := by simp at hbb; omega
    clear B A0 B0 bk hU y0 y1 y2 y3 y4 y5 y6 y7 y8 ys
    obtain ⟨⟨y0, y1, y2, y3, y4, y5, y6, y7, y8⟩, _, ys⟩ := nine_all A1.out
    obtain ⟨lv, hlv⟩ : ∃ q, Hid (lateV a0 a1 E X = q) := ⟨_, Lib.hid rfl⟩
    rw [hlv.out] at lt
    unfold env at lt
    go_wp2_with fail
    refine lt.mono ?_
    rintro e w2 ⟨rfl, B⟩
    have A2 := Lib.hid (bblk B (lt_of_heap A1.out) A1.out)
    have B2 := Lib.hid (bstep B1.out B)
    have hU2 := Lib.hid (fun k (hk : k < E.length) => (hU1.out k hk).up B (Nat.le_refl _))
    replace hB := Lib.hid (hB.out.up B hB.out.lt)
    have S2 := hS.out w2 B2.out
    obtain ⟨g0, g1⟩ := S2.cells
    obtain ⟨_, _, hne, c0, c1, t0, t1, b0, b1⟩ := S2
    have hne := Lib.hid hne
    have b0 := Lib.hid b0
    have b1 := Lib.hid b1
    clear B A1 B1 lt hU1 y0 y1 y2 y3 y4 y5 y6 y7 y8 ys
    cases ok
    · have R := Lib.hid (tkz_fail B2.out (hQ.out.symm.trans (hok.out false hokE.out.symm rfl)))
      go_wp2_with fail
      go_ret2
      exact R.out
    · have hen : Hid (enB X = true ∧ X.st = 2) := Lib.hid (by have := hokE.out; simpa using this)
      by_cases hf : fixedB E X.id = true
      · have hl : lv = .iface 173 (.pointer (some a0)) := hlv.out.symm.trans (by unfold lateV; rw [if_pos hf]; rfl)
        have R := Lib.hid (tkz_fail B2.out (hQ.out.symm.trans (by unfold takeR; rw [if_neg]; rintro ⟨_, _, _, g, _⟩; rw [hf] at g; cases g)))
        clear hlv
        subst hl
        have i1 := err_same a0 w2
        unfold errV at i1
        go_wp2_with fail
        refine i1.mono ?_
        rintro e w3 ⟨rfl, rfl⟩
        go_wp2_with fail
        go_ret2
        exact R.out
      · have hf := Lib.hid hf
        by_cases hp : passB E X = true
        · have hl : lv = .iface 173 (.pointer (some a1)) := hlv.out.symm.trans (by unfold lateV; rw [if_neg hf.out, if_pos hp]; rfl)
          have R := Lib.hid (tkz_fail B2.out (hQ.out.symm.trans (by unfold takeR; rw [if_neg]; rintro ⟨_, _, _, _, g⟩; rw [hp] at g; cases g)))
          clear hlv
          subst hl
          have i1 := err_other a1 a0 _ _ _ _ w2 (fun h => hne.out h.symm) b1.out b0.out
          have i2 := err_same a1 w2
          unfold errV at i1 i2
          go_wp2_with fail
          refine i1.mono ?_
          rintro e w3 ⟨rfl, rfl⟩
          go_wp2_with fail
          refine i2.mono ?_
          rintro e w3 ⟨rfl, rfl⟩
          go_wp2_with fail
          go_ret2
          exact R.out
        · have hp := Lib.hid hp
          have hl : lv = .nilIface := hlv.out.symm.trans (by unfold lateV; rw [if_neg hf.out, if_neg hp.out])
          clear hlv
          subst hl
          have i1 := err_nil a0 w2
          have i2 := err_nil a1 w2
          unfold errV at i1 i2
          have hlog := Lib.hid (log_of hqt.out)
          have hE12 := hlog.out.1
          have bp := ibput_any bb _ _ E X (.slice ua0 un0 uc0) w2 (by unfold maxLen; omega) hen.out.1 (bkE_log hqt.out hB.out hU2.out) (hI.out _ B2.out)
          unfold BpZ at bp
          have hs2 := B2.out.size
          have hR : Hid (Q = bputR E X) := Lib.hid (hQ.out.symm.trans (by
            unfold takeR
            rw [if_pos ⟨hqt.out, hen.out.1, hen.out.2, by simpa using hf.out, by simpa using hp.out⟩]
            unfold bputR
            by_cases h12 : (putE X E).length ≤ 12
            · rw [lputR_good hqt.out hen.out.1 h12, if_pos h12]
            · rw [lputR_long h12, if_neg h12]))
          obtain ⟨⟨N, q2⟩, hQ2⟩ : ∃ r, Hid (bputR E X = r) := ⟨_, Lib.hid rfl⟩
          rw [hQ2.out] at bp hR
          dsimp only at bp
          unfold env at bp
          obtain ⟨⟨y0, y1, y2, y3, y4, y5, y6, y7, y8⟩, _, ys⟩ := nine_all A2.out
          clear hB hU2 hI A2 hlog
          go_wp2_with fail
          refine i1.mono ?_
          rintro e w3 ⟨rfl, rfl⟩
          go_wp2_with fail
          refine i2.mono ?_
          rintro e w3 ⟨rfl, rfl⟩
          go_wp2_with fail
          refine bp.mono ?_
          rintro e w4 ⟨⟨v4, rfl, O4⟩, K4⟩
          have B4 : Hid (Below w.heap.size w w4) := Lib.hid (B2.out.trans ((K4.mono hs2).below (Nat.le_of_lt hbb)))
          have O4 := Lib.hid (O4.wide hs2 (Nat.le_refl _) (Nat.le_refl _))
          obtain ⟨g4, c4, hv4, _⟩ := O4.out.shape
          subst hv4
          clear K4 bp y0 y1 y2 y3 y4 y5 y6 y7 y8 ys
          go_wp2_with fail
          go_ret2
          rw [TkZ, hR.out]
          exact ⟨⟨_, rfl, O4.out⟩, B4.out⟩
  · have B1 := Lib.hid (bstep B0.out B)
    have A1 := Lib.hid (bblk B (lt_of_heap A0.out) A0.out)
    have lt := ilate_nil X ua0 un0 uc0 w1 hX.out
    clear B A0 B0 bk hU y0 y1 y2 y3 y4 y5 y6 y7 y8 ys
    obtain ⟨⟨y0, y1, y2, y3, y4, y5, y6, y7, y8⟩, _, ys⟩ := nine_all A1.out
    unfold env at lt
    go_wp2_with fail
    refine lt.mono ?_
    rintro e w2 ⟨rfl, B⟩
    have R := Lib.hid (tkz_fail (Q := Q) (bstep B1.out B) (hQ.out.symm.trans (by unfold takeR; rw [if_neg]; rintro ⟨g, _⟩; rw [hqf] at g; cases g)))
    clear lt A1 B y0 y1 y2 y3 y4 y5 y6 y7 y8 ys
    go_wp2_with fail
    go_ret2
    exact R.out
end Go.Proofs.YtiolhjjkjmepcaaGreatDoor

/- The model's l11Put and LogPut. -/
namespace Go.Proofs.YtiolhjjkjmepcaaGreatDoor
open Go.RowKit
set_option linter.unusedVariables false

theorem ER.wide {w : World} {B B' : Nat} {v : Value} {L : EL} (h : ER w B v L) (hB : B' ≤ B) : ER w B' v L := by
  refine ⟨⟨h.row.1, ?_⟩, h.nn, fun x hx => ?_⟩
  · rcases h.row.2 with hn | ⟨g, cap, cur, rfl, hb, rest⟩
    · exact .inl hn
    · exact .inr ⟨g, cap, cur, rfl, Nat.le_trans hB hb, rest⟩
  · obtain ⟨b, h1, h2, h3⟩ := h.deps x hx
    exact ⟨b, Nat.le_trans hB h1, h2, h3⟩
/-- Where l11Put is: the entry's box, the entries so far. -/
structure PtE (w wr : World) (X : En) (u v : Value) (L : EL) : Prop where
  er : ER wr (w.heap.size + 1) v L
  bx : wr.heap[w.heap.size]? = some (.cells #[.int .i64 X.id.1, .int .i64 X.id.2, .int .i64 X.bal, .int .i64 X.st, .int .i64 X.k, .int .i64 X.key, .int .i64 X.v, .int .i64 X.seq, u] 30 (0, 0))
  kp : Below w.heap.size w wr
section
variable {w wr w' : World} {X : En} {u v : Value} {L : EL}
theorem PtE.up (h : PtE w wr X u v L) (hb : Below wr.heap.size wr w') : PtE w w' X u v L := ⟨h.er.up hb, (hb.block _ (lt_of_heap h.bx)).trans h.bx, bstep h.kp hb⟩
theorem PtE.fresh (h : PtE w wr X u v L) {b : Nat} {x : En × Value} (hb : wr.heap.size ≤ b) (hO : OwnP w' b x.2 x.1.deps) : ∃ b, w.heap.size + 1 ≤ b ∧ v.ownBlock ≠ some b ∧ OwnP w' b x.2 x.1.deps :=
  ⟨b, by have := lt_of_heap h.bx; omega, fun e => by have := (rowT h.er.row e).1.lt; omega, hO⟩
theorem PtE.next (h : PtE w wr X u v L) {o : Obj} {v' : Value} {x : En × Value} {m : Nat} {A : List En} (hown : w'.ownsRow (w.heap.size + 1) 30 9 v' (L.length + 1) (flatE L ++ ecell x)) (hg : (wr.alloc o).grownBy w' (Value.ownBlock v)) (hn : v' ≠ .slice none 0 0)
    (hat : v'.ownBlock = v.ownBlock ∨ v'.ownBlock = some (wr.heap.size + 1)) (hx : ∃ b, w.heap.size + 1 ≤ b ∧ v.ownBlock ≠ some b ∧ OwnP wr b x.2 x.1.deps) (hA : L.map Prod.fst = A) (hm : L.length = m) :
    ∃ L', PtE w w' X u v' L' ∧ L'.map Prod.fst = A ++ [x.1] ∧ L'.length = m + 1 := by
  have hl := lt_of_heap h.bx
  refine ⟨L ++ [x], ⟨h.er.put hown hg hn hat hx, ?_, h.kp.trans ((h.er.grown hg hl).mono (Nat.le_succ _))⟩, by rw [List.map_append, hA]; rfl, by rw [List.length_append, hm]; rfl⟩
  refine (hg.block _ (by simp; omega) fun e => ?_).trans ((Below.heap_alloc _ _ _ hl).trans h.bx)
  have := (rowT h.er.row e.symm).2
  omega
end
/-- One step, by what it finds. -/
theorem step_he {X x : En} (O : List En) (hid : x.id = X.id) : stpE X (O, false) x = (O ++ [X], true) := by unfold stpE; simp [hid, ltP_irr]
theorem step_hn {X x : En} (O : List En) (hid : ¬ x.id = X.id) (hlt : ltP x.id X.id = false) : stpE X (O, false) x = (O ++ [X] ++ [x], true) := by unfold stpE; simp [hid, hlt]
theorem step_m {X x : En} (O : List En) (hlt : ltP x.id X.id = true) : stpE X (O, false) x = (O ++ [x], false) := by
  have hid : ¬ x.id = X.id := fun e => by rw [e, ltP_irr] at hlt; cases hlt
  unfold stpE; simp [hid, hlt]
theorem step_de {X x : En} (O : List En) (hid : x.id = X.id) : stpE X (O, true) x = (O, true) := by unfold stpE; simp [hid]
theorem step_dn {X x : En} (O : List En) (hid : ¬ x.id = X.id) : stpE X (O, true) x = (O ++ [x], true) := by unfold stpE; simp [hid]
theorem pid_ne {a b : Pid} (h : ¬ a = b) : (¬ a.1 = b.1) ∨ (a.1 = b.1 ∧ ¬ a.2 = b.2) := by
  by_cases h1 : a.1 = b.1
  · exact .inr ⟨h1, fun h2 => h (Prod.ext h1 h2)⟩
  · exact .inl h1

set_option maxRecDepth 100000 in
set_option maxHeartbeats 16000000 in
theorem sput11_at (b off ca : Nat) (E : List En) (U : Nat → Value) (X : En) (u : Value) (w : World) (hm : E.length ≤ 12) (h : EnsAt w b off E U) (hu : Ids w u X.deps) :
    Calls Tryz.prog 70 #[.slice (some ⟨b, off, none⟩) E.length ca, env X u] w fun e w' => (∃ v, e = .returned v ∧ EnO w' w.heap.size v (endE X (runE X E))) ∧ Below w.heap.size w w' := by
  obtain ⟨i0, hi, hz0, hz1, hz2⟩ := info_parts info_en
  obtain ⟨ua0, un0, uc0, rfl⟩ : ∃ ua un uc, u = .slice ua un uc := by obtain ⟨a, c, e, _⟩ := hu; exact ⟨a, _, c, e⟩
  have h := Lib.hid h
  have uat := fun W (hb : Below w.heap.size w W) => hu.up hb (Nat.le_refl _)
  obtain ⟨n, hn⟩ : ∃ n, Hid (E.length = n) := ⟨_, Lib.hid rfl⟩
  rw [hn.out] at hm ⊢
  have P0 : Hid (PtE w ((w.alloc (.cells #[.int .i64 X.id.1, .int .i64 X.id.2, .int .i64 X.bal, .int .i64 X.st, .int .i64 X.k, .int .i64 X.key, .int .i64 X.v, .int .i64 X.seq, .slice ua0 un0 uc0] 30)).alloc (.cells #[] 30)) X (.slice ua0 un0 uc0) (.slice (some ⟨w.heap.size + 1, 0, none⟩) 0 0) []) := Lib.hid
    ⟨by have := er_new (w.alloc (.cells #[.int .i64 X.id.1, .int .i64 X.id.2, .int .i64 X.bal, .int .i64 X.st, .int .i64 X.k, .int .i64 X.key, .int .i64 X.v, .int .i64 X.seq, .slice ua0 un0 uc0] 30)) (w.heap.size + 1) (by simp); simpa using this, (Below.heap_alloc _ _ _ (by simp)).trans (heap_alloc_new w _), ((Below.refl _ _).alloc (Nat.le_refl _) _).alloc (by simp) _⟩
  clear hu
  unfold env
  go_enter Tryz.func70, Tryz.ntmps70
  go_wp2_with fail
  go_loopw [5, 6, 7] (fun vo d i wr => ∃ (k : Nat) (LL : EL), k ≤ n ∧ i = .int .i64 k ∧ d = .bool (runE X (E.take k)).2 ∧ Hid (LL.map Prod.fst = (runE X (E.take k)).1) ∧ Hid (PtE w wr X (.slice ua0 un0 uc0) vo LL)) (fun _ _ i _ => n - (intOf i).toNat)
  case atStart => exact ⟨0, [], Nat.zero_le _, rfl, rfl, Lib.hid rfl, P0⟩
  case round =>
    clear P0
    obtain ⟨k, LL, hk, rfl, rfl, hM, P⟩ := hrel
    have hLl : LL.length ≤ 24 := by
      have h1 := runE_len X (E.take k) ([], false)
      have h2 : LL.length = (runE X (E.take k)).1.length := by rw [← hM.out, List.length_map]
      have h3 : (E.take k).length ≤ 12 := by rw [List.length_take, hn.out]; omega
      have h4 : (runE X (E.take k)).1.length ≤ 0 + 2 * (E.take k).length := h1
      omega
    by_cases hlt : k < n
    · have hkE : k < E.length := by rw [hn.out]; exact hlt
      obtain ⟨x, hx⟩ : ∃ x, Hid (E.getD k en0 = x) := ⟨_, Lib.hid rfl⟩
      obtain ⟨ua, un, uc, hU⟩ : ∃ ua un uc, U k = .slice ua un uc := by obtain ⟨a, c, e, _⟩ := (h.out.at_ k hkE).ids; exact ⟨a, _, c, e⟩
      have xat : ∀ W, Below w.heap.size w W → EnAt W b (off + k * 9) x (.slice ua un uc) := fun W hb => by
        have := (h.out.up hb (Nat.le_refl _)).at_ k hkE
        rw [hx.out, hU] at this; exact this
      have hbl : ∀ W, Below w.heap.size w W → b < W.heap.size := fun W hb => (h.out.up hb (Nat.le_refl _)).lt
      obtain ⟨⟨O, q⟩, hr⟩ : ∃ r, Hid (runE X (E.take k) = r) := ⟨_, Lib.hid rfl⟩
      rw [hr.out] at hM ⊢
      dsimp only at hM ⊢
      clear h hU
      cases q
      · by_cases hlt : ltP x.id X.id = true
        · have sl := slt_any x.id.1 x.id.2 X.id.1 X.id.2
          rw [show ltB x.id.1 x.id.2 X.id.1 X.id.2 = true from hlt] at sl
          go_upto_region 6 with fail
          go_cut [27] from 15 to 26 (fun s wx => s = .bool false ∧ Hid (PtE w wx X (.slice ua0 un0 uc0) u5 LL))
          case first =>
            obtain ⟨⟨y0, y1, y2, y3, y4, y5, y6, y7, y8⟩, _, ys⟩ := nine_all P.out.bx
            obtain ⟨q0, q1, q2, q3, q4, q5, q6, q7, q8, qi⟩ := xat _ P.out.kp
            have qb := hbl _ P.out.kp
            go_region_with (go_at_call 64; (with_reducible refine (sl _).mono ?_); rintro e wy ⟨rfl, B⟩; have P2 := Lib.hid (PtE.up (PtE.up P.out (Below.drew (Below.refl _ _))) B); clear B)
            all_goals
              go_wp2_with fail
              go_meet
              exact ⟨rfl, P2⟩
          case rest =>
            obtain ⟨rfl, P2⟩ := hcut
            clear P sl
            have P := P2
            clear P2
            obtain ⟨⟨y0, y1, y2, y3, y4, y5, y6, y7, y8⟩, _, ys⟩ := nine_all P.out.bx
            obtain ⟨q0, q1, q2, q3, q4, q5, q6, q7, q8, qi⟩ := xat _ P.out.kp
            have qb := hbl _ P.out.kp
            have F := Lib.hid (step_m O hlt)
            have hid : ¬ x.id = X.id := fun e => by rw [e, ltP_irr] at hlt; cases hlt
            rcases pid_ne hid with hne | ⟨hne0, hne⟩
            · go_wp2_with fail
              go_quiet (fail)
              replace P := Lib.hid (P.out.up (w' := wc.drewN nq) (bdrewN (Below.refl _ _) _))
              generalize wc.drewN nq = wz3 at P ⊢
              clear y0 y1 y2 y3 y4 y5 y6 y7 y8 ys
              clear q0 q1 q2 q3 q4 q5 q6 q7 q8 qi qb
              clear hne
              obtain ⟨⟨y0, y1, y2, y3, y4, y5, y6, y7, y8⟩, _, ys⟩ := nine_all P.out.bx
              obtain ⟨q0, q1, q2, q3, q4, q5, q6, q7, q8, qi⟩ := xat _ P.out.kp
              have qb := hbl _ P.out.kp
              go_wp2_with fail
              refine (copy_at x.id.1 x.id.2 x.bal x.st x.k x.key x.v x.seq x.deps (.slice ua un uc) _ qi).mono ?_
              rintro e wc2 ⟨⟨cu2, rfl, hrow⟩, B⟩
              have hDl : x.deps.length ≤ 2000000 := by obtain ⟨_, _, _, _, hh, _⟩ := qi; exact hh
              obtain ⟨b2, hb2, hO⟩ := hrow.own hDl
              obtain ⟨cc2, rfl, _⟩ := hO.shape
              have hx2 := Lib.hid (P.out.fresh (x := (x, .slice (some ⟨b2, 0, none⟩) x.deps.length cc2)) hb2 hO)
              replace P := Lib.hid (P.out.up B)
              have hPs := P.out.kp.size
              have hPr := Lib.hid P.out.er.row
              obtain ⟨m, hm'⟩ : ∃ m, Hid (LL.length = m) := ⟨_, Lib.hid rfl⟩
              rw [hm'.out] at hPr hLl
              clear hrow hO B
              clear y0 y1 y2 y3 y4 y5 y6 y7 y8 ys
              clear q0 q1 q2 q3 q4 q5 q6 q7 q8 qi qb
              go_wp2_with (at_builtin; refine wpList_append_own_at _ rfl _ _ 23 rfl (w.heap.size + 1) 30 i0 (.agg #[.int .i64 0, .int .i64 0, .int .i64 0, .int .i64 0, .int .i64 0, .int .i64 0, .int .i64 0, .int .i64 0, .slice none 0 0]) 9 88 Tryz.underlying23 hi hz0 hz1 hz2 rfl (by decide) _ m (flatE LL) rfl (hPr.out.alloc _) ⟨wc2.heap.size, 0, none⟩ 1 1 [.int .i64 x.id.1, .int .i64 x.id.2, .int .i64 x.bal, .int .i64 x.st, .int .i64 x.k, .int .i64 x.key, .int .i64 x.v, .int .i64 x.seq, .slice (some ⟨b2, 0, none⟩) x.deps.length cc2] rfl rfl ?fc1 ?fc2 ?fc3 ?fc4 ?fc5 ?_)
              case fc1 => exact nine_srcE _ _ _ _ _ _ _ _ _ _ _ _ (by simp)
              case fc2 => exact nine_oneE _ _ _ _ _ _ _ _ _ _ _
              case fc3 => unfold maxLen; omega
              case fc4 => omega
              case fc5 => first | omega | (simp; omega)
              intro v' w' hown' hgrow hnil hat
              obtain ⟨LL2, P5, hM5, hl5⟩ := P.out.next (x := (x, .slice (some ⟨b2, 0, none⟩) x.deps.length cc2)) (by rw [hm'.out]; exact hown') hgrow (fun e => hnil e) (hat.imp (fun h => h) (fun h => by simpa using h)) hx2.out hM.out hm'.out
              clear hown' hgrow hnil hat hPr hPs hx2 hM hb2 hDl hm' P
              have P := Lib.hid P5
              have hM := Lib.hid hM5
              replace hLl : LL2.length ≤ 25 := by omega
              clear P5 hM5 hl5
              go_wp2_with fail
              refine ⟨⟨k + 1, LL2, by omega, by go_num, by rw [runE_next X hkE, hx.out, hr.out, F.out], Lib.hid (by rw [runE_next X hkE, hx.out, hr.out, F.out]; exact hM.out), P⟩, ?_⟩
              simp [intOf]; omega
            · go_wp2_with fail
              go_quiet (fail)
              replace P := Lib.hid (P.out.up (w' := wc.drewN nq) (bdrewN (Below.refl _ _) _))
              generalize wc.drewN nq = wz3 at P ⊢
              clear y0 y1 y2 y3 y4 y5 y6 y7 y8 ys
              clear q0 q1 q2 q3 q4 q5 q6 q7 q8 qi qb
              clear hne hne0
              obtain ⟨⟨y0, y1, y2, y3, y4, y5, y6, y7, y8⟩, _, ys⟩ := nine_all P.out.bx
              obtain ⟨q0, q1, q2, q3, q4, q5, q6, q7, q8, qi⟩ := xat _ P.out.kp
              have qb := hbl _ P.out.kp
              go_wp2_with fail
              refine (copy_at x.id.1 x.id.2 x.bal x.st x.k x.key x.v x.seq x.deps (.slice ua un uc) _ qi).mono ?_
              rintro e wc2 ⟨⟨cu2, rfl, hrow⟩, B⟩
              have hDl : x.deps.length ≤ 2000000 := by obtain ⟨_, _, _, _, hh, _⟩ := qi; exact hh
              obtain ⟨b2, hb2, hO⟩ := hrow.own hDl
              obtain ⟨cc2, rfl, _⟩ := hO.shape
              have hx2 := Lib.hid (P.out.fresh (x := (x, .slice (some ⟨b2, 0, none⟩) x.deps.length cc2)) hb2 hO)
              replace P := Lib.hid (P.out.up B)
              have hPs := P.out.kp.size
              have hPr := Lib.hid P.out.er.row
              obtain ⟨m, hm'⟩ : ∃ m, Hid (LL.length = m) := ⟨_, Lib.hid rfl⟩
              rw [hm'.out] at hPr hLl
              clear hrow hO B
              clear y0 y1 y2 y3 y4 y5 y6 y7 y8 ys
              clear q0 q1 q2 q3 q4 q5 q6 q7 q8 qi qb
              go_wp2_with (at_builtin; refine wpList_append_own_at _ rfl _ _ 23 rfl (w.heap.size + 1) 30 i0 (.agg #[.int .i64 0, .int .i64 0, .int .i64 0, .int .i64 0, .int .i64 0, .int .i64 0, .int .i64 0, .int .i64 0, .slice none 0 0]) 9 88 Tryz.underlying23 hi hz0 hz1 hz2 rfl (by decide) _ m (flatE LL) rfl (hPr.out.alloc _) ⟨wc2.heap.size, 0, none⟩ 1 1 [.int .i64 x.id.1, .int .i64 x.id.2, .int .i64 x.bal, .int .i64 x.st, .int .i64 x.k, .int .i64 x.key, .int .i64 x.v, .int .i64 x.seq, .slice (some ⟨b2, 0, none⟩) x.deps.length cc2] rfl rfl ?fc1 ?fc2 ?fc3 ?fc4 ?fc5 ?_)
              case fc1 => exact nine_srcE _ _ _ _ _ _ _ _ _ _ _ _ (by simp)
              case fc2 => exact nine_oneE _ _ _ _ _ _ _ _ _ _ _
              case fc3 => unfold maxLen; omega
              case fc4 => omega
              case fc5 => first | omega | (simp; omega)
              intro v' w' hown' hgrow hnil hat
              obtain ⟨LL2, P5, hM5, hl5⟩ := P.out.next (x := (x, .slice (some ⟨b2, 0, none⟩) x.deps.length cc2)) (by rw [hm'.out]; exact hown') hgrow (fun e => hnil e) (hat.imp (fun h => h) (fun h => by simpa using h)) hx2.out hM.out hm'.out
              clear hown' hgrow hnil hat hPr hPs hx2 hM hb2 hDl hm' P
              have P := Lib.hid P5
              have hM := Lib.hid hM5
              replace hLl : LL2.length ≤ 25 := by omega
              clear P5 hM5 hl5
              go_wp2_with fail
              refine ⟨⟨k + 1, LL2, by omega, by go_num, by rw [runE_next X hkE, hx.out, hr.out, F.out], Lib.hid (by rw [runE_next X hkE, hx.out, hr.out, F.out]; exact hM.out), P⟩, ?_⟩
              simp [intOf]; omega
        · have hlt : ltP x.id X.id = false := by simpa using hlt
          have sl := slt_any x.id.1 x.id.2 X.id.1 X.id.2
          rw [show ltB x.id.1 x.id.2 X.id.1 X.id.2 = false from hlt] at sl
          go_upto_region 6 with fail
          go_cut [27] from 15 to 26 (fun s wx => s = .bool true ∧ Hid (PtE w wx X (.slice ua0 un0 uc0) u5 LL))
          case first =>
            obtain ⟨⟨y0, y1, y2, y3, y4, y5, y6, y7, y8⟩, _, ys⟩ := nine_all P.out.bx
            obtain ⟨q0, q1, q2, q3, q4, q5, q6, q7, q8, qi⟩ := xat _ P.out.kp
            have qb := hbl _ P.out.kp
            go_region_with (go_at_call 64; (with_reducible refine (sl _).mono ?_); rintro e wy ⟨rfl, B⟩; have P2 := Lib.hid (PtE.up (PtE.up P.out (Below.drew (Below.refl _ _))) B); clear B)
            all_goals
              go_wp2_with fail
              go_meet
              exact ⟨rfl, P2⟩
          case rest =>
            obtain ⟨rfl, P2⟩ := hcut
            clear P sl
            have P := P2
            clear P2
            have ui := uat _ P.out.kp
            obtain ⟨⟨y0, y1, y2, y3, y4, y5, y6, y7, y8⟩, _, ys⟩ := nine_all P.out.bx
            go_wp2_with fail
            refine (copy_at X.id.1 X.id.2 X.bal X.st X.k X.key X.v X.seq X.deps (.slice ua0 un0 uc0) _ ui).mono ?_
            rintro e wc3 ⟨⟨cu3, rfl, hrow⟩, B⟩
            have hDl : X.deps.length ≤ 2000000 := by obtain ⟨_, _, _, _, hh, _⟩ := ui; exact hh
            obtain ⟨b3, hb3, hO⟩ := hrow.own hDl
            obtain ⟨cc3, rfl, _⟩ := hO.shape
            have hx3 := Lib.hid (P.out.fresh (x := (X, .slice (some ⟨b3, 0, none⟩) X.deps.length cc3)) hb3 hO)
            replace P := Lib.hid (P.out.up B)
            have hPs := P.out.kp.size
            have hPr := Lib.hid P.out.er.row
            obtain ⟨m, hm'⟩ : ∃ m, Hid (LL.length = m) := ⟨_, Lib.hid rfl⟩
            rw [hm'.out] at hPr hLl
            clear hrow hO B
            clear y0 y1 y2 y3 y4 y5 y6 y7 y8 ys
            clear ui
            go_wp2_with (at_builtin; refine wpList_append_own_at _ rfl _ _ 23 rfl (w.heap.size + 1) 30 i0 (.agg #[.int .i64 0, .int .i64 0, .int .i64 0, .int .i64 0, .int .i64 0, .int .i64 0, .int .i64 0, .int .i64 0, .slice none 0 0]) 9 88 Tryz.underlying23 hi hz0 hz1 hz2 rfl (by decide) _ m (flatE LL) rfl (hPr.out.alloc _) ⟨wc3.heap.size, 0, none⟩ 1 1 [.int .i64 X.id.1, .int .i64 X.id.2, .int .i64 X.bal, .int .i64 X.st, .int .i64 X.k, .int .i64 X.key, .int .i64 X.v, .int .i64 X.seq, .slice (some ⟨b3, 0, none⟩) X.deps.length cc3] rfl rfl ?fc1 ?fc2 ?fc3 ?fc4 ?fc5 ?_)
            case fc1 => exact nine_srcE _ _ _ _ _ _ _ _ _ _ _ _ (by simp)
            case fc2 => exact nine_oneE _ _ _ _ _ _ _ _ _ _ _
            case fc3 => unfold maxLen; omega
            case fc4 => omega
            case fc5 => first | omega | (simp; omega)
            intro v' w' hown' hgrow hnil hat
            obtain ⟨LL2, P5, hM5, hl5⟩ := P.out.next (x := (X, .slice (some ⟨b3, 0, none⟩) X.deps.length cc3)) (by rw [hm'.out]; exact hown') hgrow (fun e => hnil e) (hat.imp (fun h => h) (fun h => by simpa using h)) hx3.out hM.out hm'.out
            clear hown' hgrow hnil hat hPr hPs hx3 hM hb3 hDl hm' P
            have P := Lib.hid P5
            have hM := Lib.hid hM5
            replace hLl : LL2.length ≤ 25 := by omega
            clear P5 hM5 hl5
            obtain ⟨⟨y0, y1, y2, y3, y4, y5, y6, y7, y8⟩, _, ys⟩ := nine_all P.out.bx
            obtain ⟨q0, q1, q2, q3, q4, q5, q6, q7, q8, qi⟩ := xat _ P.out.kp
            have qb := hbl _ P.out.kp
            by_cases hid : x.id = X.id
            · have F := Lib.hid (step_he O hid)
              skip
              rw [hid] at q0 q1
              go_wp2_with fail
              go_quiet (fail)
              replace P := Lib.hid (P.out.up (w' := w'.drewN nq) (bdrewN (Below.refl _ _) _))
              generalize w'.drewN nq = wz4 at P ⊢
              clear y0 y1 y2 y3 y4 y5 y6 y7 y8 ys
              clear q0 q1 q2 q3 q4 q5 q6 q7 q8 qi qb
              go_wp2_with fail
              refine ⟨⟨k + 1, LL2, by omega, by go_num, by rw [runE_next X hkE, hx.out, hr.out, F.out], Lib.hid (by rw [runE_next X hkE, hx.out, hr.out, F.out]; exact hM.out), P⟩, ?_⟩
              simp [intOf]; omega
            · have F := Lib.hid (step_hn O hid hlt)
              skip
              rcases pid_ne hid with hne | ⟨hne0, hne⟩
              · go_wp2_with fail
                go_quiet (fail)
                replace P := Lib.hid (P.out.up (w' := w'.drewN nq) (bdrewN (Below.refl _ _) _))
                generalize w'.drewN nq = wz5 at P ⊢
                clear y0 y1 y2 y3 y4 y5 y6 y7 y8 ys
                clear q0 q1 q2 q3 q4 q5 q6 q7 q8 qi qb
                clear hne
                obtain ⟨⟨y0, y1, y2, y3, y4, y5, y6, y7, y8⟩, _, ys⟩ := nine_all P.out.bx
                obtain ⟨q0, q1, q2, q3, q4, q5, q6, q7, q8, qi⟩ := xat _ P.out.kp
                have qb := hbl _ P.out.kp
                go_wp2_with fail
                refine (copy_at x.id.1 x.id.2 x.bal x.st x.k x.key x.v x.seq x.deps (.slice ua un uc) _ qi).mono ?_
                rintro e wc4 ⟨⟨cu4, rfl, hrow⟩, B⟩
                have hDl : x.deps.length ≤ 2000000 := by obtain ⟨_, _, _, _, hh, _⟩ := qi; exact hh
                obtain ⟨b4, hb4, hO⟩ := hrow.own hDl
                obtain ⟨cc4, rfl, _⟩ := hO.shape
                have hx4 := Lib.hid (P.out.fresh (x := (x, .slice (some ⟨b4, 0, none⟩) x.deps.length cc4)) hb4 hO)
                replace P := Lib.hid (P.out.up B)
                have hPs := P.out.kp.size
                have hPr := Lib.hid P.out.er.row
                obtain ⟨m, hm'⟩ : ∃ m, Hid (LL2.length = m) := ⟨_, Lib.hid rfl⟩
                rw [hm'.out] at hPr hLl
                clear hrow hO B
                clear y0 y1 y2 y3 y4 y5 y6 y7 y8 ys
                clear q0 q1 q2 q3 q4 q5 q6 q7 q8 qi qb
                go_wp2_with (at_builtin; refine wpList_append_own_at _ rfl _ _ 23 rfl (w.heap.size + 1) 30 i0 (.agg #[.int .i64 0, .int .i64 0, .int .i64 0, .int .i64 0, .int .i64 0, .int .i64 0, .int .i64 0, .int .i64 0, .slice none 0 0]) 9 88 Tryz.underlying23 hi hz0 hz1 hz2 rfl (by decide) _ m (flatE LL2) rfl (hPr.out.alloc _) ⟨wc4.heap.size, 0, none⟩ 1 1 [.int .i64 x.id.1, .int .i64 x.id.2, .int .i64 x.bal, .int .i64 x.st, .int .i64 x.k, .int .i64 x.key, .int .i64 x.v, .int .i64 x.seq, .slice (some ⟨b4, 0, none⟩) x.deps.length cc4] rfl rfl ?fc1 ?fc2 ?fc3 ?fc4 ?fc5 ?_)
                case fc1 => exact nine_srcE _ _ _ _ _ _ _ _ _ _ _ _ (by simp)
                case fc2 => exact nine_oneE _ _ _ _ _ _ _ _ _ _ _
                case fc3 => unfold maxLen; omega
                case fc4 => omega
                case fc5 => first | omega | (simp; omega)
                intro v' w' hown' hgrow hnil hat
                obtain ⟨LL3, P5, hM5, hl5⟩ := P.out.next (x := (x, .slice (some ⟨b4, 0, none⟩) x.deps.length cc4)) (by rw [hm'.out]; exact hown') hgrow (fun e => hnil e) (hat.imp (fun h => h) (fun h => by simpa using h)) hx4.out hM.out hm'.out
                clear hown' hgrow hnil hat hPr hPs hx4 hM hb4 hDl hm' P
                have P := Lib.hid P5
                have hM := Lib.hid hM5
                replace hLl : LL3.length ≤ 26 := by omega
                clear P5 hM5 hl5
                go_wp2_with fail
                refine ⟨⟨k + 1, LL3, by omega, by go_num, by rw [runE_next X hkE, hx.out, hr.out, F.out], Lib.hid (by rw [runE_next X hkE, hx.out, hr.out, F.out]; exact hM.out), P⟩, ?_⟩
                simp [intOf]; omega
              · go_wp2_with fail
                go_quiet (fail)
                replace P := Lib.hid (P.out.up (w' := w'.drewN nq) (bdrewN (Below.refl _ _) _))
                generalize w'.drewN nq = wz5 at P ⊢
                clear y0 y1 y2 y3 y4 y5 y6 y7 y8 ys
                clear q0 q1 q2 q3 q4 q5 q6 q7 q8 qi qb
                clear hne hne0
                obtain ⟨⟨y0, y1, y2, y3, y4, y5, y6, y7, y8⟩, _, ys⟩ := nine_all P.out.bx
                obtain ⟨q0, q1, q2, q3, q4, q5, q6, q7, q8, qi⟩ := xat _ P.out.kp
                have qb := hbl _ P.out.kp
                go_wp2_with fail
                refine (copy_at x.id.1 x.id.2 x.bal x.st x.k x.key x.v x.seq x.deps (.slice ua un uc) _ qi).mono ?_
                rintro e wc4 ⟨⟨cu4, rfl, hrow⟩, B⟩
                have hDl : x.deps.length ≤ 2000000 := by obtain ⟨_, _, _, _, hh, _⟩ := qi; exact hh
                obtain ⟨b4, hb4, hO⟩ := hrow.own hDl
                obtain ⟨cc4, rfl, _⟩ := hO.shape
                have hx4 := Lib.hid (P.out.fresh (x := (x, .slice (some ⟨b4, 0, none⟩) x.deps.length cc4)) hb4 hO)
                replace P := Lib.hid (P.out.up B)
                have hPs := P.out.kp.size
                have hPr := Lib.hid P.out.er.row
                obtain ⟨m, hm'⟩ : ∃ m, Hid (LL2.length = m) := ⟨_, Lib.hid rfl⟩
                rw [hm'.out] at hPr hLl
                clear hrow hO B
                clear y0 y1 y2 y3 y4 y5 y6 y7 y8 ys
                clear q0 q1 q2 q3 q4 q5 q6 q7 q8 qi qb
                go_wp2_with (at_builtin; refine wpList_append_own_at _ rfl _ _ 23 rfl (w.heap.size + 1) 30 i0 (.agg #[.int .i64 0, .int .i64 0, .int .i64 0, .int .i64 0, .int .i64 0, .int .i64 0, .int .i64 0, .int .i64 0, .slice none 0 0]) 9 88 Tryz.underlying23 hi hz0 hz1 hz2 rfl (by decide) _ m (flatE LL2) rfl (hPr.out.alloc _) ⟨wc4.heap.size, 0, none⟩ 1 1 [.int .i64 x.id.1, .int .i64 x.id.2, .int .i64 x.bal, .int .i64 x.st, .int .i64 x.k, .int .i64 x.key, .int .i64 x.v, .int .i64 x.seq, .slice (some ⟨b4, 0, none⟩) x.deps.length cc4] rfl rfl ?fc1 ?fc2 ?fc3 ?fc4 ?fc5 ?_)
                case fc1 => exact nine_srcE _ _ _ _ _ _ _ _ _ _ _ _ (by simp)
                case fc2 => exact nine_oneE _ _ _ _ _ _ _ _ _ _ _
                case fc3 => unfold maxLen; omega
                case fc4 => omega
                case fc5 => first | omega | (simp; omega)
                intro v' w' hown' hgrow hnil hat
                obtain ⟨LL3, P5, hM5, hl5⟩ := P.out.next (x := (x, .slice (some ⟨b4, 0, none⟩) x.deps.length cc4)) (by rw [hm'.out]; exact hown') hgrow (fun e => hnil e) (hat.imp (fun h => h) (fun h => by simpa using h)) hx4.out hM.out hm'.out
                clear hown' hgrow hnil hat hPr hPs hx4 hM hb4 hDl hm' P
                have P := Lib.hid P5
                have hM := Lib.hid hM5
                replace hLl : LL3.length ≤ 26 := by omega
                clear P5 hM5 hl5
                go_wp2_with fail
                refine ⟨⟨k + 1, LL3, by omega, by go_num, by rw [runE_next X hkE, hx.out, hr.out, F.out], Lib.hid (by rw [runE_next X hkE, hx.out, hr.out, F.out]; exact hM.out), P⟩, ?_⟩
                simp [intOf]; omega
      · obtain ⟨⟨y0, y1, y2, y3, y4, y5, y6, y7, y8⟩, _, ys⟩ := nine_all P.out.bx
        obtain ⟨q0, q1, q2, q3, q4, q5, q6, q7, q8, qi⟩ := xat _ P.out.kp
        have qb := hbl _ P.out.kp
        go_wp2_with fail
        go_quiet (fail)
        replace P := Lib.hid (P.out.up (w' := wr.drewN nq) (bdrewN (Below.refl _ _) _))
        generalize wr.drewN nq = wy at P ⊢
        clear y0 y1 y2 y3 y4 y5 y6 y7 y8 ys
        clear q0 q1 q2 q3 q4 q5 q6 q7 q8 qi qb
        obtain ⟨⟨y0, y1, y2, y3, y4, y5, y6, y7, y8⟩, _, ys⟩ := nine_all P.out.bx
        obtain ⟨q0, q1, q2, q3, q4, q5, q6, q7, q8, qi⟩ := xat _ P.out.kp
        have qb := hbl _ P.out.kp
        by_cases hid : x.id = X.id
        · have F := Lib.hid (step_de O hid)
          rw [hid] at q0 q1
          go_wp2_with fail
          go_quiet (fail)
          replace P := Lib.hid (P.out.up (w' := wy.drewN nq) (bdrewN (Below.refl _ _) _))
          generalize wy.drewN nq = wz1 at P ⊢
          clear y0 y1 y2 y3 y4 y5 y6 y7 y8 ys
          clear q0 q1 q2 q3 q4 q5 q6 q7 q8 qi qb
          go_wp2_with fail
          refine ⟨⟨k + 1, LL, by omega, by go_num, by rw [runE_next X hkE, hx.out, hr.out, F.out], Lib.hid (by rw [runE_next X hkE, hx.out, hr.out, F.out]; exact hM.out), P⟩, ?_⟩
          simp [intOf]; omega
        · have F := Lib.hid (step_dn O hid)
          rcases pid_ne hid with hne | ⟨hne0, hne⟩
          · go_wp2_with fail
            go_quiet (fail)
            replace P := Lib.hid (P.out.up (w' := wy.drewN nq) (bdrewN (Below.refl _ _) _))
            generalize wy.drewN nq = wz2 at P ⊢
            clear y0 y1 y2 y3 y4 y5 y6 y7 y8 ys
            clear q0 q1 q2 q3 q4 q5 q6 q7 q8 qi qb
            clear hne
            obtain ⟨⟨y0, y1, y2, y3, y4, y5, y6, y7, y8⟩, _, ys⟩ := nine_all P.out.bx
            obtain ⟨q0, q1, q2, q3, q4, q5, q6, q7, q8, qi⟩ := xat _ P.out.kp
            have qb := hbl _ P.out.kp
            go_wp2_with fail
            refine (copy_at x.id.1 x.id.2 x.bal x.st x.k x.key x.v x.seq x.deps (.slice ua un uc) _ qi).mono ?_
            rintro e wc1 ⟨⟨cu1, rfl, hrow⟩, B⟩
            have hDl : x.deps.length ≤ 2000000 := by obtain ⟨_, _, _, _, hh, _⟩ := qi; exact hh
            obtain ⟨b1, hb1, hO⟩ := hrow.own hDl
            obtain ⟨cc1, rfl, _⟩ := hO.shape
            have hx1 := Lib.hid (P.out.fresh (x := (x, .slice (some ⟨b1, 0, none⟩) x.deps.length cc1)) hb1 hO)
            replace P := Lib.hid (P.out.up B)
            have hPs := P.out.kp.size
            have hPr := Lib.hid P.out.er.row
            obtain ⟨m, hm'⟩ : ∃ m, Hid (LL.length = m) := ⟨_, Lib.hid rfl⟩
            rw [hm'.out] at hPr hLl
            clear hrow hO B
            clear y0 y1 y2 y3 y4 y5 y6 y7 y8 ys
            clear q0 q1 q2 q3 q4 q5 q6 q7 q8 qi qb
            go_wp2_with (at_builtin; refine wpList_append_own_at _ rfl _ _ 23 rfl (w.heap.size + 1) 30 i0 (.agg #[.int .i64 0, .int .i64 0, .int .i64 0, .int .i64 0, .int .i64 0, .int .i64 0, .int .i64 0, .int .i64 0, .slice none 0 0]) 9 88 Tryz.underlying23 hi hz0 hz1 hz2 rfl (by decide) _ m (flatE LL) rfl (hPr.out.alloc _) ⟨wc1.heap.size, 0, none⟩ 1 1 [.int .i64 x.id.1, .int .i64 x.id.2, .int .i64 x.bal, .int .i64 x.st, .int .i64 x.k, .int .i64 x.key, .int .i64 x.v, .int .i64 x.seq, .slice (some ⟨b1, 0, none⟩) x.deps.length cc1] rfl rfl ?fc1 ?fc2 ?fc3 ?fc4 ?fc5 ?_)
            case fc1 => exact nine_srcE _ _ _ _ _ _ _ _ _ _ _ _ (by simp)
            case fc2 => exact nine_oneE _ _ _ _ _ _ _ _ _ _ _
            case fc3 => unfold maxLen; omega
            case fc4 => omega
            case fc5 => first | omega | (simp; omega)
            intro v' w' hown' hgrow hnil hat
            obtain ⟨LL2, P5, hM5, hl5⟩ := P.out.next (x := (x, .slice (some ⟨b1, 0, none⟩) x.deps.length cc1)) (by rw [hm'.out]; exact hown') hgrow (fun e => hnil e) (hat.imp (fun h => h) (fun h => by simpa using h)) hx1.out hM.out hm'.out
            clear hown' hgrow hnil hat hPr hPs hx1 hM hb1 hDl hm' P
            have P := Lib.hid P5
            have hM := Lib.hid hM5
            replace hLl : LL2.length ≤ 25 := by omega
            clear P5 hM5 hl5
            go_wp2_with fail
            refine ⟨⟨k + 1, LL2, by omega, by go_num, by rw [runE_next X hkE, hx.out, hr.out, F.out], Lib.hid (by rw [runE_next X hkE, hx.out, hr.out, F.out]; exact hM.out), P⟩, ?_⟩
            simp [intOf]; omega
          · go_wp2_with fail
            go_quiet (fail)
            replace P := Lib.hid (P.out.up (w' := wy.drewN nq) (bdrewN (Below.refl _ _) _))
            generalize wy.drewN nq = wz2 at P ⊢
            clear y0 y1 y2 y3 y4 y5 y6 y7 y8 ys
            clear q0 q1 q2 q3 q4 q5 q6 q7 q8 qi qb
            clear hne hne0
            obtain ⟨⟨y0, y1, y2, y3, y4, y5, y6, y7, y8⟩, _, ys⟩ := nine_all P.out.bx
            obtain ⟨q0, q1, q2, q3, q4, q5, q6, q7, q8, qi⟩ := xat _ P.out.kp
            have qb := hbl _ P.out.kp
            go_wp2_with fail
            refine (copy_at x.id.1 x.id.2 x.bal x.st x.k x.key x.v x.seq x.deps (.slice ua un uc) _ qi).mono ?_
            rintro e wc1 ⟨⟨cu1, rfl, hrow⟩, B⟩
            have hDl : x.deps.length ≤ 2000000 := by obtain ⟨_, _, _, _, hh, _⟩ := qi; exact hh
            obtain ⟨b1, hb1, hO⟩ := hrow.own hDl
            obtain ⟨cc1, rfl, _⟩ := hO.shape
            have hx1 := Lib.hid (P.out.fresh (x := (x, .slice (some ⟨b1, 0, none⟩) x.deps.length cc1)) hb1 hO)
            replace P := Lib.hid (P.out.up B)
            have hPs := P.out.kp.size
            have hPr := Lib.hid P.out.er.row
            obtain ⟨m, hm'⟩ : ∃ m, Hid (LL.length = m) := ⟨_, Lib.hid rfl⟩
            rw [hm'.out] at hPr hLl
            clear hrow hO B
            clear y0 y1 y2 y3 y4 y5 y6 y7 y8 ys
            clear q0 q1 q2 q3 q4 q5 q6 q7 q8 qi qb
            go_wp2_with (at_builtin; refine wpList_append_own_at _ rfl _ _ 23 rfl (w.heap.size + 1) 30 i0 (.agg #[.int .i64 0, .int .i64 0, .int .i64 0, .int .i64 0, .int .i64 0, .int .i64 0, .int .i64 0, .int .i64 0, .slice none 0 0]) 9 88 Tryz.underlying23 hi hz0 hz1 hz2 rfl (by decide) _ m (flatE LL) rfl (hPr.out.alloc _) ⟨wc1.heap.size, 0, none⟩ 1 1 [.int .i64 x.id.1, .int .i64 x.id.2, .int .i64 x.bal, .int .i64 x.st, .int .i64 x.k, .int .i64 x.key, .int .i64 x.v, .int .i64 x.seq, .slice (some ⟨b1, 0, none⟩) x.deps.length cc1] rfl rfl ?fc1 ?fc2 ?fc3 ?fc4 ?fc5 ?_)
            case fc1 => exact nine_srcE _ _ _ _ _ _ _ _ _ _ _ _ (by simp)
            case fc2 => exact nine_oneE _ _ _ _ _ _ _ _ _ _ _
            case fc3 => unfold maxLen; omega
            case fc4 => omega
            case fc5 => first | omega | (simp; omega)
            intro v' w' hown' hgrow hnil hat
            obtain ⟨LL2, P5, hM5, hl5⟩ := P.out.next (x := (x, .slice (some ⟨b1, 0, none⟩) x.deps.length cc1)) (by rw [hm'.out]; exact hown') hgrow (fun e => hnil e) (hat.imp (fun h => h) (fun h => by simpa using h)) hx1.out hM.out hm'.out
            clear hown' hgrow hnil hat hPr hPs hx1 hM hb1 hDl hm' P
            have P := Lib.hid P5
            have hM := Lib.hid hM5
            replace hLl : LL2.length ≤ 25 := by omega
            clear P5 hM5 hl5
            go_wp2_with fail
            refine ⟨⟨k + 1, LL2, by omega, by go_num, by rw [runE_next X hkE, hx.out, hr.out, F.out], Lib.hid (by rw [runE_next X hkE, hx.out, hr.out, F.out]; exact hM.out), P⟩, ?_⟩
            simp [intOf]; omega
    · obtain rfl : k = n := by omega
      have hrun : E.take k = E := List.take_of_length_le (by rw [hn.out]; exact Nat.le_refl _)
      rw [hrun] at hM ⊢
      clear h
      obtain ⟨⟨O, q⟩, hr⟩ : ∃ r, Hid (runE X E = r) := ⟨_, Lib.hid rfl⟩
      rw [hr.out] at hM ⊢
      dsimp only at hM ⊢
      cases q
      · have ui := uat _ P.out.kp
        obtain ⟨⟨y0, y1, y2, y3, y4, y5, y6, y7, y8⟩, _, ys⟩ := nine_all P.out.bx
        go_wp2_with fail
        refine (copy_at X.id.1 X.id.2 X.bal X.st X.k X.key X.v X.seq X.deps (.slice ua0 un0 uc0) _ ui).mono ?_
        rintro e wc5 ⟨⟨cu5, rfl, hrow⟩, B⟩
        have hDl : X.deps.length ≤ 2000000 := by obtain ⟨_, _, _, _, hh, _⟩ := ui; exact hh
        obtain ⟨b5, hb5, hO⟩ := hrow.own hDl
        obtain ⟨cc5, rfl, _⟩ := hO.shape
        have hx5 := Lib.hid (P.out.fresh (x := (X, .slice (some ⟨b5, 0, none⟩) X.deps.length cc5)) hb5 hO)
        replace P := Lib.hid (P.out.up B)
        have hPs := P.out.kp.size
        have hPr := Lib.hid P.out.er.row
        obtain ⟨m, hm'⟩ : ∃ m, Hid (LL.length = m) := ⟨_, Lib.hid rfl⟩
        rw [hm'.out] at hPr hLl
        clear hrow hO B
        clear y0 y1 y2 y3 y4 y5 y6 y7 y8 ys
        clear ui
        go_wp2_with (at_builtin; refine wpList_append_own_at _ rfl _ _ 23 rfl (w.heap.size + 1) 30 i0 (.agg #[.int .i64 0, .int .i64 0, .int .i64 0, .int .i64 0, .int .i64 0, .int .i64 0, .int .i64 0, .int .i64 0, .slice none 0 0]) 9 88 Tryz.underlying23 hi hz0 hz1 hz2 rfl (by decide) _ m (flatE LL) rfl (hPr.out.alloc _) ⟨wc5.heap.size, 0, none⟩ 1 1 [.int .i64 X.id.1, .int .i64 X.id.2, .int .i64 X.bal, .int .i64 X.st, .int .i64 X.k, .int .i64 X.key, .int .i64 X.v, .int .i64 X.seq, .slice (some ⟨b5, 0, none⟩) X.deps.length cc5] rfl rfl ?fc1 ?fc2 ?fc3 ?fc4 ?fc5 ?_)
        case fc1 => exact nine_srcE _ _ _ _ _ _ _ _ _ _ _ _ (by simp)
        case fc2 => exact nine_oneE _ _ _ _ _ _ _ _ _ _ _
        case fc3 => unfold maxLen; omega
        case fc4 => omega
        case fc5 => first | omega | (simp; omega)
        intro v' w' hown' hgrow hnil hat
        obtain ⟨LL2, P5, hM5, hl5⟩ := P.out.next (x := (X, .slice (some ⟨b5, 0, none⟩) X.deps.length cc5)) (by rw [hm'.out]; exact hown') hgrow (fun e => hnil e) (hat.imp (fun h => h) (fun h => by simpa using h)) hx5.out hM.out hm'.out
        clear hown' hgrow hnil hat hPr hPs hx5 hM hb5 hDl hm' P
        have P := Lib.hid P5
        have hM := Lib.hid hM5
        replace hLl : LL2.length ≤ 25 := by omega
        clear P5 hM5 hl5
        have R := ((P.out.er.wide (Nat.le_succ _)).eno (by omega))
        rw [hM.out] at R
        replace R := Lib.hid (show EnO _ w.heap.size _ (endE X (O, false)) from by simpa [endE] using R)
        have B := Lib.hid P.out.kp
        clear P hM
        go_wp2_with fail
        go_ret
        exact ⟨⟨_, rfl, by rw [hr.out]; exact R.out⟩, B.out⟩
      · have R := ((P.out.er.wide (Nat.le_succ _)).eno (by omega))
        rw [hM.out] at R
        replace R := Lib.hid (show EnO _ w.heap.size _ (endE X (O, true)) from by simpa [endE] using R)
        have B := Lib.hid P.out.kp
        clear P hM
        go_wp2_with fail
        go_ret
        exact ⟨⟨_, rfl, by rw [hr.out]; exact R.out⟩, B.out⟩
end Go.Proofs.YtiolhjjkjmepcaaGreatDoor

/- Entries in boxes: what was found, in which order its box and its list were made. -/
namespace Go.Proofs.YtiolhjjkjmepcaaGreatDoor
open Go.RowKit
set_option linter.unusedVariables false

/-- An entry in a box. -/
def BxE (w : World) (xb : Nat) (X : En) (u : Value) : Prop := w.heap[xb]? = some (.cells #[.int .i64 X.id.1, .int .i64 X.id.2, .int .i64 X.bal, .int .i64 X.st, .int .i64 X.k, .int .i64 X.key, .int .i64 X.v, .int .i64 X.seq, u] 30 (0, 0))
theorem BxE.up {w w' : World} {xb : Nat} {X : En} {u : Value} (h : BxE w xb X u) (hb : Below w.heap.size w w') : BxE w' xb X u := (hb.block xb (lt_of_heap h)).trans h
theorem BxE.apart {w w' : World} {P : Nat → Prop} {xb : Nat} {X : En} {u : Value} (h : BxE w xb X u) (he : Exc P w w') (hn : ¬ P xb) : BxE w' xb X u := he.at hn h
theorem BxE.cells {w : World} {xb : Nat} {X : En} {u : Value} (h : BxE w xb X u) : (w.cell? ⟨xb, 0, none⟩ = some (.int .i64 X.id.1) ∧ w.cell? ⟨xb, 1, none⟩ = some (.int .i64 X.id.2) ∧ w.cell? ⟨xb, 2, none⟩ = some (.int .i64 X.bal) ∧ w.cell? ⟨xb, 3, none⟩ = some (.int .i64 X.st) ∧ w.cell? ⟨xb, 4, none⟩ = some (.int .i64 X.k) ∧ w.cell? ⟨xb, 5, none⟩ = some (.int .i64 X.key) ∧ w.cell? ⟨xb, 6, none⟩ = some (.int .i64 X.v) ∧ w.cell? ⟨xb, 7, none⟩ = some (.int .i64 X.seq) ∧ w.cell? ⟨xb, 8, none⟩ = some u) ∧ xb < w.heap.size := ⟨nine_cells h, lt_of_heap h⟩
/-- An entry in a box, with its list: neither is touched where the other is. -/
def FxE (w : World) (xb : Nat) (X : En) (u : Value) (B T : Nat) : Prop := BxE w xb X u ∧ OwZ w B T u X.deps ∧ ¬ (B ≤ xb ∧ xb < T)
theorem FxE.up {w w' : World} {xb B T : Nat} {X : En} {u : Value} (h : FxE w xb X u B T) (hb : Below w.heap.size w w') : FxE w' xb X u B T := ⟨h.1.up hb, h.2.1.up hb, h.2.2⟩
theorem FxE.apart {w w' : World} {P : Nat → Prop} {xb B T : Nat} {X : En} {u : Value} (h : FxE w xb X u B T) (he : Exc P w w') (hx : ¬ P xb) (hn : ∀ b, B ≤ b → b < T → ¬ P b) : FxE w' xb X u B T := ⟨h.1.apart he hx, h.2.1.apart he hn, h.2.2⟩
theorem OwZ.put9 {W : World} {B T xb : Nat} {u : Value} {C : List Pid} (h : OwZ W B T u C) (hn : ¬ (B ≤ xb ∧ xb < T)) (x0 x1 x2 x3 x4 x5 x6 x7 x8 : Value) : OwZ (((((((((W.setCell ⟨xb, 0, none⟩ x0).setCell ⟨xb, 1, none⟩ x1).setCell ⟨xb, 2, none⟩ x2).setCell ⟨xb, 3, none⟩ x3).setCell ⟨xb, 4, none⟩ x4).setCell ⟨xb, 5, none⟩ x5).setCell ⟨xb, 6, none⟩ x6).setCell ⟨xb, 7, none⟩ x7).setCell ⟨xb, 8, none⟩ x8) B T u C := by
  rcases h with h | ⟨b, h1, h2, h3⟩
  · exact .inl h
  · exact .inr ⟨b, h1, h2, h3.same (put9_other _ _ _ _ _ _ _ _ _ (fun e => hn (by subst e; exact ⟨h1, h2⟩)))⟩
/-- What a region that finds an entry leaves. -/
def LfQ (X : En) (q : Bool) (w : World) (s s' : Value) (wx : World) : Prop :=
  ∃ xb u B T, s = .pointer (some ⟨xb, 0, none⟩) ∧ s' = .bool q ∧ FxE wx xb X u B T ∧ w.heap.size ≤ xb ∧ w.heap.size ≤ B ∧ T ≤ wx.heap.size ∧ Below w.heap.size w wx
/-- Within the region: its box. -/
structure FE (w0 W : World) (ox : Option Nat) : Prop where
  kp : Below w0.heap.size w0 W
  bx : ∀ b, ox = some b → w0.heap.size ≤ b ∧ W.heap[b]? = some (.cells #[.int .i64 0, .int .i64 0, .int .i64 0, .int .i64 0, .int .i64 0, .int .i64 0, .int .i64 0, .int .i64 0, .slice none 0 0] 30 (0, 0))
theorem FE.start {w0 : World} : FE w0 w0.drew none := ⟨Below.drew (Below.refl _ _), fun _ h => nomatch h⟩
theorem FE.low {w0 W W' : World} {ox : Option Nat} (h : FE w0 W ox) (B : Below W.heap.size W W') : FE w0 W' ox :=
  ⟨bstep h.kp B, fun b e => ⟨(h.bx b e).1, (B.block b (lt_of_heap (h.bx b e).2)).trans (h.bx b e).2⟩⟩
theorem FE.box {w0 W : World} {ox : Option Nat} (h : FE w0 W ox) : FE w0 (W.alloc (.cells #[.int .i64 0, .int .i64 0, .int .i64 0, .int .i64 0, .int .i64 0, .int .i64 0, .int .i64 0, .int .i64 0, .slice none 0 0] 30)) (some W.heap.size) :=
  ⟨h.kp.alloc h.kp.size _, fun b e => by injection e with e; subst e; exact ⟨h.kp.size, heap_alloc_new W _⟩⟩
theorem FE.done {w0 W : World} {xb B T : Nat} {X : En} {q : Bool} {u : Value} (h : FE w0 W (some xb)) (hO : OwZ W B T u X.deps) (h1 : w0.heap.size ≤ B) (h2 : T ≤ W.heap.size) (h3 : ¬ (B ≤ xb ∧ xb < T)) :
    LfQ X q w0 (.pointer (some ⟨xb, 0, none⟩)) (.bool q) (((((((((W.setCell ⟨xb, 0, none⟩ (.int .i64 X.id.1)).setCell ⟨xb, 1, none⟩ (.int .i64 X.id.2)).setCell ⟨xb, 2, none⟩ (.int .i64 X.bal)).setCell ⟨xb, 3, none⟩ (.int .i64 X.st)).setCell ⟨xb, 4, none⟩ (.int .i64 X.k)).setCell ⟨xb, 5, none⟩ (.int .i64 X.key)).setCell ⟨xb, 6, none⟩ (.int .i64 X.v)).setCell ⟨xb, 7, none⟩ (.int .i64 X.seq)).setCell ⟨xb, 8, none⟩ u) := by
  obtain ⟨g1, g2⟩ := h.bx xb rfl
  exact ⟨xb, u, B, T, rfl, rfl, ⟨put9_at _ _ _ _ _ _ _ _ _ g2, hO.put9 h3 _ _ _ _ _ _ _ _ _, h3⟩, g1, h1, by simpa using h2, h.kp.trans (put9_below _ _ _ _ _ _ _ _ _ g1)⟩
end Go.Proofs.YtiolhjjkjmepcaaGreatDoor

/- A box of an entry, one of its cells set. -/
namespace Go.Proofs.YtiolhjjkjmepcaaGreatDoor
open Go.RowKit
set_option linter.unusedVariables false

section
variable {w : World} {b c i : Nat} {X : En} {u x : Value}
theorem BxE.s2 (h : BxE w b X u) (z : Int) : BxE (w.setCell ⟨b, 2, none⟩ (.int .i64 z)) b { X with bal := z } u := by
  have e := heap_setCell_same w b 2 _ _ (.int .i64 z) h
  simp only [List.setIfInBounds_toArray, List.set_cons_zero, List.set_cons_succ] at e
  exact e
theorem BxE.s3 (h : BxE w b X u) (z : Int) : BxE (w.setCell ⟨b, 3, none⟩ (.int .i64 z)) b { X with st := z } u := by
  have e := heap_setCell_same w b 3 _ _ (.int .i64 z) h
  simp only [List.setIfInBounds_toArray, List.set_cons_zero, List.set_cons_succ] at e
  exact e
theorem BxE.s7 (h : BxE w b X u) (z : Int) : BxE (w.setCell ⟨b, 7, none⟩ (.int .i64 z)) b { X with seq := z } u := by
  have e := heap_setCell_same w b 7 _ _ (.int .i64 z) h
  simp only [List.setIfInBounds_toArray, List.set_cons_zero, List.set_cons_succ] at e
  exact e
theorem BxE.so (h : BxE w c X u) (hn : c ≠ b) : BxE (w.setCell ⟨b, i, none⟩ x) c X u := (heap_setCell_other _ _ _ _ hn).trans h
theorem BxE.free (h : BxE w b X u) (j : Nat) : w.frozen? ⟨b, j, none⟩ = false := nine_free h j
end
end Go.Proofs.YtiolhjjkjmepcaaGreatDoor
