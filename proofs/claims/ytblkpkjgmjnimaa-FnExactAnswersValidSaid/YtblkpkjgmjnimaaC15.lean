/- Texts laid together. -/
import Derived.Test.YtblkpkjgmjnimaaC02
import Derived.Test.YtblkpkjgmjnimaaC05
import Derived.Deep.RegionWith
import Derived.Maps.AppendAt
/- The model's l11Copy. -/
namespace Go.Proofs.Ytblkpkjgmjnimaa
open Go.RowKit
set_option linter.unusedVariables false

theorem en_resC (tm : Array Value) (w : World) (b : Nat) (x0 x1 x2 x3 x4 x5 x6 x7 x8 : Value) (t : TypeId) (h2 : tm[2]? = some (.pointer (some ⟨b, 0, none⟩))) (h : w.heap[b]? = some (.cells #[x0, x1, x2, x3, x4, x5, x6, x7, x8] t (0, 0))) :
    (results Try.f26 tm).run Try.prog w = .ok (.agg #[x0, x1, x2, x3, x4, x5, x6, x7, x8]) w := by
  obtain ⟨t0, t1, t2, t3, t4, t5, t6, t7, t8⟩ := nine_cells h
  simp [results, Try.results26, go_sem, h2, t0, t1, t2, t3, t4, t5, t6, t7, t8]
theorem three_a (w : World) (o1 o2 o3 : Obj) : (((w.alloc o1).alloc o2).alloc o3).heap[w.heap.size]? = some o1 :=
  (Below.heap_alloc _ _ w.heap.size (by simp; omega)).trans ((Below.heap_alloc _ _ w.heap.size (by simp)).trans (heap_alloc_new w o1))
theorem three_b (w : World) (o1 o2 o3 : Obj) : (((w.alloc o1).alloc o2).alloc o3).heap[w.heap.size + 1]? = some o2 :=
  (Below.heap_alloc _ _ (w.heap.size + 1) (by simp)).trans (heap_alloc_at (w.alloc o1) o2 (w.heap.size + 1) (by simp))
theorem row_same {w w' : World} {B C : Nat} {v : Value} {O : List Pid} (h : Row w B v O) (hC : C ≤ B) (hs : ∀ k, B ≤ k → w'.heap[k]? = w.heap[k]?) : Row w' C v O := by
  obtain ⟨⟨h1, h2⟩, h3⟩ := h
  refine ⟨⟨h1, ?_⟩, h3⟩
  rcases h2 with hn | ⟨g, cap, cur, rfl, hb, hg, rest⟩
  · exact .inl hn
  · exact .inr ⟨g, cap, cur, rfl, Nat.le_trans hC hb, (hs g hb).trans hg, rest⟩
theorem flatc_src {w : World} {b off : Nat} {C : List Pid} (h : ∀ i, i < C.length → w.cell? ⟨b, off + i * 2, none⟩ = some (.int .i64 (C.getD i nop).1) ∧ w.cell? ⟨b, off + i * 2 + 1, none⟩ = some (.int .i64 (C.getD i nop).2)) :
    ∀ j u, (flatP C)[j]? = some u → w.cell? (Addr.add ⟨b, off, none⟩ j) = some u := by
  intro j u hj
  have hl : j < C.length * 2 := by
    have := (List.getElem?_eq_some_iff.1 hj).1
    rw [flatP_len] at this; exact this
  have hk : j / 2 < C.length := by omega
  obtain ⟨g0, g1⟩ := flatP_get C (j / 2) hk
  obtain ⟨c0, c1⟩ := h (j / 2) hk
  have ha : (⟨b, off, none⟩ : Addr).add j = ⟨b, off + j, none⟩ := by simp [Addr.add]
  rw [ha]
  rcases (show j = j / 2 * 2 ∨ j = j / 2 * 2 + 1 by omega) with e | e
  · rw [← e] at g0 c0
    rw [hj] at g0
    rw [g0]; exact c0
  · rw [← e] at g1
    rw [hj] at g1
    rw [Nat.add_assoc, ← e] at c1
    rw [g1]; exact c1

set_option maxRecDepth 100000 in
set_option maxHeartbeats 2000000 in
/-- A copy of an entry: its list lies in a row of its own, behind what was there. -/
theorem copy_at (p q bal st k key v seq : Int) (D : List Pid) (u : Value) (w : World) (h : Ids w u D) :
    Calls Try.prog 26 #[.agg #[.int .i64 p, .int .i64 q, .int .i64 bal, .int .i64 st, .int .i64 k, .int .i64 key, .int .i64 v, .int .i64 seq, u]] w fun r w' => (∃ u', r = .returned (.agg #[.int .i64 p, .int .i64 q, .int .i64 bal, .int .i64 st, .int .i64 k, .int .i64 key, .int .i64 v, .int .i64 seq, u']) ∧ Row w' w.heap.size u' D) ∧ Below w.heap.size w w' := by
  obtain ⟨i0, hi, hz0, hz1, hz2⟩ := info_parts infoP
  obtain ⟨a, cap, rfl, hc, hm, h⟩ := h
  go_enter Try.func26, Try.ntmps26
  rcases a with _ | ⟨b, off, sub⟩
  · obtain rfl : D = [] := by
      rcases h with h | ⟨_, _, h, _⟩
      · exact List.length_eq_zero_iff.1 h
      · cases h
    clear h hc hm
    have hR := row_new ((w.alloc (.cells #[.int .i64 p, .int .i64 q, .int .i64 bal, .int .i64 st, .int .i64 k, .int .i64 key, .int .i64 v, .int .i64 seq, .slice (some ⟨w.heap.size + 1 + 1, 0, none⟩) 0 0] 46)).alloc (.cells #[.int .i64 p, .int .i64 q, .int .i64 bal, .int .i64 st, .int .i64 k, .int .i64 key, .int .i64 v, .int .i64 seq, .slice (some ⟨w.heap.size + 1 + 1, 0, none⟩) 0 0] 46)) w.heap.size (by simp; omega)
    have B0 : Below w.heap.size w (((w.alloc (.cells #[.int .i64 p, .int .i64 q, .int .i64 bal, .int .i64 st, .int .i64 k, .int .i64 key, .int .i64 v, .int .i64 seq, .slice (some ⟨w.heap.size + 1 + 1, 0, none⟩) 0 0] 46)).alloc (.cells #[.int .i64 p, .int .i64 q, .int .i64 bal, .int .i64 st, .int .i64 k, .int .i64 key, .int .i64 v, .int .i64 seq, .slice (some ⟨w.heap.size + 1 + 1, 0, none⟩) 0 0] 46)).alloc (.cells #[] 24)) := (((Below.refl _ _).alloc (Nat.le_refl _) _).alloc (by simp) _).alloc (by simp; omega) _
    have e0 : ((w.alloc (.cells #[.int .i64 p, .int .i64 q, .int .i64 bal, .int .i64 st, .int .i64 k, .int .i64 key, .int .i64 v, .int .i64 seq, .slice (some ⟨w.heap.size + 1 + 1, 0, none⟩) 0 0] 46)).alloc (.cells #[.int .i64 p, .int .i64 q, .int .i64 bal, .int .i64 st, .int .i64 k, .int .i64 key, .int .i64 v, .int .i64 seq, .slice (some ⟨w.heap.size + 1 + 1, 0, none⟩) 0 0] 46)).heap.size = w.heap.size + 1 + 1 := by simp
    have hA : (((w.alloc (.cells #[.int .i64 p, .int .i64 q, .int .i64 bal, .int .i64 st, .int .i64 k, .int .i64 key, .int .i64 v, .int .i64 seq, .slice (some ⟨w.heap.size + 1 + 1, 0, none⟩) 0 0] 46)).alloc (.cells #[.int .i64 p, .int .i64 q, .int .i64 bal, .int .i64 st, .int .i64 k, .int .i64 key, .int .i64 v, .int .i64 seq, .slice (some ⟨w.heap.size + 1 + 1, 0, none⟩) 0 0] 46)).alloc (.cells #[] 24)).heap[w.heap.size + 1]? = some (.cells #[.int .i64 p, .int .i64 q, .int .i64 bal, .int .i64 st, .int .i64 k, .int .i64 key, .int .i64 v, .int .i64 seq, .slice (some ⟨w.heap.size + 1 + 1, 0, none⟩) 0 0] 46 (0, 0)) := three_b _ _ _ _
    rw [e0] at hR
    have hR := Lib.hid hR
    have B0 := Lib.hid B0
    have hA := Lib.hid hA
    clear e0
    go_wp2_with fail
    exact bodyPost_ret (en_resC _ _ _ _ _ _ _ _ _ _ _ _ _ rfl hA.out) rfl ⟨⟨_, rfl, hR.out⟩, B0.out⟩
  · have hs : ∀ j u, (flatP D)[j]? = some u → b < w.heap.size ∧ w.cell? (Addr.add ⟨b, off, sub⟩ j) = some u := by
      rcases h with h | ⟨b', off', e, hb, h⟩
      · obtain rfl := List.length_eq_zero_iff.1 h
        intro j u hj
        simp [flatP] at hj
      · cases e
        exact fun j u hj => ⟨hb, flatc_src h j u hj⟩
    have hs := Lib.hid hs
    obtain ⟨n, hn⟩ : ∃ n, Hid (D.length = n) := ⟨_, Lib.hid rfl⟩
    rw [hn.out] at hc hm ⊢
    clear h
    have hR := row_new ((w.alloc (.cells #[.int .i64 p, .int .i64 q, .int .i64 bal, .int .i64 st, .int .i64 k, .int .i64 key, .int .i64 v, .int .i64 seq, .slice (some ⟨b, off, sub⟩) n cap] 46)).alloc (.cells #[.int .i64 0, .int .i64 0, .int .i64 0, .int .i64 0, .int .i64 0, .int .i64 0, .int .i64 0, .int .i64 0, .slice none 0 0] 46)) (w.heap.size + 1 + 1) (by simp)
    have e0 : ((w.alloc (.cells #[.int .i64 p, .int .i64 q, .int .i64 bal, .int .i64 st, .int .i64 k, .int .i64 key, .int .i64 v, .int .i64 seq, .slice (some ⟨b, off, sub⟩) n cap] 46)).alloc (.cells #[.int .i64 0, .int .i64 0, .int .i64 0, .int .i64 0, .int .i64 0, .int .i64 0, .int .i64 0, .int .i64 0, .slice none 0 0] 46)).heap.size = w.heap.size + 1 + 1 := by simp
    rw [e0] at hR
    have hR := Lib.hid hR
    have B0 := Lib.hid (show Below w.heap.size w (((w.alloc (.cells #[.int .i64 p, .int .i64 q, .int .i64 bal, .int .i64 st, .int .i64 k, .int .i64 key, .int .i64 v, .int .i64 seq, .slice (some ⟨b, off, sub⟩) n cap] 46)).alloc (.cells #[.int .i64 0, .int .i64 0, .int .i64 0, .int .i64 0, .int .i64 0, .int .i64 0, .int .i64 0, .int .i64 0, .slice none 0 0] 46)).alloc (.cells #[] 24)) from (((Below.refl _ _).alloc (Nat.le_refl _) _).alloc (by simp) _).alloc (by simp; omega) _)
    have A0 := Lib.hid (show (((w.alloc (.cells #[.int .i64 p, .int .i64 q, .int .i64 bal, .int .i64 st, .int .i64 k, .int .i64 key, .int .i64 v, .int .i64 seq, .slice (some ⟨b, off, sub⟩) n cap] 46)).alloc (.cells #[.int .i64 0, .int .i64 0, .int .i64 0, .int .i64 0, .int .i64 0, .int .i64 0, .int .i64 0, .int .i64 0, .slice none 0 0] 46)).alloc (.cells #[] 24)).heap[w.heap.size]? = some (.cells #[.int .i64 p, .int .i64 q, .int .i64 bal, .int .i64 st, .int .i64 k, .int .i64 key, .int .i64 v, .int .i64 seq, .slice (some ⟨b, off, sub⟩) n cap] 46 (0, 0)) from three_a _ _ _ _)
    have A1 := Lib.hid (show (((w.alloc (.cells #[.int .i64 p, .int .i64 q, .int .i64 bal, .int .i64 st, .int .i64 k, .int .i64 key, .int .i64 v, .int .i64 seq, .slice (some ⟨b, off, sub⟩) n cap] 46)).alloc (.cells #[.int .i64 0, .int .i64 0, .int .i64 0, .int .i64 0, .int .i64 0, .int .i64 0, .int .i64 0, .int .i64 0, .slice none 0 0] 46)).alloc (.cells #[] 24)).heap[w.heap.size + 1]? = some (.cells #[.int .i64 0, .int .i64 0, .int .i64 0, .int .i64 0, .int .i64 0, .int .i64 0, .int .i64 0, .int .i64 0, .slice none 0 0] 46 (0, 0)) from three_b _ _ _ _)
    clear e0
    go_wp2_with (at_builtin; go_loud (refine wpList_append_own_at _ rfl _ _ 44 rfl (w.heap.size + 1 + 1) 24 i0 (.agg #[.int .i64 0, .int .i64 0]) 2 16 Try.underlying44 hi hz0 hz1 hz2 rfl (by decide) _ _ _ rfl hR.out.1 ⟨b, off, sub⟩ n cap (flatP D) rfl ?gc0 ?gc1 ?gc2 ?gc3 ?gc4 ?gc5 ?_))
    case gc0 => rw [flatP_len, hn.out]
    case gc1 =>
      intro j u hj
      obtain ⟨hb, e⟩ := hs.out j u hj
      exact (B0.out.cell (p := Addr.add ⟨b, off, sub⟩ j) (by simp only [Addr.add]; split <;> exact hb)).trans e
    case gc2 => exact flatP_one _
    case gc3 => show (0 : Nat) + n ≤ maxLen; unfold maxLen; omega
    case gc4 => show ((0 : Nat) + n) * 16 ≤ _; omega
    case gc5 => simp
    intro v5 w5 hown' hgrow hnil hat
    have R5 : Row w5 (w.heap.size + 1 + 1) v5 D := ⟨by rw [hn.out]; simpa [flatP] using hown', fun e => hnil e⟩
    obtain ⟨g5, c5, rfl, hg1, hg2, _, _⟩ := R5.shape
    have b5 := grown_below hR.out hgrow (by simp)
    have o0 := Lib.hid ((b5.block w.heap.size (by omega)).trans A0.out)
    have o1 := Lib.hid ((b5.block (w.heap.size + 1) (by omega)).trans A1.out)
    have B5 := Lib.hid (B0.out.trans (b5.mono (by omega)))
    have R5 := Lib.hid R5
    clear hown' hgrow hnil hat b5 B0 A0 A1 hR hs hg1 hg2
    obtain ⟨⟨x0, x1, x2, x3, x4, x5, x6, x7, x8⟩, ⟨f0, f1, f2, f3, f4, f5, f6, f7, f8⟩, s0⟩ := nine_all o0.out
    obtain ⟨⟨y0, y1, y2, y3, y4, y5, y6, y7, y8⟩, ⟨g0, g1, g2, g3, g4, g5', g6, g7, g8⟩, s1⟩ := nine_all o1.out
    go_wp2_with fail
    have o8 := (heap_setCell_other w5 ⟨w.heap.size, 8, none⟩ (w.heap.size + 1) (.slice (some ⟨g5, 0, none⟩) D.length c5) (by first | (simp; done) | (simp; omega))).trans o1.out
    refine bodyPost_ret (en_resC _ _ _ _ _ _ _ _ _ _ _ _ _ rfl (put9_at (.int .i64 p) (.int .i64 q) (.int .i64 bal) (.int .i64 st) (.int .i64 k) (.int .i64 key) (.int .i64 v) (.int .i64 seq) (.slice (some ⟨g5, 0, none⟩) D.length c5) o8)) rfl ⟨⟨_, rfl, row_same R5.out (by omega) fun j hj => ?_⟩, ?_⟩
    · rw [put9_other _ _ _ _ _ _ _ _ _ (by omega : j ≠ w.heap.size + 1), heap_setCell_other _ _ _ _ (by show j ≠ w.heap.size; omega)]
    · exact (B5.out.setCell (p := ⟨w.heap.size, 8, none⟩) (Nat.le_refl _) _).trans (put9_below _ _ _ _ _ _ _ _ _ (Nat.le_succ _))
end Go.Proofs.Ytblkpkjgmjnimaa

/- Valid answers: one left out, one twice. -/
namespace Go.Proofs.Ytblkpkjgmjnimaa
open Go.RowKit
set_option linter.unusedVariables false

theorem anD {L : List An} {i : Nat} (h : i < L.length) : L.getD i an0 = L[i] := by rw [List.getD_eq_getElem?_getD, List.getElem?_eq_getElem h]; rfl
theorem okI_mono {n : Int} {a : Pid} {L : List An} (h : okI n a L L.length) : ∀ i j, i < j → j < L.length → (L.getD i an0).fr < (L.getD j an0).fr := by
  intro i j hij
  induction j with
  | zero => omega
  | succ j ih =>
    intro hj
    have h1 := (h (j + 1) hj).2 (by omega)
    rw [Nat.add_sub_cancel] at h1
    rcases Nat.lt_succ_iff_lt_or_eq.1 hij with g | g
    · have := ih g (by omega); omega
    · rw [g]; exact h1
theorem av_pw {n : Int} {a : Pid} {L : List An} (h : avP n a L) : L.Pairwise (fun x y => x.fr < y.fr) := by
  rw [List.pairwise_iff_getElem]
  intro i j hi hj hij
  have := okI_mono h.2.2.1 i j hij hj
  rwa [anD hi, anD hj] at this
theorem av_mem {n : Int} {a : Pid} {L : List An} (h : avP n a L) : ∀ x ∈ L, anB n a x = true := by
  intro x hx
  obtain ⟨i, hi, rfl⟩ := List.getElem_of_mem hx
  have := (h.2.2.1 i hi).1
  rwa [anD hi] at this
theorem av_cm {n : Int} {a : Pid} {L : List An} (h : avP n a L) : ∀ x ∈ L, ∀ y ∈ L, x.kn = true → y.kn = true → cmS x.en y.en := by
  intro x hx y hy h1 h2
  obtain ⟨i, hi, rfl⟩ := List.getElem_of_mem hx
  obtain ⟨j, hj, rfl⟩ := List.getElem_of_mem hy
  have := h.2.2.2 i j hi hj
  rw [anD hi, anD hj] at this
  exact this h1 h2
theorem av_to {n : Int} {a : Pid} {L : List An} (hn : 1 ≤ n ∧ n ≤ 5) (ha : okP a = true) (h1 : ∀ x ∈ L, anB n a x = true) (h2 : L.Pairwise (fun x y => x.fr < y.fr)) (h3 : ∀ x ∈ L, ∀ y ∈ L, x.kn = true → y.kn = true → cmS x.en y.en) : avP n a L := by
  refine ⟨hn, ha, fun i hi => ⟨?_, fun h0 => ?_⟩, fun i j hi hj g1 g2 => ?_⟩
  · rw [anD hi]; exact h1 _ (List.getElem_mem hi)
  · have := List.pairwise_iff_getElem.1 h2 (i - 1) i (by omega) hi (by omega)
    rw [anD hi, anD (show i - 1 < L.length by omega)]; exact this
  · rw [anD hi] at g1 ⊢
    rw [anD hj] at g2 ⊢
    exact h3 _ (List.getElem_mem hi) _ (List.getElem_mem hj) g1 g2
theorem av_sub {n : Int} {a : Pid} {L M : List An} (h : avP n a L) (hs : List.Sublist M L) : avP n a M :=
  av_to h.1 h.2.1 (fun x hx => av_mem h x (hs.subset hx)) ((av_pw h).sublist hs) (fun x hx y hy => av_cm h x (hs.subset hx) y (hs.subset hy))
theorem av_cut {n : Int} {a : Pid} {L : List An} (h : avP n a L) (k : Nat) : avP n a ((L.drop 0).take k ++ (L.drop (k + 1)).take (L.length - (k + 1))) := by
  have e : (L.drop 0).take k ++ (L.drop (k + 1)).take (L.length - (k + 1)) = L.eraseIdx k := by
    rw [List.drop_zero, List.take_of_length_le (l := L.drop (k + 1)) (by rw [List.length_drop]; exact Nat.le_refl _), List.eraseIdx_eq_take_drop_succ]
  rw [e]
  exact av_sub h (List.eraseIdx_sublist L k)
theorem av_dup {n : Int} {a : Pid} {L : List An} {k : Nat} (hk : k < L.length) : ¬ avP n a ((L.drop 0).take (k + 1) ++ (L.drop k).take (L.length - k)) := fun h => by
  rw [List.drop_zero, List.take_of_length_le (l := L.drop k) (by rw [List.length_drop]; exact Nat.le_refl _)] at h
  have hp := List.pairwise_append.1 (av_pw h)
  have h1 : L[k] ∈ L.take (k + 1) := List.mem_take_iff_getElem.2 ⟨k, by omega, rfl⟩
  have h2 : L[k] ∈ L.drop k := by
    rw [List.mem_drop_iff_getElem]
    exact ⟨0, by omega, by simp⟩
  have := hp.2.2 _ h1 _ h2
  omega
theorem known_at {L : List An} {j : Nat} (hj : j < (knownL L).length) : ∃ a ∈ L, a.kn = true ∧ a.en = (knownL L).getD j en0 := by
  have : (knownL L).getD j en0 ∈ knownL L := by rw [List.getD_eq_getElem?_getD, List.getElem?_eq_getElem hj]; exact List.getElem_mem hj
  exact mem_known.1 this
theorem cmI_known {L : List An} (h : ∀ j, j < (knownL L).length → cmS ((knownL L).getD 0 en0) ((knownL L).getD j en0)) : cmI L L.length := by
  have key : ∀ i, i < L.length → (L.getD i an0).kn = true → cmS ((knownL L).getD 0 en0) (L.getD i an0).en := by
    intro i hi hk
    have hm : (L.getD i an0).en ∈ knownL L := mem_known.2 ⟨L.getD i an0, by rw [anD hi]; exact List.getElem_mem hi, hk, rfl⟩
    obtain ⟨j, hj, e⟩ := List.getElem_of_mem hm
    have := h j hj
    rw [List.getD_eq_getElem?_getD (l := knownL L) (i := j), List.getElem?_eq_getElem hj] at this
    rw [← e]; exact this
  intro i j hi hj h1 h2
  have a := key i hi h1
  have b := key j hj h2
  exact ⟨a.1.symm.trans b.1, a.2.1.symm.trans b.2.1, a.2.2.symm.trans b.2.2⟩
theorem known_bad {n : Int} {a : Pid} {L : List An} {j : Nat} (hj : j < (knownL L).length) (h : ¬ cmS ((knownL L).getD 0 en0) ((knownL L).getD j en0)) : ¬ avP n a L := fun g => by
  obtain ⟨x, hx, h1, e1⟩ := known_at (L := L) (j := 0) (by omega)
  obtain ⟨y, hy, h2, e2⟩ := known_at hj
  exact h (by rw [← e1, ← e2]; exact av_cm g x hx y hy h1 h2)
theorem known_next {L : List An} {k : Nat} (hk : k < L.length) : knownL (L.take (k + 1)) = if (L.getD k an0).kn = true then knownL (L.take k) ++ [(L.getD k an0).en] else knownL (L.take k) := by
  have e : L.take (k + 1) = L.take k ++ [L.getD k an0] := by
    rw [List.take_add_one, List.getElem?_eq_getElem hk, anD hk]; rfl
  unfold knownL
  generalize L.getD k an0 = x at e ⊢
  rw [e, List.filter_append, List.map_append]
  cases h : x.kn <;> simp [h]
theorem known_len (L : List An) : (knownL L).length ≤ L.length := by
  unfold knownL
  rw [List.length_map]; exact List.length_filter_le _ _
end Go.Proofs.Ytblkpkjgmjnimaa
