/- Texts laid together. -/
import Derived.Test.YtbklkhndjckckaaC15
import Derived.Test.YtbklkhndjckckaaC16
import Derived.Test.YtbklkhndjckckaaC20
/- Draws of ids: l91Id, DrawIdValid, DrawIdBefore. -/
namespace Go.Proofs.Ytbklkhndjckckaa
open Go.RowKit
set_option linter.unusedVariables false

/-- What l91Id leaves: some id; the reader up to four places further. -/
def IdPost (r n : Nat) (w : World) (e : Ending) (w' : World) : Prop :=
  ∃ k v : Int, e = .returned (.agg #[.int .i64 k, .int .i64 v]) ∧ (-1 ≤ k ∧ k ≤ 5) ∧ (0 ≤ v ∧ v ≤ 51) ∧ Rd w' r (n + 4) ∧ Keep w.heap.size r w w'

set_option maxRecDepth 100000 in
set_option maxHeartbeats 2000000 in
theorem idd_any (r n : Nat) (w : World) (hrd : Rd w r n) (hn : n ≤ 900000000) :
    Calls Try.prog 46 #[.pointer (some ⟨r, 0, none⟩)] w (IdPost r n w) := by
  have hlt := hrd.lt
  have hb1 := Lib.hid hrd
  clear hrd
  go_enter Try.func46, Try.ntmps46
  go_wp2_with fail
  refine (pick_any 3 r n _ (hb1.out.kept ((Below.refl _ _).alloc (by omega) _)) (by omega)).mono ?_
  rintro e w1 ⟨x1, rfl, a0, a1', hr1', hk1'⟩
  have a1 := a1' (by omega); have hs1 : w.heap.size + 1 ≤ w1.heap.size := by simpa using hk1'.size
  have hk1 := Lib.hid hk1'; have hr1 := Lib.hid hr1'; clear a1' hr1' hk1'
  go_wp2_with fail
  refine (pick_any 4 r (n + 1) _ hr1.out (by omega)).mono ?_
  rintro e w2 ⟨x2, rfl, b0, b1', hr2', hk2'⟩
  have b1 := b1' (by omega); have hs2 := hk2'.size
  have hk2 := Lib.hid hk2'; have hr2 := Lib.hid hr2'; clear b1' hr2' hk2'
  go_wp2_with fail
  refine (pick_any 40 r (n + 2) _ (hr2.out.alloc _) (by omega)).mono ?_
  rintro e w3 ⟨x3, rfl, d0, d1', hr3', hk3'⟩
  have d1 := d1' (by omega); have hs3 : w2.heap.size + 1 ≤ w3.heap.size := by simpa using hk3'.size
  have hrl2 := hr2.out.lt
  have hrl : r < w.heap.size := hlt
  have hAC : w.heap.size < w2.heap.size := by omega
  have A1 : w1.heap[w.heap.size]? = some (.cells #[.int .i64 0, .int .i64 0] 31 (0, 0)) := (hk1.out.block _ (by simp) (by omega)).trans (heap_alloc_new w _)
  have A2 := (hk2.out.block w.heap.size (by omega) (by omega)).trans A1
  have A3 := (hk3'.block w.heap.size (by simp; omega) (by omega)).trans ((Below.heap_alloc w2 _ _ (by omega)).trans A2)
  have C3 := (hk3'.block w2.heap.size (by simp) (by omega)).trans (heap_alloc_new w2 _)
  have K3 : Hid (Keep w.heap.size r w w3) := Lib.hid ((((Keep.refl _ _ _).alloc (Nat.le_refl _) _).trans (hk1.out.mono (by simp))).trans (hk2.out.mono (by omega)) |>.alloc (by omega) _ |>.trans (hk3'.mono (by simp; omega)))
  obtain ⟨a30, a31, f30, f31⟩ := blk2 A3
  obtain ⟨c30, c31, g30, g31⟩ := blk2 C3
  have A3 := Lib.hid A3
  have C3 := Lib.hid C3
  have hr3 := Lib.hid hr3'; clear d1' hr3' hk3' A1 A2 hk1 hk2 hr1 hr2
  by_cases z0 : x3 = 0
  · subst z0
    go_wp2_with fail
    refine (pick_any 3 r (n + 3) _ (hr3.out.alloc _) (by omega)).mono ?_
    rintro e w6 ⟨x6, rfl, y0, y1', hr6, hk6⟩
    have y1 := y1' (by omega)
    have hs6 : w3.heap.size + 1 ≤ w6.heap.size := by simpa using hk6.size
    have A6 := (hk6.block w.heap.size (by simp; omega) (by omega)).trans ((Below.heap_alloc w3 _ _ (by omega)).trans A3.out)
    have C6 := (hk6.block w2.heap.size (by simp; omega) (by omega)).trans ((Below.heap_alloc w3 _ _ (by omega)).trans C3.out)
    have L6 := (hk6.block w3.heap.size (by simp) (by omega)).trans (heap_alloc_new w3 _)
    have K6 := Lib.hid ((K3.out.alloc (by omega) _).trans (hk6.mono (by simp; omega)))
    obtain ⟨a60, a61, f60, f61⟩ := blk2 A6
    obtain ⟨c60, c61, g60, g61⟩ := blk2 C6
    obtain ⟨l60, l61, l62, _, _, _⟩ := blk3 L6
    have hr6 := Lib.hid hr6
    clear y1' hk6 A6 C6 L6 A3 C3 K3 hr3 a30 a31 f30 f31 c30 c31 g30 g31
    rcases (show x6 = 0 ∨ x6 = 1 ∨ x6 = 2 by omega) with rfl | rfl | rfl
    · go_wp2_with fail
      exact bodyPost_ret (v := .agg #[.int .i64 (-1), .int .i64 (1 + x2)]) (by simp [results, Try.results46, go_sem, a60, a61]) rfl ⟨-1, 1 + x2, rfl, by omega, by omega, (((hr6.out.setCell hrl2 _).setCell hrl _).setCell hrl _).more (by omega), ((K6.out.setCell (Nat.le_of_lt hAC) _).setCell (Nat.le_refl _) _).setCell (Nat.le_refl _) _⟩
    · go_wp2_with fail
      exact bodyPost_ret (v := .agg #[.int .i64 4, .int .i64 (1 + x2)]) (by simp [results, Try.results46, go_sem, a60, a61]) rfl ⟨4, 1 + x2, rfl, by omega, by omega, (((hr6.out.setCell hrl2 _).setCell hrl _).setCell hrl _).more (by omega), ((K6.out.setCell (Nat.le_of_lt hAC) _).setCell (Nat.le_refl _) _).setCell (Nat.le_refl _) _⟩
    · go_wp2_with fail
      exact bodyPost_ret (v := .agg #[.int .i64 5, .int .i64 (1 + x2)]) (by simp [results, Try.results46, go_sem, a60, a61]) rfl ⟨5, 1 + x2, rfl, by omega, by omega, (((hr6.out.setCell hrl2 _).setCell hrl _).setCell hrl _).more (by omega), ((K6.out.setCell (Nat.le_of_lt hAC) _).setCell (Nat.le_refl _) _).setCell (Nat.le_refl _) _⟩
  · have z0' : (x3 == 0) = false := by simpa using z0
    clear z0
    by_cases z1 : x3 = 1
    · subst z1
      go_wp2_with fail
      refine (pick_any 3 r (n + 3) _ (hr3.out.alloc _) (by omega)).mono ?_
      rintro e w6 ⟨x6, rfl, y0, y1', hr6, hk6⟩
      have y1 := y1' (by omega)
      have hs6 : w3.heap.size + 1 ≤ w6.heap.size := by simpa using hk6.size
      have A6 := (hk6.block w.heap.size (by simp; omega) (by omega)).trans ((Below.heap_alloc w3 _ _ (by omega)).trans A3.out)
      have C6 := (hk6.block w2.heap.size (by simp; omega) (by omega)).trans ((Below.heap_alloc w3 _ _ (by omega)).trans C3.out)
      have L6 := (hk6.block w3.heap.size (by simp) (by omega)).trans (heap_alloc_new w3 _)
      have K6 := Lib.hid ((K3.out.alloc (by omega) _).trans (hk6.mono (by simp; omega)))
      obtain ⟨a60, a61, f60, f61⟩ := blk2 A6
      obtain ⟨c60, c61, g60, g61⟩ := blk2 C6
      obtain ⟨l60, l61, l62, _, _, _⟩ := blk3 L6
      have hr6 := Lib.hid hr6
      clear y1' hk6 A6 C6 L6 A3 C3 K3 hr3 a30 a31 f30 f31 c30 c31 g30 g31
      rcases (show x6 = 0 ∨ x6 = 1 ∨ x6 = 2 by omega) with rfl | rfl | rfl
      · go_wp2_with fail
        exact bodyPost_ret (v := .agg #[.int .i64 x1, .int .i64 0]) (by simp [results, Try.results46, go_sem, a60, a61]) rfl ⟨x1, 0, rfl, by omega, by omega, (((hr6.out.setCell hrl2 _).setCell hrl _).setCell hrl _).more (by omega), ((K6.out.setCell (Nat.le_of_lt hAC) _).setCell (Nat.le_refl _) _).setCell (Nat.le_refl _) _⟩
      · go_wp2_with fail
        exact bodyPost_ret (v := .agg #[.int .i64 x1, .int .i64 50]) (by simp [results, Try.results46, go_sem, a60, a61]) rfl ⟨x1, 50, rfl, by omega, by omega, (((hr6.out.setCell hrl2 _).setCell hrl _).setCell hrl _).more (by omega), ((K6.out.setCell (Nat.le_of_lt hAC) _).setCell (Nat.le_refl _) _).setCell (Nat.le_refl _) _⟩
      · go_wp2_with fail
        exact bodyPost_ret (v := .agg #[.int .i64 x1, .int .i64 51]) (by simp [results, Try.results46, go_sem, a60, a61]) rfl ⟨x1, 51, rfl, by omega, by omega, (((hr6.out.setCell hrl2 _).setCell hrl _).setCell hrl _).more (by omega), ((K6.out.setCell (Nat.le_of_lt hAC) _).setCell (Nat.le_refl _) _).setCell (Nat.le_refl _) _⟩
    · have z1' : (x3 == 1) = false := by simpa using z1
      clear z1
      go_wp2_with fail
      exact bodyPost_ret (v := .agg #[.int .i64 x1, .int .i64 (1 + x2)]) (by simp [results, Try.results46, go_sem, a30, a31]) rfl ⟨x1, 1 + x2, rfl, by omega, by omega, ((hr3.out.setCell hrl _).setCell hrl _).more (by omega), (K3.out.setCell (Nat.le_refl _) _).setCell (Nat.le_refl _) _⟩
end Go.Proofs.Ytbklkhndjckckaa

/- DrawNodesValid. -/
namespace Go.Proofs.Ytbklkhndjckckaa
open Go.RowKit
set_option linter.unusedVariables false

/-- A cell of a node is turned: its rank. -/
theorem NdO.sets {w : World} {B : Nat} {v : Value} {N : List Nd} (h : NdO w B v N) {k : Nat} (hk : k < N.length) (s : Int) {g n cap : Nat} (hv : v = .slice (some ⟨g, 0, none⟩) n cap) :
    NdO (w.setCell ⟨g, k * 4 + 2, none⟩ (.int .i64 s)) B v (N.set k ⟨(N.getD k nd0).id, s, (N.getD k nd0).deps⟩) := by
  obtain ⟨g', cap', cur, t, e, h0, hg, h1, h2, h3⟩ := h
  rw [hv] at e; injection e with e1 e2 e3; injection e1 with e1; injection e1 with e1
  subst e1; subst e2; subst e3; subst hv
  have hsz : k * 4 + 3 < cur.size := by
    obtain ⟨_, _, _, _, _, _, _, c3, _⟩ := h3 k hk
    rcases Nat.lt_or_ge (k * 4 + 3) cur.size with hh | hh
    · exact hh
    · rw [Array.getElem?_eq_none hh] at c3; exact absurd c3 (by simp)
  have oth : ∀ c, c ≠ g → (w.setCell ⟨g, k * 4 + 2, none⟩ (.int .i64 s)).heap[c]? = w.heap[c]? := fun c hc => heap_setCell_other _ _ _ _ hc
  refine ⟨g, cap, _, t, by rw [List.length_set], h0, heap_setCell_same w g (k * 4 + 2) cur t _ hg, by rw [List.length_set]; exact h1, by rw [List.length_set]; exact h2, fun i hi => ?_⟩
  rw [List.length_set] at hi
  by_cases e : i = k
  · subst e
    obtain ⟨c0, c1, c2, b', u', q1, q2, c3, ho⟩ := h3 i hi
    have hs : (N.set i ⟨(N.getD i nd0).id, s, (N.getD i nd0).deps⟩).getD i nd0 = ⟨(N.getD i nd0).id, s, (N.getD i nd0).deps⟩ := by
      rw [List.getD_eq_getElem?_getD, List.getElem?_set_self hi]; rfl
    rw [hs]
    refine ⟨?_, ?_, ?_, b', u', q1, q2, ?_, ho.same (oth b' q2)⟩
    · rw [Array.getElem?_setIfInBounds, if_neg (by omega)]; exact c0
    · rw [Array.getElem?_setIfInBounds, if_neg (by omega)]; exact c1
    · rw [Array.getElem?_setIfInBounds, if_pos rfl, if_pos (by omega)]
    · rw [Array.getElem?_setIfInBounds, if_neg (by omega)]; exact c3
  · obtain ⟨c0, c1, c2, b', u', q1, q2, c3, ho⟩ := h3 i hi
    have hs : (N.set k ⟨(N.getD k nd0).id, s, (N.getD k nd0).deps⟩).getD i nd0 = N.getD i nd0 := by
      rw [List.getD_eq_getElem?_getD, List.getElem?_set_ne (fun x => e x.symm), ← List.getD_eq_getElem?_getD]
    rw [hs]
    refine ⟨?_, ?_, ?_, b', u', q1, q2, ?_, ho.same (oth b' q2)⟩ <;> (rw [Array.getElem?_setIfInBounds, if_neg (by omega)]; assumption)
/-- .. its id. -/
theorem NdO.seti {w : World} {B : Nat} {v : Value} {N : List Nd} (h : NdO w B v N) {k : Nat} (hk : k < N.length) (p q : Int) {g n cap : Nat} (hv : v = .slice (some ⟨g, 0, none⟩) n cap) :
    NdO ((w.setCell ⟨g, k * 4, none⟩ (.int .i64 p)).setCell ⟨g, k * 4 + 1, none⟩ (.int .i64 q)) B v (N.set k ⟨(p, q), (N.getD k nd0).seq, (N.getD k nd0).deps⟩) := by
  obtain ⟨g', cap', cur, t, e, h0, hg, h1, h2, h3⟩ := h
  rw [hv] at e; injection e with e1 e2 e3; injection e1 with e1; injection e1 with e1
  subst e1; subst e2; subst e3; subst hv
  have hsz : k * 4 + 3 < cur.size := by
    obtain ⟨_, _, _, _, _, _, _, c3, _⟩ := h3 k hk
    rcases Nat.lt_or_ge (k * 4 + 3) cur.size with hh | hh
    · exact hh
    · rw [Array.getElem?_eq_none hh] at c3; exact absurd c3 (by simp)
  have oth : ∀ c, c ≠ g → ((w.setCell ⟨g, k * 4, none⟩ (.int .i64 p)).setCell ⟨g, k * 4 + 1, none⟩ (.int .i64 q)).heap[c]? = w.heap[c]? := fun c hc => by
    rw [heap_setCell_other _ _ _ _ hc, heap_setCell_other _ _ _ _ hc]
  refine ⟨g, cap, _, t, by rw [List.length_set], h0, heap_setCell_same _ g (k * 4 + 1) _ t _ (heap_setCell_same w g (k * 4) cur t _ hg), by rw [List.length_set]; exact h1, by rw [List.length_set]; exact h2, fun i hi => ?_⟩
  rw [List.length_set] at hi
  by_cases e : i = k
  · subst e
    obtain ⟨c0, c1, c2, b', u', q1, q2, c3, ho⟩ := h3 i hi
    have hs : (N.set i ⟨(p, q), (N.getD i nd0).seq, (N.getD i nd0).deps⟩).getD i nd0 = ⟨(p, q), (N.getD i nd0).seq, (N.getD i nd0).deps⟩ := by
      rw [List.getD_eq_getElem?_getD, List.getElem?_set_self hi]; rfl
    rw [hs]
    refine ⟨?_, ?_, ?_, b', u', q1, q2, ?_, ho.same (oth b' q2)⟩
    · rw [Array.getElem?_setIfInBounds, if_neg (by omega), Array.getElem?_setIfInBounds, if_pos rfl, if_pos (by omega)]
    · rw [Array.getElem?_setIfInBounds, if_pos rfl, if_pos (by simp; omega)]
    · rw [Array.getElem?_setIfInBounds, if_neg (by omega), Array.getElem?_setIfInBounds, if_neg (by omega)]; exact c2
    · rw [Array.getElem?_setIfInBounds, if_neg (by omega), Array.getElem?_setIfInBounds, if_neg (by omega)]; exact c3
  · obtain ⟨c0, c1, c2, b', u', q1, q2, c3, ho⟩ := h3 i hi
    have hs : (N.set k ⟨(p, q), (N.getD k nd0).seq, (N.getD k nd0).deps⟩).getD i nd0 = N.getD i nd0 := by
      rw [List.getD_eq_getElem?_getD, List.getElem?_set_ne (fun x => e x.symm), ← List.getD_eq_getElem?_getD]
    rw [hs]
    refine ⟨?_, ?_, ?_, b', u', q1, q2, ?_, ho.same (oth b' q2)⟩ <;> (rw [Array.getElem?_setIfInBounds, if_neg (by omega), Array.getElem?_setIfInBounds, if_neg (by omega)]; assumption)

set_option maxRecDepth 100000 in
set_option maxHeartbeats 4000000 in
theorem dnv_any (a : Option Addr) (len cap : Nat) (w : World) (hc : CodeIn w a len cap) (hcap : cap ≤ maxLen) :
    Calls Try.prog 18 #[.slice a len cap] w (DnP w) := by
  have hc := Lib.hid hc
  have hcap := Lib.hid hcap
  go_enter Try.func18, Try.ntmps18
  go_wp2_with fail
  refine (open_any a len cap _ hc.out hcap.out).mono ?_
  rintro e w1 ⟨r, rfl, hr0, hr', hb'⟩
  have s1 := hb'.size
  have D1 : Hid (Below w.heap.size w w1) := Lib.hid hb'
  have hr1 := Lib.hid hr'
  clear hr' hb' hc hcap
  go_wp2_with fail
  refine (nodes_any r 0 _ hr1.out (by omega)).mono ?_
  rintro e w2 ⟨v, N, rfl, hN, hp, hl, hr2, hk2⟩
  have s2 := hk2.size
  have D2 : Hid (Below w.heap.size w w2) := Lib.hid (D1.out.trans ((hk2.mono s1).below hr0))
  have hrl := hr1.out.lt
  obtain ⟨g, vc, rfl, hg0, hgl, hgc, _, _⟩ := hN.at_
  have hN := Lib.hid hN
  have hr2 := Lib.hid hr2
  clear hk2 D1 hr1
  obtain ⟨nn, hnn⟩ : ∃ n, Hid (N.length = n) := ⟨_, Lib.hid rfl⟩
  rw [hnn.out] at hp hl hgc hN ⊢
  go_wp2_with fail
  refine (pick_any 20 r _ _ hr2.out (by omega)).mono ?_
  rintro e w3 ⟨x, rfl, x0, x1', hr3, hk3⟩
  have s3 := hk3.size
  have D3 : Hid (Below w.heap.size w w3) := Lib.hid (D2.out.trans ((hk3.mono (by omega)).below hr0))
  have N3 := Lib.hid (hN.out.keep hk3 hrl)
  have hr3 := Lib.hid hr3
  clear hk3 hN D2 hr2 x1'
  by_cases z0 : x = 0
  · subst z0
    go_wp2_with fail
    refine (pick_any nn r _ _ hr3.out (by omega)).mono ?_
    rintro e w4 ⟨y, rfl, y0, y1', hr4, hk4⟩
    have y1 := y1' (by omega)
    obtain ⟨kk, rfl⟩ := Int.eq_ofNat_of_zero_le y0
    have hkk : kk < nn := by omega
    have s4 := hk4.size
    have D4 : Hid (Below w.heap.size w w4) := Lib.hid (D3.out.trans ((hk4.mono (by omega)).below hr0))
    have N4 := Lib.hid (N3.out.keep hk4 hrl)
    have hr4 := Lib.hid hr4
    clear hk4 N3 D3 hr3 y1' y0
    go_wp2_with fail
    refine (pick_any 3 r _ _ (hr4.out.alloc _) (by omega)).mono ?_
    rintro e w5 ⟨z, rfl, z0, z1', hr5, hk5⟩
    have z1 := z1' (by omega)
    have s5 : w4.heap.size + 1 ≤ w5.heap.size := by simpa using hk5.size
    have al := (Below.refl w4.heap.size w4).alloc (Nat.le_refl _) (.cells #[.int .i64 0, .int .i64 99, .int .i64 100] 3)
    have D5 : Hid (Below w.heap.size w w5) := Lib.hid ((D4.out.trans (al.mono (by omega))).trans ((hk5.mono (by simp; omega)).below hr0))
    have N5 := (N4.out.up al).keep hk5 hrl
    have L5 := (hk5.block w4.heap.size (by simp) (by omega)).trans (heap_alloc_new w4 _)
    obtain ⟨l0, l1, l2, _, _, _⟩ := blk3 L5
    have hl5 := lt_of_heap L5
    obtain ⟨g', cap', e, _, hgl5, _, hfr, hcs⟩ := N5.at_
    injection e with e1 e2 e3
    injection e1 with e1
    injection e1 with e1
    subst e1
    clear e2 e3
    obtain ⟨_, _, t2, _⟩ := hcs kk (by rw [hnn.out]; exact hkk)
    have f2 := hfr (kk * 4 + 2)
    have bs := fun (u : Value) => (Below.refl w.heap.size w5).setCell (p := ⟨g, kk * 4 + 2, none⟩) (by show w.heap.size ≤ g; omega) u
    have D6 := Lib.hid (fun (u : Value) => D5.out.trans (bs u))
    have N6 := Lib.hid (fun (s : Int) => (N5.sets (k := kk) (by rw [hnn.out]; exact hkk) s rfl).read)
    clear hcs hfr N5 N4 D4 hr4 hr5 hk5 L5 al bs z1' D5
    rcases (show z = 0 ∨ z = 1 ∨ z = 2 by omega) with rfl | rfl | rfl
    all_goals
      go_wp2_with fail
      go_ret
      exact ⟨_, _, rfl, N6.out _, by rw [List.length_set, hnn.out]; exact hp, by rw [List.length_set, hnn.out]; exact hl, D6.out _⟩
  · have z0' : (x == 0) = false := by simpa using z0
    by_cases z1 : x = 1
    · subst z1
      go_wp2_with fail
      refine (pick_any nn r _ _ hr3.out (by omega)).mono ?_
      rintro e w4 ⟨y, rfl, y0, y1', hr4, hk4⟩
      have y1 := y1' (by omega)
      obtain ⟨kk, rfl⟩ := Int.eq_ofNat_of_zero_le y0
      have hkk : kk < nn := by omega
      have s4 := hk4.size
      have D4 : Hid (Below w.heap.size w w4) := Lib.hid (D3.out.trans ((hk4.mono (by omega)).below hr0))
      have N4 := Lib.hid (N3.out.keep hk4 hrl)
      have hr4 := Lib.hid hr4
      clear hk4 N3 D3 hr3 y1' y0
      go_wp2_with fail
      refine (idd_any r _ _ hr4.out (by omega)).mono ?_
      rintro e w5 ⟨p, q, rfl, _, _, hr5, hk5⟩
      have s5 := hk5.size
      have D5 : Hid (Below w.heap.size w w5) := Lib.hid (D4.out.trans ((hk5.mono (by omega)).below hr0))
      have N5 := N4.out.keep hk5 hrl
      obtain ⟨g', cap', e, _, hgl5, _, hfr, hcs⟩ := N5.at_
      injection e with e1 e2 e3
      injection e1 with e1
      injection e1 with e1
      subst e1
      clear e2 e3
      obtain ⟨t0, t1, _, _⟩ := hcs kk (by rw [hnn.out]; exact hkk)
      have f0 := hfr (kk * 4)
      have f1 := hfr (kk * 4 + 1)
      have D6 := Lib.hid ((D5.out.trans ((Below.refl w.heap.size w5).setCell (p := ⟨g, kk * 4, none⟩) (by show w.heap.size ≤ g; omega) (.int .i64 p))).setCell (p := ⟨g, kk * 4 + 1, none⟩) (by show w.heap.size ≤ g; omega) (.int .i64 q))
      have N6 := Lib.hid (N5.seti (k := kk) (by rw [hnn.out]; exact hkk) p q rfl).read
      clear hcs hfr N5 N4 D4 hr4 hr5 hk5 D5
      go_wp2_with fail
      go_ret
      exact ⟨_, _, rfl, N6.out, by rw [List.length_set, hnn.out]; exact hp, by rw [List.length_set, hnn.out]; exact hl, D6.out⟩
    · have z1' : (x == 1) = false := by simpa using z1
      go_wp2_with fail
      go_ret
      exact ⟨_, N, rfl, N3.out.read, by rw [hnn.out]; exact hp, by rw [hnn.out]; exact hl, D3.out⟩
end Go.Proofs.Ytbklkhndjckckaa

/- The walk of FnNodesPart. -/
namespace Go.Proofs.Ytbklkhndjckckaa
open Go.RowKit
set_option linter.unusedVariables false

/-- Of copied nodes one gets another list. -/
theorem nds_set {w0 w : World} {B g off : Nat} {N : List Nd} {U : Us} (hA : NdAt w0 g off N U) (hb : Below w0.heap.size w0 w) {yb n cap : Nat} (h : w.ownsRow B 33 4 (.slice (some ⟨yb, 0, none⟩) n cap) N.length (flatN N U (List.range' 0 N.length))) (hB : w0.heap.size ≤ B) (hl : N.length ≤ 2000000) {k : Nat} (hk : k < N.length) {ua : Option Addr} {un uc : Nat} {D : List Pid}
    (hD : Ids (w.setCell ⟨yb, k * 4 + 3, none⟩ (.slice ua un uc)) (.slice ua un uc) D) :
    Nds (w.setCell ⟨yb, k * 4 + 3, none⟩ (.slice ua un uc)) (.slice (some ⟨yb, 0, none⟩) n cap) (N.set k ⟨(N.getD k nd0).id, (N.getD k nd0).seq, D⟩) := by
  rcases h.2 with ⟨e, _⟩ | ⟨gb, cap', cur, e, hgb, hg, hc, hm, hs, ht⟩
  · simp at e
  · injection e with e1 e2 e3
    injection e1 with e1
    injection e1 with e1
    subst e1; subst e2; subst e3
    have bs : Below w0.heap.size w0 (w.setCell ⟨yb, k * 4 + 3, none⟩ (.slice ua un uc)) := hb.setCell (p := ⟨yb, k * 4 + 3, none⟩) (by show w0.heap.size ≤ yb; omega) _
    have hA2 := hA.up bs (Nat.le_refl _)
    have hcell := heap_setCell_same w yb (k * 4 + 3) cur 33 (.slice ua un uc) hg
    refine ⟨_, cap, by rw [List.length_set], by rw [List.length_set]; exact hc, by rw [List.length_set]; exact hl, .inr ⟨yb, 0, rfl, lt_of_heap hcell, fun i hi => ?_⟩⟩
    rw [List.length_set] at hi
    have hq : (List.range' 0 N.length).getD i 0 = i := by rw [List.getD_eq_getElem?_getD, List.getElem?_eq_getElem (by simpa using hi), List.getElem_range']; simp
    have hkk : ∀ j, j < 4 → cur[i * 4 + j]? = (ndc N U i)[j]? := fun j hj => by
      have := flatN_get N U (List.range' 0 N.length) i j (by simpa using hi) hj
      rw [hq] at this
      rw [← this, ← ht, List.getElem?_take, if_pos (by omega)]; simp
    have hsz : i * 4 + 3 < cur.size := by omega
    by_cases e : i = k
    · subst e
      have hsv : (N.set i ⟨(N.getD i nd0).id, (N.getD i nd0).seq, D⟩).getD i nd0 = ⟨(N.getD i nd0).id, (N.getD i nd0).seq, D⟩ := by
        rw [List.getD_eq_getElem?_getD, List.getElem?_set_self hi]; rfl
      rw [hsv]
      refine ⟨ua, un, uc, ?_, ?_, ?_, ?_, hD⟩
      · rw [Nat.zero_add, cell_of_cells hcell, Array.getElem?_setIfInBounds, if_neg (by omega)]; exact hkk 0 (by omega)
      · rw [Nat.zero_add, cell_of_cells hcell, Array.getElem?_setIfInBounds, if_neg (by omega)]; exact hkk 1 (by omega)
      · rw [Nat.zero_add, cell_of_cells hcell, Array.getElem?_setIfInBounds, if_neg (by omega)]; exact hkk 2 (by omega)
      · rw [Nat.zero_add, cell_of_cells hcell, Array.getElem?_setIfInBounds, if_pos rfl, if_pos hsz]
    · have hsv : (N.set k ⟨(N.getD k nd0).id, (N.getD k nd0).seq, D⟩).getD i nd0 = N.getD i nd0 := by
        rw [List.getD_eq_getElem?_getD, List.getElem?_set_ne (fun x => e x.symm), ← List.getD_eq_getElem?_getD]
      rw [hsv]
      refine ⟨(U i).1, (U i).2.1, (U i).2.2, ?_, ?_, ?_, ?_, hA2.ids i hi⟩
      · rw [Nat.zero_add, cell_of_cells hcell, Array.getElem?_setIfInBounds, if_neg (by omega)]; exact hkk 0 (by omega)
      · rw [Nat.zero_add, cell_of_cells hcell, Array.getElem?_setIfInBounds, if_neg (by omega)]; exact hkk 1 (by omega)
      · rw [Nat.zero_add, cell_of_cells hcell, Array.getElem?_setIfInBounds, if_neg (by omega)]; exact hkk 2 (by omega)
      · rw [Nat.zero_add, cell_of_cells hcell, Array.getElem?_setIfInBounds, if_neg (by omega)]; exact hkk 3 (by omega)
theorem self_bad {N : List Nd} {k : Nat} (hk : k < N.length) : nodB (N.set k ⟨(N.getD k nd0).id, (N.getD k nd0).seq, [(N.getD k nd0).id]⟩) = false := by
  refine nod_bad (k := k) (by rw [List.length_set]; exact hk) ?_
  have hsv : (N.set k ⟨(N.getD k nd0).id, (N.getD k nd0).seq, [(N.getD k nd0).id]⟩).getD k nd0 = ⟨(N.getD k nd0).id, (N.getD k nd0).seq, [(N.getD k nd0).id]⟩ := by
    rw [List.getD_eq_getElem?_getD, List.getElem?_set_self hk]; rfl
  rw [hsv]
  simp [ndB, hasP]

set_option maxRecDepth 100000 in
set_option maxHeartbeats 8000000 in
theorem fnNodesPart_walk (a : Option Addr) (len cap : Nat) (a2 : Option Addr) (len2 cap2 : Nat) (w : World) (hc : CodeIn w a len cap) (hcap : cap ≤ maxLen) (hc2 : CodeIn w a2 len2 cap2) (hcap2 : cap2 ≤ maxLen) :
    Calls Try.prog 5 #[.slice a len cap, .slice a2 len2 cap2] w fun e w' => e = .returned (.bool true) ∧ Below w.heap.size w w' := by
  have hm : cap ≤ 9223372036854775807 := by simpa [maxLen] using hcap
  have hlc := hc.1
  have hm2 : cap2 ≤ 9223372036854775807 := by simpa [maxLen] using hcap2
  have hlc2 := hc2.1
  by_cases hl : 1048576 < len
  · clear hcap hc hc2 hcap2
    go_enter Try.func5, Try.ntmps5
    go_wp2_with fail
    go_ret
    exact ⟨rfl, Below.refl _ _⟩
  · by_cases hl2 : 1048576 < len2
    · clear hcap hc hc2 hcap2
      go_enter Try.func5, Try.ntmps5
      go_wp2_with fail
      go_ret
      exact ⟨rfl, Below.refl _ _⟩
    · have hc1 := Lib.hid hc
      have hcap1 := Lib.hid hcap
      clear hc hcap hc2 hcap2
      go_enter Try.func5, Try.ntmps5
      go_wp2_with fail
      refine (dnv_any a len cap w hc1.out hcap1.out).mono ?_
      rintro e w0 ⟨u, N, rfl, hN, hNp, hNl, D1'⟩
      have D := Lib.hid D1'
      have hN := Lib.hid hN
      clear hc1 hcap1 D1'
      go_wp2_with fail
      refine (inval_any u N _ hN.out).mono ?_
      rintro e w1 ⟨rfl, B⟩
      replace hN := Lib.hid (hN.out.up B (Nat.le_refl _))
      replace D := Lib.hid (bstep D.out B)
      clear B
      go_wp2_with fail
      refine (snval_any u N _ hN.out).mono ?_
      rintro e w4 ⟨rfl, B⟩
      replace hN := Lib.hid (hN.out.up B (Nat.le_refl _))
      replace D := Lib.hid (bstep D.out B)
      clear B
      cases hv : nodB N with
      | false =>
        clear hv
        go_wp2_with fail
        go_ret
        exact ⟨rfl, D.out⟩
      | true =>
        have hv := Lib.hid hv
        have hN' := hN.out
        obtain ⟨ga, cp, rfl, h1, h2, h3⟩ := hN'
        rcases h3 with h3 | ⟨g, off, rfl, h4, h5⟩
        · omega
        · obtain ⟨U, hA⟩ := NdAt.of h4 h5
          have hA := Lib.hid hA
          obtain ⟨nn, hnn⟩ : ∃ n, Hid (N.length = n) := ⟨_, Lib.hid rfl⟩
          rw [hnn.out] at hNp hNl h1 h2 hN ⊢
          obtain ⟨j0, hj0, jz0, jz1, jz2⟩ := info_parts info_nd
          have hn0 : ((nn : Int) == 0) = false := by simp; omega
          obtain ⟨k, hk⟩ : ∃ k : Nat, k = len2 % nn := ⟨_, rfl⟩
          have hkn : k < nn := by rw [hk]; exact Nat.mod_lt _ (by omega)
          have hmod : (len2 : Int).tmod (nn : Int) = (k : Int) := by rw [hk, Int.tmod_eq_emod_of_nonneg (by omega)]; exact (Int.natCast_emod _ _).symm
          have hkN : k < N.length := by rw [hnn.out]; exact hkn
          have hNn : N.length ≤ 12 := by rw [hnn.out]; omega
          clear hk h5
          go_upto_region 9 with fail
          go_cut [9] from 45 to 54 (fun s9 wx => Hid (Nds wx s9 (N.eraseIdx k)) ∧ Hid (Below w4.heap.size w4 wx))
          case first =>
            have k0 : (0 : Int) ≤ (k : Int) := by omega
            have k1 : (k : Int) ≤ (nn : Int) := by omega
            have k2 : (k : Int) ≤ (cp : Int) := by omega
            have k3 : (k : Int) + 1 ≤ (nn : Int) := by omega
            have k4 : (0 : Int) ≤ (k : Int) + 1 := by omega
            have k5 : (k : Int) + 1 ≤ (cp : Int) := by omega
            have w1 : IntKind.i64.wrap ((k : Int) + 1) = (k : Int) + 1 := IntWalk.i64_in _ (by omega)
            have k6 : ((k : Int) + 1).toNat = k + 1 := by omega
            have R0 : Hid (((w4.alloc (.cells #[] 33)).drew).ownsRow w4.heap.size 33 4 (.slice (some ⟨w4.heap.size, 0, none⟩) 0 0) 0 []) := Lib.hid (nr_new w4 w4.heap.size (Nat.le_refl _)).row
            have B0 : Hid (Below w4.heap.size w4 ((w4.alloc (.cells #[] 33)).drew)) := Lib.hid ((Below.refl _ _).alloc (Nat.le_refl _) _).drew
            have src1 := Lib.hid (fun W (hb : Below w4.heap.size w4 W) => (by simpa using flatN_src (hA.out.up hb (Nat.le_refl _)) 0 k (by rw [hnn.out]; omega) : ∀ j u, (flatN N U (List.range' 0 k))[j]? = some u → W.cell? ((⟨g, off, none⟩ : Addr).add j) = some u))
            have src2 := Lib.hid (fun W (hb : Below w4.heap.size w4 W) => flatN_src (hA.out.up hb (Nat.le_refl _)) (k + 1) (nn - (k + 1)) (by rw [hnn.out]; omega))
            have fin := Lib.hid (fun (W : World) (v : Value) (hb : Below w4.heap.size w4 W) (hn : v ≠ .slice none 0 0) (h : W.ownsRow w4.heap.size 33 4 v (k + (nn - (k + 1))) (flatN N U (List.range' 0 k) ++ flatN N U (List.range' (k + 1) (nn - (k + 1))))) =>
              (show Nds W v (N.eraseIdx k) from by
                have := nds_row (w0 := w4) (Q := cutQ N.length k) (by rw [cutQ_len hkN, hnn.out]; unfold cutQ; rw [flatN_app, show nn - 1 = k + (nn - (k + 1)) by omega]; exact h) hn (hA.out.up hb (Nat.le_refl _)) (cutQ_lt hkN) (by rw [cutQ_len hkN]; omega)
                rw [cutQ_map hkN] at this; exact this))
            have hck : ¬ cp = k := by omega
            have hck' : ¬ nn = k := by omega
            by_cases hcp : k + 1 = cp
            · have hcn : cp = nn := by omega
              subst hcn
              rw [show cp - (k + 1) = 0 by omega] at fin
              clear src2
              go_region_law (first | (rw [if_pos (by rfl)]; refine wp_append_own _ _ _ 23 rfl w4.heap.size 33 j0 (.agg #[.int .i64 0, .int .i64 0, .int .i64 0, .slice none 0 0]) 4 48 Try.underlying23 hj0 jz0 jz1 jz2 rfl (by decide) _ 0 [] rfl R0.out ⟨g, off, none⟩ k cp (flatN N U (List.range' 0 k)) rfl (by rw [flatN_len, List.length_range']) (src1.out _ B0.out) (flatN_one _ _ _) (by unfold maxLen; omega) (by omega) (by have := Below.size B0.out; omega) ?_; intro v5 w5 hown5 hgrow5 hnil5; have B5 := Lib.hid (Below.trans B0.out (ownr_grown R0.out hgrow5 (Below.size B0.out))); have hn5 : v5 ≠ .slice none 0 0 := (fun e => nomatch (hnil5.1 e).1); have Y5 := Lib.hid (show w5.ownsRow w4.heap.size 33 4 v5 k (flatN N U (List.range' 0 k)) from by have h := hown5; rw [Nat.zero_add, List.nil_append] at h; exact h); clear hown5 hgrow5 hnil5 R0 B0) | (rw [if_pos (by rfl)]; refine wp_append_own _ _ _ 23 rfl w4.heap.size 33 j0 (.agg #[.int .i64 0, .int .i64 0, .int .i64 0, .slice none 0 0]) 4 48 Try.underlying23 hj0 jz0 jz1 jz2 rfl (by decide) _ k (flatN N U (List.range' 0 k)) rfl Y5.out ⟨g, off, none⟩ 0 0 (flatN N U (List.range' (k + 1) 0)) rfl (by rw [flatN_len, List.length_range']) (fun j u hj => by simp [flatN] at hj) (flatN_one _ _ _) (by unfold maxLen; omega) (by omega) (by have := Below.size B5.out; omega) ?_; intro v6 w6 hown6 hgrow6 hnil6; have B6 := Lib.hid (Below.trans B5.out (ownr_grown Y5.out hgrow6 (Below.size B5.out))); have hn6 : v6 ≠ .slice none 0 0 := (fun e => hn5 (hnil6.1 e).1); have Y6 := Lib.hid hown6; clear hown6 hgrow6 hnil6 Y5 B5))
              all_goals
                have hN6 := Lib.hid (fin.out w6 v6 B6.out hn6 Y6.out)
                go_wp2_with fail
                go_meet
                exact ⟨hN6, B6⟩
            · have hcp2 : ¬ cp = k + 1 := fun e => hcp e.symm
              go_region_law (first | (rw [if_pos (by rfl)]; refine wp_append_own _ _ _ 23 rfl w4.heap.size 33 j0 (.agg #[.int .i64 0, .int .i64 0, .int .i64 0, .slice none 0 0]) 4 48 Try.underlying23 hj0 jz0 jz1 jz2 rfl (by decide) _ 0 [] rfl R0.out ⟨g, off, none⟩ k cp (flatN N U (List.range' 0 k)) rfl (by rw [flatN_len, List.length_range']) (src1.out _ B0.out) (flatN_one _ _ _) (by unfold maxLen; omega) (by omega) (by have := Below.size B0.out; omega) ?_; intro v5 w5 hown5 hgrow5 hnil5; have B5 := Lib.hid (Below.trans B0.out (ownr_grown R0.out hgrow5 (Below.size B0.out))); have hn5 : v5 ≠ .slice none 0 0 := (fun e => nomatch (hnil5.1 e).1); have Y5 := Lib.hid (show w5.ownsRow w4.heap.size 33 4 v5 k (flatN N U (List.range' 0 k)) from by have h := hown5; rw [Nat.zero_add, List.nil_append] at h; exact h); clear hown5 hgrow5 hnil5 R0 B0) | (rw [if_pos (by rfl)]; refine wp_append_own _ _ _ 23 rfl w4.heap.size 33 j0 (.agg #[.int .i64 0, .int .i64 0, .int .i64 0, .slice none 0 0]) 4 48 Try.underlying23 hj0 jz0 jz1 jz2 rfl (by decide) _ k (flatN N U (List.range' 0 k)) rfl Y5.out ⟨g, off + (k + 1) * 4, none⟩ (nn - (k + 1)) (cp - (k + 1)) (flatN N U (List.range' (k + 1) (nn - (k + 1)))) rfl (by rw [flatN_len, List.length_range']) (src2.out _ B5.out) (flatN_one _ _ _) (by unfold maxLen; omega) (by omega) (by have := Below.size B5.out; omega) ?_; intro v6 w6 hown6 hgrow6 hnil6; have B6 := Lib.hid (Below.trans B5.out (ownr_grown Y5.out hgrow6 (Below.size B5.out))); have hn6 : v6 ≠ .slice none 0 0 := (fun e => hn5 (hnil6.1 e).1); have Y6 := Lib.hid hown6; clear hown6 hgrow6 hnil6 Y5 B5))
              all_goals
                have hN6 := Lib.hid (fin.out w6 v6 B6.out hn6 Y6.out)
                go_wp2_with fail
                go_meet
                exact ⟨hN6, B6⟩
          case rest =>
            obtain ⟨hN6, hB6⟩ := hcut
            have R0 := Lib.hid (nr_new wc wc.heap.size (Nat.le_refl _)).row
            have B0 := Lib.hid ((Below.refl wc.heap.size wc).alloc (Nat.le_refl _) (.cells #[] 33))
            have src := (by simpa using flatN_src (hA.out.up (hB6.out.trans (B0.out.mono hB6.out.size)) (Nat.le_refl _)) 0 nn (by rw [hnn.out]; omega) : ∀ j u, (flatN N U (List.range' 0 nn))[j]? = some u → (wc.alloc (.cells #[] 33)).cell? ((⟨g, off, none⟩ : Addr).add j) = some u)
            have src := Lib.hid src
            clear hN
            go_wp2_with (at_builtin; refine wpList_append_own _ rfl _ _ 23 rfl wc.heap.size 33 j0 (.agg #[.int .i64 0, .int .i64 0, .int .i64 0, .slice none 0 0]) 4 48 Try.underlying23 hj0 jz0 jz1 jz2 rfl (by decide) _ 0 [] rfl R0.out ⟨g, off, none⟩ nn cp (flatN N U (List.range' 0 nn)) rfl (by rw [flatN_len, List.length_range']) src.out (flatN_one _ _ _) ?zc3 ?zc4 ?zc5 ?_)
            case zc3 => unfold maxLen; omega
            case zc4 => omega
            case zc5 => simp
            intro v7 w7 hown7 hgrow7 hnil7
            have B7 := Lib.hid (B0.out.trans (ownr_grown R0.out hgrow7 B0.out.size))
            obtain ⟨yb, yc, cur, rfl, hyl, hyb, hyc⟩ : ∃ yb yc cur, v7 = .slice (some ⟨yb, 0, none⟩) nn yc ∧ wc.heap.size ≤ yb ∧ w7.heap[yb]? = some (.cells cur 33 (0, 0)) ∧ nn ≤ yc := by
              rcases hown7.2 with ⟨rfl, h0⟩ | ⟨g', c', cu, rfl, q1, q2, q3, _⟩
              · omega
              · exact ⟨g', c', cu, rfl, q1, q2, q3⟩
            have hyk : ∀ j, j < 4 → w7.cell? ⟨yb, k * 4 + j, none⟩ = (ndc N U k)[j]? := fun j hj => by
              rcases hown7.2 with ⟨e, _⟩ | ⟨g', c', cu, e, _, q2, _, _, _, ht⟩
              · simp at e
              · injection e with e1 e2 e3
                injection e1 with e1
                injection e1 with e1
                subst e1
                have hf := flatN_get N U (List.range' 0 nn) k j (by simpa using hkn) hj
                have hq : (List.range' 0 nn).getD k 0 = k := by rw [List.getD_eq_getElem?_getD, List.getElem?_eq_getElem (by simpa using hkn), List.getElem_range']; simp
                rw [hq] at hf
                rw [cell_of_cells q2, ← hf, ← ht, List.getElem?_take, if_pos (by omega)]; simp
            obtain ⟨d, hd⟩ : ∃ d, Hid ((N.getD k nd0).id = d) := ⟨_, Lib.hid rfl⟩
            have y0 : w7.cell? ⟨yb, k * 4, none⟩ = some (.int .i64 (N.getD k nd0).id.1) := hyk 0 (by omega)
            have y1 : w7.cell? ⟨yb, k * 4 + 1, none⟩ = some (.int .i64 (N.getD k nd0).id.2) := hyk 1 (by omega)
            have y3 : w7.cell? ⟨yb, k * 4 + 3, none⟩ = some (.slice (U k).1 (U k).2.1 (U k).2.2) := hyk 3 (by omega)
            have hbad := self_bad hkN
            rw [hd.out] at y0 y1 hbad
            obtain ⟨p, q⟩ := d
            dsimp only at y0 y1
            generalize (U k).1 = ua at y3
            generalize (U k).2.1 = un at y3
            generalize (U k).2.2 = uc at y3
            have fz : w7.frozen? ⟨yb, k * 4 + 3, none⟩ = false := by simp [World.frozen?, hyb]
            have hyb2 := lt_of_heap hyb
            have B8 := (hB6.out.trans (B7.out.mono hB6.out.size)).alloc (Nat.le_trans hB6.out.size B7.out.size) (.cells #[.int .i64 p, .int .i64 q] 31)
            have hL : (w7.alloc (.cells #[.int .i64 p, .int .i64 q] 31)).heap[w7.heap.size]? = some (.cells #[.int .i64 p, .int .i64 q] 31 (0, 0)) := heap_alloc_new w7 _
            have hDI : Ids ((w7.alloc (.cells #[.int .i64 p, .int .i64 q] 31)).setCell ⟨yb, k * 4 + 3, none⟩ (.slice (some ⟨w7.heap.size, 0, none⟩) 1 1)) (.slice (some ⟨w7.heap.size, 0, none⟩) 1 1) [(p, q)] :=
              OwnP.read (b := w7.heap.size) ⟨1, _, _, rfl, (heap_setCell_other _ _ _ _ (by show w7.heap.size ≠ yb; omega)).trans hL, Nat.le_refl _, by simp, fun i hi => by
                have : i = 0 := by simpa using hi
                subst this; exact ⟨rfl, rfl⟩⟩
            have hY := nds_set hA.out B8 (by rw [hnn.out]; exact hown7.alloc _) hB6.out.size (by omega) hkN hDI
            rw [hd.out] at hY
            have B9 := B8.setCell (p := ⟨yb, k * 4 + 3, none⟩) (by have := hB6.out.size; show w4.heap.size ≤ yb; omega) (.slice (some ⟨w7.heap.size, 0, none⟩) 1 1)
            have hX := hN6.out.up (((B7.out.alloc B7.out.size (.cells #[.int .i64 p, .int .i64 q] 31))).setCell (p := ⟨yb, k * 4 + 3, none⟩) hyl (.slice (some ⟨w7.heap.size, 0, none⟩) 1 1)) (Nat.le_refl _)
            have hxok := Lib.hid (few_cut hv.out k).v'
            have D9 := bstep D.out B9
            rw [show (w7.alloc (.cells #[.int .i64 p, .int .i64 q] 31)).setCell ⟨yb, k * 4 + 3, none⟩ (.slice (some ⟨w7.heap.size, 0, none⟩) 1 1) = (w7.setCell ⟨yb, k * 4 + 3, none⟩ (.slice (some ⟨w7.heap.size, 0, none⟩) 1 1)).alloc (.cells #[.int .i64 p, .int .i64 q] 31) by go_simp] at hX hY D9
            have D9 := Lib.hid D9
            have hX := Lib.hid hX
            have hY := Lib.hid hY
            have hbad := Lib.hid hbad
            clear hyk hL hDI B8 B9 hown7 hyb B7 R0 B0 src hB6 hN6 D hA hgrow7 hnil7
            go_wp2_with fail
            with_reducible refine (inval_any _ (N.eraseIdx k) _ hX.out).mono ?_
            rintro e w10 ⟨rfl, B⟩
            rw [hxok.out]
            replace hY := Lib.hid (hY.out.up B (Nat.le_refl _))
            replace D9 := Lib.hid (bstep D9.out B)
            clear B hX
            go_wp2_with fail
            with_reducible refine (inval_any _ _ _ hY.out).mono ?_
            rintro e w11 ⟨rfl, B⟩
            rw [hbad.out]
            replace D9 := Lib.hid (bstep D9.out B)
            clear B
            go_wp2_with fail
            go_ret
            exact ⟨rfl, D9.out⟩
end Go.Proofs.Ytbklkhndjckckaa
