/- Texts laid together. -/
import Derived.Test.YtdikcenhakfheaaDoorC12
import Derived.Test.YtdikcenhakfheaaDoorC16
import Derived.Test.YtdikcenhakfheaaDoorC01
import Derived.Test.YtdikcenhakfheaaDoorC08
import Derived.Test.YtdikcenhakfheaaDoorC13
/- slices.Collect and slices.SortedFunc at the keys of a book. -/
namespace Go.Proofs.YtdikcenhakfheaaDoor
open Go.RowKit Go.Shelf
set_option linter.unusedVariables false

/-- What collecting a book's keys leaves. -/
def CollP (Ks : List Pid) (w : World) (e : Ending) (w' : World) : Prop :=
  ∃ v, ∃ L : List Pid, e = .returned v ∧ L.Nodup ∧ (∀ a, a ∈ L ↔ a ∈ Ks) ∧ w'.ownsRow w.heap.size 25 2 v L.length (flatP L) ∧ Below w.heap.size w w'

theorem iappseq_any (Bm bb nn : Nat) (M : Pid → Option Value) (Ks : List Pid) (hKs : KeysOf M Ks) (hl : Ks.length ≤ 2000000) (w : World) (hBm : Bm < w.heap.size) (hm : w.cell? ⟨Bm, 0, none⟩ = some (.map (some bb))) (hown : Book w bb nn M) :
    Calls Tryd.prog 73 #[.slice none 0 0, .func (.func 71) #[] #[.pointer (some ⟨Bm, 0, none⟩)]] w (CollP Ks w) :=
  (callsIn_wide.1 (iappseq_in Fence.wide 3 trivial trivial rfl (Nat.le_refl _) Bm bb nn M Ks hKs hl w hBm hm hown)).mono fun e w' ⟨v, L, h1, h2, h3, h4, h5⟩ => ⟨v, kvs L, h1, h2.1, h2.2, h3, h5⟩

set_option maxRecDepth 100000 in
set_option maxHeartbeats 2000000 in
theorem icoll_any (Bm bb nn : Nat) (M : Pid → Option Value) (Ks : List Pid) (hKs : KeysOf M Ks) (hl : Ks.length ≤ 2000000) (w : World) (hBm : Bm < w.heap.size) (hm : w.cell? ⟨Bm, 0, none⟩ = some (.map (some bb))) (hown : Book w bb nn M) :
    Calls Tryd.prog 69 #[.func (.func 71) #[] #[.pointer (some ⟨Bm, 0, none⟩)]] w (CollP Ks w) := by
  have ap := iappseq_any Bm bb nn M Ks hKs hl w hBm hm hown
  clear hown hKs hm
  go_enter Tryd.func69, Tryd.ntmps69
  go_wp2_with fail
  refine ap.mono ?_
  rintro e w1 ⟨v, L, rfl, h1, h2, h3, B⟩
  have h1 := Lib.hid h1
  have h2 := Lib.hid h2
  have h3 := Lib.hid h3
  have B := Lib.hid B
  clear ap
  go_wp2_with fail
  go_ret
  exact ⟨v, L, rfl, h1.out, h2.out, h3.out, B.out⟩

theorem srI_asc {Q0 Q : List Pid} (h : SrI Q0 Q Q.length) : Asc Q := by
  unfold Asc
  rw [List.pairwise_iff_getElem]
  intro i j hi hj hij
  have := h.ord i j hij hj
  rw [List.getD_eq_getElem?_getD, List.getD_eq_getElem?_getD, List.getElem?_eq_getElem hi, List.getElem?_eq_getElem hj] at this
  exact this

set_option maxRecDepth 100000 in
set_option maxHeartbeats 2000000 in
theorem isorted_any (Bm bb nn : Nat) (M : Pid → Option Value) (Ks : List Pid) (hKs : KeysOf M Ks) (ha : Asc Ks) (h0 : 1 ≤ Ks.length) (hl : Ks.length ≤ 12) (w : World) (hBm : Bm < w.heap.size) (hm : w.cell? ⟨Bm, 0, none⟩ = some (.map (some bb))) (hown : Book w bb nn M) :
    Calls Tryd.prog 64 #[.func (.func 71) #[] #[.pointer (some ⟨Bm, 0, none⟩)], .func (.func 30) #[] #[]] w fun e w' => ∃ v b, e = .returned v ∧ w.heap.size ≤ b ∧ OwnP w' b v Ks ∧ Below w.heap.size w w' := by
  have ap := icoll_any Bm bb nn M Ks hKs (by omega) w hBm hm hown
  have hnd := Lib.hid hKs.1
  have ha := Lib.hid ha
  clear hown hKs hm
  go_enter Tryd.func64, Tryd.ntmps64
  go_wp2_with fail
  refine ap.mono ?_
  rintro e w1 ⟨v, L, rfl, h1, h2, h3, B⟩
  have hlen := Lib.hid (show L.length = Ks.length from ((List.perm_ext_iff_of_nodup h1 hnd.out).2 h2).length_eq)
  obtain ⟨n, hn⟩ : ∃ n, Hid (Ks.length = n) := ⟨_, Lib.hid rfl⟩
  rw [hn.out] at h0 hl hlen
  rw [hlen.out] at h3
  obtain ⟨m, hm1⟩ : ∃ m, n = m + 1 := ⟨n - 1, by omega⟩
  subst hm1
  obtain ⟨g, cap, rfl⟩ := ownsRow_succ h3
  obtain ⟨b, hb, O⟩ := OwnP.of_row h3 hlen.out.symm (by rw [hlen.out]; omega) (by simp)
  obtain ⟨cap', e', _⟩ := O.shape
  obtain rfl : g = b := by injection e' with e1; injection e1 with e1; injection e1
  have so := isort2_at g cap (m + 1) L w1 hlen.out h1 h0 hl O
  unfold SortI at so
  replace h2 := Lib.hid h2
  have hB := Lib.hid B
  clear e' h3 O ap h1 B
  go_wp2_with fail
  refine so.mono ?_
  rintro e w2 ⟨rfl, Q, hS, OQ, XX⟩
  have hq : Q.length = m + 1 := hS.perm.length_eq.trans hlen.out
  have hQ : Q = Ks := asc_ext (srI_asc (by rw [hq]; exact hS)) ha.out (fun x => (hS.perm.mem_iff).trans (h2.out x))
  rw [hQ] at OQ
  have OQ := Lib.hid OQ
  have D := Lib.hid (hB.out.trans (XX.to hB.out.size (fun c e => by omega)))
  clear hS XX so hq hQ
  go_wp2_with fail
  go_ret
  exact ⟨_, g, rfl, hb, OQ.out, D.out⟩
end Go.Proofs.YtdikcenhakfheaaDoor

/- Rows of ids: empty ones, their cells; what IdsSort leaves. -/
namespace Go.Proofs.YtdikcenhakfheaaDoor
open Go.RowKit
set_option linter.unusedVariables false

theorem all_ok {L : List Pid} (h : ∀ j, j < L.length → okP (L.getD j nop) = true) : L.all okP = true := by
  rw [List.all_eq_true]
  intro x hx
  obtain ⟨i, hi, e⟩ := List.getElem_of_mem hx
  have := h i hi
  rw [List.getD_eq_getElem?_getD, List.getElem?_eq_getElem hi, Option.getD_some, e] at this
  exact this
theorem ownP_nil (w : World) (t : TypeId) : OwnP (w.alloc (.cells #[] t)) w.heap.size (.slice (some ⟨w.heap.size, 0, none⟩) 0 0) [] :=
  ⟨0, #[], t, rfl, heap_alloc_new w _, Nat.le_refl _, by simp, fun i hi => absurd hi (by simp)⟩
theorem OwnP.at0 {w : World} {b : Nat} {u : Value} {C : List Pid} (h : OwnP w b u C) : ∀ i, i < C.length → w.cell? ⟨b, 0 + i * 2, none⟩ = some (.int .i64 (C.getD i nop).1) ∧ w.cell? ⟨b, 0 + i * 2 + 1, none⟩ = some (.int .i64 (C.getD i nop).2) := fun i hi => by
  rw [Nat.zero_add]; exact h.cell i hi
theorem sortP_take_len (L : List Pid) (k : Nat) : (sortP (L.take k)).length ≤ k := Nat.le_trans (sortP_len _) (by rw [List.length_take]; omega)

/-- What IdsSort leaves. -/
def SortPost (L : List Pid) (w : World) (e : Ending) (w' : World) : Prop :=
  ∃ b u, w.heap.size ≤ b ∧ e = .returned (.tuple #[u, .bool (sortR L).2]) ∧ OwnP w' b u (sortR L).1 ∧ Below w.heap.size w w'

end Go.Proofs.YtdikcenhakfheaaDoor

/- The model's l4Join, DepsJoin. -/
namespace Go.Proofs.YtdikcenhakfheaaDoor
open Go.RowKit
set_option linter.unusedVariables false

/-- What l4Join leaves. -/
def L4Post (R : List Pid) (w : World) (e : Ending) (w' : World) : Prop :=
  ∃ b u, w.heap.size ≤ b ∧ e = .returned u ∧ OwnP w' b u R ∧ Below w.heap.size w w'

theorem flat_cells {W : World} {ad : Addr} {C : List Pid} (h : C.length = 0 ∨ ∃ b off, ad = ⟨b, off, none⟩ ∧ ∀ i, i < C.length → W.cell? ⟨b, off + i * 2, none⟩ = some (.int .i64 (C.getD i nop).1) ∧ W.cell? ⟨b, off + i * 2 + 1, none⟩ = some (.int .i64 (C.getD i nop).2)) :
    ∀ j u, (flatP C)[j]? = some u → W.cell? (ad.add j) = some u := by
  intro j u hj
  have hl : j < (flatP C).length := by
    rcases Nat.lt_or_ge j (flatP C).length with h' | h'
    · exact h'
    · rw [List.getElem?_eq_none h'] at hj; cases hj
  rw [flatP_len] at hl
  rcases h with h | ⟨b, off, rfl, h⟩
  · omega
  · obtain ⟨f0, f1⟩ := flatP_get C (j / 2) (by omega)
    obtain ⟨c0, c1⟩ := h (j / 2) (by omega)
    have ha : (⟨b, off, none⟩ : Addr).add j = ⟨b, off + j, none⟩ := by simp [Addr.add]
    rw [ha]
    rcases (show j % 2 = 0 ∨ j % 2 = 1 by omega) with e | e
    · have e2 : j / 2 * 2 = j := by omega
      rw [e2, hj] at f0
      rw [show off + j = off + j / 2 * 2 by omega, f0, c0]
    · have e2 : j / 2 * 2 + 1 = j := by omega
      rw [e2, hj] at f1
      rw [show off + j = off + j / 2 * 2 + 1 by omega, f1, c1]

set_option maxRecDepth 100000 in
set_option maxHeartbeats 4000000 in
theorem l4_any (u v : Value) (A B : List Pid) (w : World) (h : Ids w u A) (g : Ids w v B) (ha : A.length ≤ 12) (hb : B.length ≤ 12) :
    Calls Tryd.prog 22 #[u, v] w (L4Post (joinP A B) w) := by
  obtain ⟨i0, hi, hz0, hz1, hz2⟩ := info_parts infoP
  obtain ⟨a, cap, rfl, h1, h2, h3⟩ := h
  obtain ⟨a', cap', hv, g1, g2, g3⟩ := g
  obtain ⟨n, hn⟩ : ∃ n, Hid (A.length = n) := ⟨_, Lib.hid rfl⟩
  obtain ⟨m, hm⟩ : ∃ n, Hid (B.length = n) := ⟨_, Lib.hid rfl⟩
  rw [hn.out] at h1 ha ⊢
  rw [hm.out] at hv g1 hb
  subst hv
  have h3 := Lib.hid h3
  have g3 := Lib.hid g3
  clear h2 g2
  have R0 := Lib.hid (row_new w w.heap.size (Nat.le_refl _))
  have B0 : Hid (Below w.heap.size w (w.alloc (.cells #[] 25))) := Lib.hid ((Below.refl _ _).alloc (Nat.le_refl _) _)
  obtain ⟨K, hK⟩ : ∃ K : World → Value → Nat → World → Prop, K = fun w v n w' => ∃ b, w.heap.size ≤ b ∧ OwnP w' b v (joinP A (B.take n)) ∧ Below w.heap.size w w' := ⟨_, rfl⟩
  have hstart : ∀ v' w1, Row w1 w.heap.size v' A → Below w.heap.size w w1 → Hid (K w v' 0 w1) := fun v' w1 hR hD => Lib.hid (by
    rw [hK]
    obtain ⟨b, hb1, hb2⟩ := hR.own (by rw [hn.out]; omega)
    exact ⟨b, hb1, by rw [List.take_zero]; exact hb2, hD⟩)
  have hK := Lib.hid hK
  go_enter Tryd.func22, Tryd.ntmps22
  rcases a with _ | ad
  · have hA0 : n = 0 := by
      rcases h3.out with h | ⟨b, off, h, _⟩
      · exact hn.out.symm.trans h
      · cases h
    subst hA0
    have hA : A = [] := List.length_eq_zero_iff.1 hn.out
    have hst := hstart _ _ (by rw [hA]; exact R0.out) B0.out
    clear h3 R0 B0 hstart
    -- LOOP A
    go_wp2_with fail
    go_loopw [5, 6] (fun v i wr => ∃ k : Nat, k ≤ m ∧ i = .int .i64 k ∧ Hid (K w v k wr)) (fun _ i _ => m - (intOf i).toNat)
    case atStart => exact ⟨0, Nat.zero_le _, rfl, hst⟩
    case round =>
      obtain ⟨k, hk, rfl, hKr⟩ := hrel
      clear hst
      have hKo := hKr.out
      rw [hK.out] at hKo
      obtain ⟨gb, hgb, hO, hD⟩ := hKo
      obtain ⟨cp, hv, hcp⟩ := hO.shape
      have hjl : (joinP A (B.take k)).length ≤ 24 := by
        have := joinP_len A (B.take k)
        rw [List.length_take, hn.out] at this; omega
      clear hKr
      by_cases hlt : k < m
      · rcases g3.out with h | ⟨b, off, hab, hb1, hb2⟩
        · have := hm.out; omega
        · subst hab
          obtain ⟨h0, h1⟩ := hb2 k (by rw [hm.out]; exact hlt)
          have q0 := (hD.cell (p := ⟨b, off + k * 2, none⟩) hb1).trans h0
          have q1 := (hD.cell (p := ⟨b, off + k * 2 + 1, none⟩) hb1).trans h1
          clear h0 h1 hb2 g3
          obtain ⟨c, hc⟩ : ∃ c, Hid (B.getD k nop = c) := ⟨_, Lib.hid rfl⟩
          have hnx := Lib.hid (joinP_take (a := A) (k := k) (by rw [hm.out]; exact hlt))
          rw [hc.out] at q0 q1 hnx
          obtain ⟨p, r⟩ := c
          dsimp only at q0 q1
          have hKn : ∀ b' u w', w.heap.size ≤ b' → OwnP w' b' u (joinP A (B.take (k + 1))) → Below w.heap.size w w' → Hid (K w u (k + 1) w') := fun b' u w' x1 x2 x3 => Lib.hid (by rw [hK.out]; exact ⟨b', x1, x2, x3⟩)
          have hKn := Lib.hid hKn
          generalize joinP A (B.take k) = S at hO hv hcp hjl hnx
          subst hv
          have hgl := hO.lt
          have sp := sput_at gb 0 cp S p r wr hgl (by omega) hO.at0
          have hD := Lib.hid hD
          clear hO
          go_wp2_with fail
          refine sp.mono ?_
          rintro e w3 ⟨b', u, hb', rfl, hO2, hbl⟩
          have hb'2 := Nat.le_trans hD.out.size hb'
          have hK' := hKn.out b' u w3 hb'2 (by rw [hnx.out]; exact hO2) (bstep hD.out hbl)
          clear hbl hO2 sp q0 q1 hD
          go_wp2_with fail
          go_roundw
          case rel => exact ⟨k + 1, by omega, by go_num, hK'⟩
          case measure => simp [intOf]; omega
      · obtain rfl : k = m := by omega
        have ht : B.take k = B := List.take_of_length_le (by rw [hm.out]; exact Nat.le_refl _)
        rw [ht] at hO hv hcp hjl
        have hO := Lib.hid hO
        have hD := Lib.hid hD
        clear g3 ht hv hcp hjl
        go_wp2_with fail
        go_ret
        exact ⟨gb, _, hgb, rfl, hO.out, hD.out⟩
  · have hsrc : Hid (∀ j u, (flatP A)[j]? = some u → (w.alloc (.cells #[] 25)).cell? (ad.add j) = some u) := Lib.hid (flat_cells (by
      rcases h3.out with h | ⟨b, off, hab, hb1, hb2⟩
      · exact .inl h
      · injection hab with hab
        exact .inr ⟨b, off, hab, fun i hi' => by rw [B0.out.cell (p := ⟨b, off + i * 2, none⟩) hb1, B0.out.cell (p := ⟨b, off + i * 2 + 1, none⟩) hb1]; exact hb2 i hi'⟩))
    go_wp2_with (at_builtin; refine wpList_append_own _ rfl _ _ 28 rfl w.heap.size 25 i0 (.agg #[.int .i64 0, .int .i64 0]) 2 16 Tryd.underlying28 hi hz0 hz1 hz2 rfl (by decide) _ 0 [] rfl R0.out.1 ad n cap (flatP A) rfl ?c0 ?c1 ?c2 ?c3 ?c4 ?c5 ?_)
    case c0 => rw [flatP_len, hn.out]
    case c1 => exact hsrc.out
    case c2 => exact flatP_one A
    case c3 => unfold maxLen; omega
    case c4 => omega
    case c5 => simp
    intro v' w1 hown hgrow hnil
    have hR1 : Row w1 w.heap.size v' ([] ++ A) := ⟨by rw [List.nil_append, hn.out]; simpa using hown, fun e => hnil e⟩
    have hst := hstart v' w1 (by simpa using hR1) (B0.out.trans (grown_below R0.out hgrow (by simp)))
    clear hown hgrow hnil hR1 hsrc h3 R0 B0 hstart
    go_wp2_with fail
    go_loopw [5, 6] (fun v i wr => ∃ k : Nat, k ≤ m ∧ i = .int .i64 k ∧ Hid (K w v k wr)) (fun _ i _ => m - (intOf i).toNat)
    case atStart => exact ⟨0, Nat.zero_le _, rfl, hst⟩
    case round =>
      obtain ⟨k, hk, rfl, hKr⟩ := hrel
      clear hst
      have hKo := hKr.out
      rw [hK.out] at hKo
      obtain ⟨gb, hgb, hO, hD⟩ := hKo
      obtain ⟨cp, hv, hcp⟩ := hO.shape
      have hjl : (joinP A (B.take k)).length ≤ 24 := by
        have := joinP_len A (B.take k)
        rw [List.length_take, hn.out] at this; omega
      clear hKr
      by_cases hlt : k < m
      · rcases g3.out with h | ⟨b, off, hab, hb1, hb2⟩
        · have := hm.out; omega
        · subst hab
          obtain ⟨h0, h1⟩ := hb2 k (by rw [hm.out]; exact hlt)
          have q0 := (hD.cell (p := ⟨b, off + k * 2, none⟩) hb1).trans h0
          have q1 := (hD.cell (p := ⟨b, off + k * 2 + 1, none⟩) hb1).trans h1
          clear h0 h1 hb2 g3
          obtain ⟨c, hc⟩ : ∃ c, Hid (B.getD k nop = c) := ⟨_, Lib.hid rfl⟩
          have hnx := Lib.hid (joinP_take (a := A) (k := k) (by rw [hm.out]; exact hlt))
          rw [hc.out] at q0 q1 hnx
          obtain ⟨p, r⟩ := c
          dsimp only at q0 q1
          have hKn : ∀ b' u w', w.heap.size ≤ b' → OwnP w' b' u (joinP A (B.take (k + 1))) → Below w.heap.size w w' → Hid (K w u (k + 1) w') := fun b' u w' x1 x2 x3 => Lib.hid (by rw [hK.out]; exact ⟨b', x1, x2, x3⟩)
          have hKn := Lib.hid hKn
          generalize joinP A (B.take k) = S at hO hv hcp hjl hnx
          subst hv
          have hgl := hO.lt
          have sp := sput_at gb 0 cp S p r wr hgl (by omega) hO.at0
          have hD := Lib.hid hD
          clear hO
          go_wp2_with fail
          refine sp.mono ?_
          rintro e w3 ⟨b', u, hb', rfl, hO2, hbl⟩
          have hb'2 := Nat.le_trans hD.out.size hb'
          have hK' := hKn.out b' u w3 hb'2 (by rw [hnx.out]; exact hO2) (bstep hD.out hbl)
          clear hbl hO2 sp q0 q1 hD
          go_wp2_with fail
          go_roundw
          case rel => exact ⟨k + 1, by omega, by go_num, hK'⟩
          case measure => simp [intOf]; omega
      · obtain rfl : k = m := by omega
        have ht : B.take k = B := List.take_of_length_le (by rw [hm.out]; exact Nat.le_refl _)
        rw [ht] at hO hv hcp hjl
        have hO := Lib.hid hO
        have hD := Lib.hid hD
        clear g3 ht hv hcp hjl
        go_wp2_with fail
        go_ret
        exact ⟨gb, _, hgb, rfl, hO.out, hD.out⟩
end Go.Proofs.YtdikcenhakfheaaDoor
