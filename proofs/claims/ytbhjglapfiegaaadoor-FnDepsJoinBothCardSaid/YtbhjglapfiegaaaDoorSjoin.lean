/- The model's l4Join, DepsJoin. -/
import Derived.Test.YtbhjglapfiegaaaDoorSdep
import Derived.Test.YtbhjglapfiegaaaDoorSeto
import Derived.Test.YtbhjglapfiegaaaDoorSsort
namespace Go.Proofs.YtbhjglapfiegaaaDoor
open Go.RowKit
set_option linter.unusedVariables false

/-- What l4Join leaves. -/
def L4Post (R : List Pid) (w : World) (e : Ending) (w' : World) : Prop :=
  ∃ b u, w.heap.size ≤ b ∧ e = .returned u ∧ OwnP w' b u R ∧ Below w.heap.size w w'

theorem flat_cells {W : World} {ad : Addr} {C : List Pid} (h : C.length = 0 ∨ ∃ b off, ad = ⟨b, off, none⟩ ∧ ∀ i, i < C.length → W.cell? ⟨b, off + i * 2, none⟩ = some (.int .i64 (C.getD i nop).1) ∧ W.cell? ⟨b, off + i * 2 + 1, none⟩ = some (.int .i64 (C.getD i nop).2)) :
    ∀ j u, (flatP C)[j]? = some u → W.cell? (ad.add j) = some u := by
  intro j u hj
  have hl : j < (flatP C).length := by
    rcases Nat.lt_or_ge j (flatP C).length with h' | h'
    · exact h'
    · rw [List.getElem?_eq_none h'] at hj; cases hj
  rw [flatP_len] at hl
  rcases h with h | ⟨b, off, rfl, h⟩
  · omega
  · obtain ⟨f0, f1⟩ := flatP_get C (j / 2) (by omega)
    obtain ⟨c0, c1⟩ := h (j / 2) (by omega)
    have ha : (⟨b, off, none⟩ : Addr).add j = ⟨b, off + j, none⟩ := by simp [Addr.add]
    rw [ha]
    rcases (show j % 2 = 0 ∨ j % 2 = 1 by omega) with e | e
    · have e2 : j / 2 * 2 = j := by omega
      rw [e2, hj] at f0
      rw [show off + j = off + j / 2 * 2 by omega, f0, c0]
    · have e2 : j / 2 * 2 + 1 = j := by omega
      rw [e2, hj] at f1
      rw [show off + j = off + j / 2 * 2 + 1 by omega, f1, c1]

set_option maxHeartbeats 4000000 in
theorem l4_any (u v : Value) (A B : List Pid) (w : World) (h : Ids w u A) (g : Ids w v B) (ha : A.length ≤ 12) (hb : B.length ≤ 12) :
    Calls Tryd.prog 35 #[u, v] w (L4Post (joinP A B) w) := by
  obtain ⟨i0, hi, hz0, hz1, hz2⟩ := info_parts infoP
  obtain ⟨a, cap, rfl, h1, h2, h3⟩ := h
  obtain ⟨a', cap', hv, g1, g2, g3⟩ := g
  obtain ⟨n, hn⟩ : ∃ n, Hid (A.length = n) := ⟨_, Lib.hid rfl⟩
  obtain ⟨m, hm⟩ : ∃ n, Hid (B.length = n) := ⟨_, Lib.hid rfl⟩
  rw [hn.out] at h1 ha ⊢
  rw [hm.out] at hv g1 hb
  subst hv
  have h3 := Lib.hid h3
  have g3 := Lib.hid g3
  clear h2 g2
  have R0 := Lib.hid (row_new w w.heap.size (Nat.le_refl _))
  have B0 : Hid (Below w.heap.size w (w.alloc (.cells #[] 31))) := Lib.hid ((Below.refl _ _).alloc (Nat.le_refl _) _)
  obtain ⟨K, hK⟩ : ∃ K : World → Value → Nat → World → Prop, K = fun w v n w' => ∃ b, w.heap.size ≤ b ∧ OwnP w' b v (joinP A (B.take n)) ∧ Below w.heap.size w w' := ⟨_, rfl⟩
  have hstart : ∀ v' w1, Row w1 w.heap.size v' A → Below w.heap.size w w1 → Hid (K w v' 0 w1) := fun v' w1 hR hD => Lib.hid (by
    rw [hK]
    obtain ⟨b, hb1, hb2⟩ := hR.own (by rw [hn.out]; omega)
    exact ⟨b, hb1, by rw [List.take_zero]; exact hb2, hD⟩)
  have hK := Lib.hid hK
  go_enter Tryd.func35, Tryd.ntmps35
  rcases a with _ | ad
  · have hA0 : n = 0 := by
      rcases h3.out with h | ⟨b, off, h, _⟩
      · exact hn.out.symm.trans h
      · cases h
    subst hA0
    have hA : A = [] := List.length_eq_zero_iff.1 hn.out
    have hst := hstart _ _ (by rw [hA]; exact R0.out) B0.out
    clear h3 R0 B0 hstart
    -- LOOP A
    go_wp2_with fail
    go_loopw [5, 6] (fun v i wr => ∃ k : Nat, k ≤ m ∧ i = .int .i64 k ∧ Hid (K w v k wr)) (fun _ i _ => m - (intOf i).toNat)
    case atStart => exact ⟨0, Nat.zero_le _, rfl, hst⟩
    case round =>
      obtain ⟨k, hk, rfl, hKr⟩ := hrel
      clear hst
      have hKo := hKr.out
      rw [hK.out] at hKo
      obtain ⟨gb, hgb, hO, hD⟩ := hKo
      obtain ⟨cp, hv, hcp⟩ := hO.shape
      have hjl : (joinP A (B.take k)).length ≤ 24 := by
        have := joinP_len A (B.take k)
        rw [List.length_take, hn.out] at this; omega
      clear hKr
      by_cases hlt : k < m
      · rcases g3.out with h | ⟨b, off, hab, hb1, hb2⟩
        · have := hm.out; omega
        · subst hab
          obtain ⟨h0, h1⟩ := hb2 k (by rw [hm.out]; exact hlt)
          have q0 := (hD.cell (p := ⟨b, off + k * 2, none⟩) hb1).trans h0
          have q1 := (hD.cell (p := ⟨b, off + k * 2 + 1, none⟩) hb1).trans h1
          clear h0 h1 hb2 g3
          obtain ⟨c, hc⟩ : ∃ c, Hid (B.getD k nop = c) := ⟨_, Lib.hid rfl⟩
          have hnx := Lib.hid (joinP_take (a := A) (k := k) (by rw [hm.out]; exact hlt))
          rw [hc.out] at q0 q1 hnx
          obtain ⟨p, r⟩ := c
          dsimp only at q0 q1
          have hKn : ∀ b' u w', w.heap.size ≤ b' → OwnP w' b' u (joinP A (B.take (k + 1))) → Below w.heap.size w w' → Hid (K w u (k + 1) w') := fun b' u w' x1 x2 x3 => Lib.hid (by rw [hK.out]; exact ⟨b', x1, x2, x3⟩)
          have hKn := Lib.hid hKn
          generalize joinP A (B.take k) = S at hO hv hcp hjl hnx
          subst hv
          have hgl := hO.lt
          have sp := sput_at gb 0 cp S p r wr hgl (by omega) hO.at0
          have hD := Lib.hid hD
          clear hO
          go_wp2_with fail
          refine sp.mono ?_
          rintro e w3 ⟨b', u, hb', rfl, hO2, hbl⟩
          have hb'2 := Nat.le_trans hD.out.size hb'
          have hK' := hKn.out b' u w3 hb'2 (by rw [hnx.out]; exact hO2) (bstep hD.out hbl)
          clear hbl hO2 sp q0 q1 hD
          go_wp2_with fail
          go_roundw
          case rel => exact ⟨k + 1, by omega, by go_num, hK'⟩
          case measure => simp [intOf]; omega
      · obtain rfl : k = m := by omega
        have ht : B.take k = B := List.take_of_length_le (by rw [hm.out]; exact Nat.le_refl _)
        rw [ht] at hO hv hcp hjl
        have hO := Lib.hid hO
        have hD := Lib.hid hD
        clear g3 ht hv hcp hjl
        go_wp2_with fail
        go_ret
        exact ⟨gb, _, hgb, rfl, hO.out, hD.out⟩
  · have hsrc : Hid (∀ j u, (flatP A)[j]? = some u → (w.alloc (.cells #[] 31)).cell? (ad.add j) = some u) := Lib.hid (flat_cells (by
      rcases h3.out with h | ⟨b, off, hab, hb1, hb2⟩
      · exact .inl h
      · injection hab with hab
        exact .inr ⟨b, off, hab, fun i hi' => by rw [B0.out.cell (p := ⟨b, off + i * 2, none⟩) hb1, B0.out.cell (p := ⟨b, off + i * 2 + 1, none⟩) hb1]; exact hb2 i hi'⟩))
    go_wp2_with (at_builtin; refine wpList_append_own _ rfl _ _ 23 rfl w.heap.size 31 i0 (.agg #[.int .i64 0, .int .i64 0]) 2 16 Tryd.underlying23 hi hz0 hz1 hz2 rfl (by decide) _ 0 [] rfl R0.out.1 ad n cap (flatP A) rfl ?c0 ?c1 ?c2 ?c3 ?c4 ?c5 ?_)
    case c0 => rw [flatP_len, hn.out]
    case c1 => exact hsrc.out
    case c2 => exact flatP_one A
    case c3 => unfold maxLen; omega
    case c4 => omega
    case c5 => simp
    intro v' w1 hown hgrow hnil
    have hR1 : Row w1 w.heap.size v' ([] ++ A) := ⟨by rw [List.nil_append, hn.out]; simpa using hown, fun e => hnil e⟩
    have hst := hstart v' w1 (by simpa using hR1) (B0.out.trans (grown_below R0.out hgrow (by simp)))
    clear hown hgrow hnil hR1 hsrc h3 R0 B0 hstart
    go_wp2_with fail
    go_loopw [5, 6] (fun v i wr => ∃ k : Nat, k ≤ m ∧ i = .int .i64 k ∧ Hid (K w v k wr)) (fun _ i _ => m - (intOf i).toNat)
    case atStart => exact ⟨0, Nat.zero_le _, rfl, hst⟩
    case round =>
      obtain ⟨k, hk, rfl, hKr⟩ := hrel
      clear hst
      have hKo := hKr.out
      rw [hK.out] at hKo
      obtain ⟨gb, hgb, hO, hD⟩ := hKo
      obtain ⟨cp, hv, hcp⟩ := hO.shape
      have hjl : (joinP A (B.take k)).length ≤ 24 := by
        have := joinP_len A (B.take k)
        rw [List.length_take, hn.out] at this; omega
      clear hKr
      by_cases hlt : k < m
      · rcases g3.out with h | ⟨b, off, hab, hb1, hb2⟩
        · have := hm.out; omega
        · subst hab
          obtain ⟨h0, h1⟩ := hb2 k (by rw [hm.out]; exact hlt)
          have q0 := (hD.cell (p := ⟨b, off + k * 2, none⟩) hb1).trans h0
          have q1 := (hD.cell (p := ⟨b, off + k * 2 + 1, none⟩) hb1).trans h1
          clear h0 h1 hb2 g3
          obtain ⟨c, hc⟩ : ∃ c, Hid (B.getD k nop = c) := ⟨_, Lib.hid rfl⟩
          have hnx := Lib.hid (joinP_take (a := A) (k := k) (by rw [hm.out]; exact hlt))
          rw [hc.out] at q0 q1 hnx
          obtain ⟨p, r⟩ := c
          dsimp only at q0 q1
          have hKn : ∀ b' u w', w.heap.size ≤ b' → OwnP w' b' u (joinP A (B.take (k + 1))) → Below w.heap.size w w' → Hid (K w u (k + 1) w') := fun b' u w' x1 x2 x3 => Lib.hid (by rw [hK.out]; exact ⟨b', x1, x2, x3⟩)
          have hKn := Lib.hid hKn
          generalize joinP A (B.take k) = S at hO hv hcp hjl hnx
          subst hv
          have hgl := hO.lt
          have sp := sput_at gb 0 cp S p r wr hgl (by omega) hO.at0
          have hD := Lib.hid hD
          clear hO
          go_wp2_with fail
          refine sp.mono ?_
          rintro e w3 ⟨b', u, hb', rfl, hO2, hbl⟩
          have hb'2 := Nat.le_trans hD.out.size hb'
          have hK' := hKn.out b' u w3 hb'2 (by rw [hnx.out]; exact hO2) (bstep hD.out hbl)
          clear hbl hO2 sp q0 q1 hD
          go_wp2_with fail
          go_roundw
          case rel => exact ⟨k + 1, by omega, by go_num, hK'⟩
          case measure => simp [intOf]; omega
      · obtain rfl : k = m := by omega
        have ht : B.take k = B := List.take_of_length_le (by rw [hm.out]; exact Nat.le_refl _)
        rw [ht] at hO hv hcp hjl
        have hO := Lib.hid hO
        have hD := Lib.hid hD
        clear g3 ht hv hcp hjl
        go_wp2_with fail
        go_ret
        exact ⟨gb, _, hgb, rfl, hO.out, hD.out⟩
end Go.Proofs.YtbhjglapfiegaaaDoor
