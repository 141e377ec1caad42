/- Texts laid together. -/
import Derived.Test.YtigaepbhbfpijaaDoorC02
import Derived.Test.YtigaepbhbfpijaaDoorC01
import Derived.Laws.Bits64b
import Derived.Laws.Bits128
import Derived.Deep.RegionHeld3
import Derived.Laws.NewBlocks
import Derived.Deep.RegionWith
/- The model's IdsSort. -/
namespace Go.Proofs.YtigaepbhbfpijaaDoor
open Go.RowKit
set_option linter.unusedVariables false

theorem all_ok {L : List Pid} (h : ∀ j, j < L.length → okP (L.getD j nop) = true) : L.all okP = true := by
  rw [List.all_eq_true]
  intro x hx
  obtain ⟨i, hi, e⟩ := List.getElem_of_mem hx
  have := h i hi
  rw [List.getD_eq_getElem?_getD, List.getElem?_eq_getElem hi, Option.getD_some, e] at this
  exact this
theorem ownP_nil (w : World) (t : TypeId) : OwnP (w.alloc (.cells #[] t)) w.heap.size (.slice (some ⟨w.heap.size, 0, none⟩) 0 0) [] :=
  ⟨0, #[], t, rfl, heap_alloc_new w _, Nat.le_refl _, by simp, fun i hi => absurd hi (by simp)⟩
theorem OwnP.at0 {w : World} {b : Nat} {u : Value} {C : List Pid} (h : OwnP w b u C) : ∀ i, i < C.length → w.cell? ⟨b, 0 + i * 2, none⟩ = some (.int .i64 (C.getD i nop).1) ∧ w.cell? ⟨b, 0 + i * 2 + 1, none⟩ = some (.int .i64 (C.getD i nop).2) := fun i hi => by
  rw [Nat.zero_add]; exact h.cell i hi
theorem sortP_take_len (L : List Pid) (k : Nat) : (sortP (L.take k)).length ≤ k := Nat.le_trans (sortP_len _) (by rw [List.length_take]; omega)

/-- What IdsSort leaves. -/
def SortPost (L : List Pid) (w : World) (e : Ending) (w' : World) : Prop :=
  ∃ b u, w.heap.size ≤ b ∧ e = .returned (.tuple #[u, .bool (sortR L).2]) ∧ OwnP w' b u (sortR L).1 ∧ Below w.heap.size w w'

set_option maxRecDepth 100000 in
set_option maxHeartbeats 2000000 in
theorem ssort_at (b off ca : Nat) (L : List Pid) (w : World) (hb : b < w.heap.size) (hm : L.length ≤ 1800000) (h : ∀ i, i < L.length → w.cell? ⟨b, off + i * 2, none⟩ = some (.int .i64 (L.getD i nop).1) ∧ w.cell? ⟨b, off + i * 2 + 1, none⟩ = some (.int .i64 (L.getD i nop).2)) :
    Calls Tryd.prog 44 #[.slice (some ⟨b, off, none⟩) L.length ca] w (SortPost L w) := by
  have h := Lib.hid h
  obtain ⟨n, hn⟩ : ∃ n, Hid (L.length = n) := ⟨_, Lib.hid rfl⟩
  rw [hn.out] at hm ⊢
  have R0 := Lib.hid (ownP_nil w 31)
  go_enter Tryd.func44, Tryd.ntmps44
  go_wp2_with fail
  go_loopw [4, 5] (fun v i wr => ∃ k : Nat, k ≤ n ∧ i = .int .i64 k ∧ ∃ g, w.heap.size ≤ g ∧ Hid (OwnP wr g v (sortP (L.take k)) ∧ (∀ j, j < k → okP (L.getD j nop) = true)) ∧ Below w.heap.size w wr) (fun _ i _ => n - (intOf i).toNat)
  case atStart => exact ⟨0, Nat.zero_le _, rfl, w.heap.size, Nat.le_refl _, Lib.hid ⟨R0.out, fun j hj => absurd hj (Nat.not_lt_zero _)⟩, (Below.refl _ _).alloc (Nat.le_refl _) _⟩
  case round =>
    obtain ⟨k, hk, rfl, g, hg, hO, hnx⟩ := hrel
    clear R0
    obtain ⟨cap, hv, hcap⟩ := hO.out.1.shape
    have hsl := sortP_take_len L k
    by_cases hlt : k < n
    · obtain ⟨h0, h1⟩ := h.out k (by rw [hn.out]; exact hlt)
      have q0 := (hnx.cell (p := ⟨b, off + k * 2, none⟩) hb).trans h0
      have q1 := (hnx.cell (p := ⟨b, off + k * 2 + 1, none⟩) hb).trans h1
      clear h0 h1
      obtain ⟨c, hc⟩ : ∃ c, Hid (L.getD k nop = c) := ⟨_, Lib.hid rfl⟩
      rw [hc.out] at q0 q1
      obtain ⟨p, r⟩ := c
      dsimp only at q0 q1
      have hnx := Lib.hid hnx
      have sv := svid_any p r
      obtain ⟨q, hq⟩ : ∃ q, Hid (idB p r = q) := ⟨_, Lib.hid rfl⟩
      rw [hq.out] at sv
      cases q
      · have hR := Lib.hid (sortR_bad (by rw [hn.out]; exact hlt) (show okP (L.getD k nop) = false by rw [hc.out]; exact hq.out))
        clear h
        go_wp2_with fail
        refine (sv _).mono ?_
        rintro e w1 ⟨rfl, B⟩
        have D1 := Lib.hid (bstep hnx.out B)
        have N1 := Lib.hid (ownP_nil w1 31)
        clear B hnx hO
        go_wp2_with fail
        go_ret2
        refine ⟨w1.heap.size, .slice (some ⟨w1.heap.size, 0, none⟩) 0 0, D1.out.size, ?_, ?_, D1.out.alloc D1.out.size _⟩
        · rw [hR.out]; rfl
        · rw [hR.out]; exact N1.out
      · have hnext := Lib.hid (sortP_next (L := L) (k := k) (by rw [hn.out]; exact hlt))
        have hok := Lib.hid (up_to hO.out.2 (show okP (L.getD k nop) = true by rw [hc.out]; exact hq.out))
        rw [hc.out] at hnext
        have hO := hO.out.1
        clear hq hc
        generalize sortP (L.take k) = S at hO hsl hnext hv hcap
        subst hv
        have hO := Lib.hid hO
        clear h
        go_wp2_with fail
        refine (sv _).mono ?_
        rintro e w1 ⟨rfl, B⟩
        have D1 := Lib.hid (bstep hnx.out B)
        have O1 := hO.out.up B hO.out.lt
        have q0 := cell_later B q0
        have q1 := cell_later B q1
        have hl1 := O1.lt
        have O1 := Lib.hid O1
        clear B hnx hO
        go_wp2_with fail
        refine (sput_at g 0 cap S p r _ hl1 (by omega) O1.out.at0).mono ?_
        rintro e w2 ⟨b', u, hb', rfl, hO2, B⟩
        have D2 := Lib.hid (bstep D1.out B)
        have D1s := D1.out.size
        have hO2 := Lib.hid hO2
        clear B D1 O1
        go_wp2_with fail
        go_roundw
        case rel => exact ⟨k + 1, by omega, by go_num, b', by omega, Lib.hid ⟨by rw [hnext.out]; exact hO2.out, hok.out⟩, D2.out⟩
        case measure => simp [intOf]; omega
    · obtain rfl : k = n := by omega
      have ht : L.take k = L := List.take_of_length_le (by rw [hn.out]; exact Nat.le_refl _)
      have hall := all_ok (fun j hj => hO.out.2 j (by rw [← hn.out]; exact hj))
      have hO := hO.out.1
      rw [ht] at hO hsl hv hcap
      have hnx := Lib.hid hnx
      clear h ht
      by_cases hle : (sortP L).length ≤ 12
      · have hR := Lib.hid (sortR_t hall hle)
        generalize sortP L = S at hO hsl hle hv hcap hR
        subst hv
        have hO := Lib.hid hO
        clear hall
        go_wp2_with fail
        go_ret2
        refine ⟨g, .slice (some ⟨g, 0, none⟩) S.length cap, hg, ?_, ?_, hnx.out⟩
        · rw [hR.out]; rfl
        · rw [hR.out]; exact hO.out
      · have hR := Lib.hid (sortR_long hle)
        generalize sortP L = S at hO hsl hle hv hcap
        subst hv
        have N1 := Lib.hid (ownP_nil wr 31)
        clear hall hO
        go_wp2_with fail
        go_ret2
        refine ⟨wr.heap.size, .slice (some ⟨wr.heap.size, 0, none⟩) 0 0, hnx.out.size, ?_, ?_, hnx.out.alloc hnx.out.size _⟩
        · rw [hR.out]; rfl
        · rw [hR.out]; exact N1.out

theorem ssort_nil (a : Option Addr) (ca : Nat) (w : World) :
    Calls Tryd.prog 44 #[.slice a 0 ca] w (SortPost [] w) := by
  have R0 := Lib.hid (ownP_nil w 31)
  go_enter Tryd.func44, Tryd.ntmps44
  go_wp2_with fail
  refine wp_loop_rounds 1 ?_
  rw [rounds_succ]
  go_wp2_with fail
  go_ret2
  exact ⟨w.heap.size, _, Nat.le_refl _, rfl, R0.out, (Below.refl _ _).alloc (Nat.le_refl _) _⟩

theorem ssort_any (u : Value) (L : List Pid) (w : World) (h : Ids w u L) (hm : L.length ≤ 1800000) :
    Calls Tryd.prog 44 #[u] w (SortPost L w) := by
  obtain ⟨a, cap, rfl, h1, h2, h3⟩ := h
  rcases h3 with h3 | ⟨b, off, rfl, h4, h5⟩
  · obtain rfl : L = [] := List.length_eq_zero_iff.1 h3
    exact ssort_nil a cap w
  · exact ssort_at b off cap L w h4 hm h5
end Go.Proofs.YtigaepbhbfpijaaDoor

/- The model's l4Join, DepsJoin. -/
namespace Go.Proofs.YtigaepbhbfpijaaDoor
open Go.RowKit
set_option linter.unusedVariables false

/-- What l4Join leaves. -/
def L4Post (R : List Pid) (w : World) (e : Ending) (w' : World) : Prop :=
  ∃ b u, w.heap.size ≤ b ∧ e = .returned u ∧ OwnP w' b u R ∧ Below w.heap.size w w'

theorem flat_cells {W : World} {ad : Addr} {C : List Pid} (h : C.length = 0 ∨ ∃ b off, ad = ⟨b, off, none⟩ ∧ ∀ i, i < C.length → W.cell? ⟨b, off + i * 2, none⟩ = some (.int .i64 (C.getD i nop).1) ∧ W.cell? ⟨b, off + i * 2 + 1, none⟩ = some (.int .i64 (C.getD i nop).2)) :
    ∀ j u, (flatP C)[j]? = some u → W.cell? (ad.add j) = some u := by
  intro j u hj
  have hl : j < (flatP C).length := by
    rcases Nat.lt_or_ge j (flatP C).length with h' | h'
    · exact h'
    · rw [List.getElem?_eq_none h'] at hj; cases hj
  rw [flatP_len] at hl
  rcases h with h | ⟨b, off, rfl, h⟩
  · omega
  · obtain ⟨f0, f1⟩ := flatP_get C (j / 2) (by omega)
    obtain ⟨c0, c1⟩ := h (j / 2) (by omega)
    have ha : (⟨b, off, none⟩ : Addr).add j = ⟨b, off + j, none⟩ := by simp [Addr.add]
    rw [ha]
    rcases (show j % 2 = 0 ∨ j % 2 = 1 by omega) with e | e
    · have e2 : j / 2 * 2 = j := by omega
      rw [e2, hj] at f0
      rw [show off + j = off + j / 2 * 2 by omega, f0, c0]
    · have e2 : j / 2 * 2 + 1 = j := by omega
      rw [e2, hj] at f1
      rw [show off + j = off + j / 2 * 2 + 1 by omega, f1, c1]

set_option maxRecDepth 100000 in
set_option maxHeartbeats 4000000 in
theorem l4_any (u v : Value) (A B : List Pid) (w : World) (h : Ids w u A) (g : Ids w v B) (ha : A.length ≤ 12) (hb : B.length ≤ 12) :
    Calls Tryd.prog 35 #[u, v] w (L4Post (joinP A B) w) := by
  obtain ⟨i0, hi, hz0, hz1, hz2⟩ := info_parts infoP
  obtain ⟨a, cap, rfl, h1, h2, h3⟩ := h
  obtain ⟨a', cap', hv, g1, g2, g3⟩ := g
  obtain ⟨n, hn⟩ : ∃ n, Hid (A.length = n) := ⟨_, Lib.hid rfl⟩
  obtain ⟨m, hm⟩ : ∃ n, Hid (B.length = n) := ⟨_, Lib.hid rfl⟩
  rw [hn.out] at h1 ha ⊢
  rw [hm.out] at hv g1 hb
  subst hv
  have h3 := Lib.hid h3
  have g3 := Lib.hid g3
  clear h2 g2
  have R0 := Lib.hid (row_new w w.heap.size (Nat.le_refl _))
  have B0 : Hid (Below w.heap.size w (w.alloc (.cells #[] 31))) := Lib.hid ((Below.refl _ _).alloc (Nat.le_refl _) _)
  obtain ⟨K, hK⟩ : ∃ K : World → Value → Nat → World → Prop, K = fun w v n w' => ∃ b, w.heap.size ≤ b ∧ OwnP w' b v (joinP A (B.take n)) ∧ Below w.heap.size w w' := ⟨_, rfl⟩
  have hstart : ∀ v' w1, Row w1 w.heap.size v' A → Below w.heap.size w w1 → Hid (K w v' 0 w1) := fun v' w1 hR hD => Lib.hid (by
    rw [hK]
    obtain ⟨b, hb1, hb2⟩ := hR.own (by rw [hn.out]; omega)
    exact ⟨b, hb1, by rw [List.take_zero]; exact hb2, hD⟩)
  have hK := Lib.hid hK
  go_enter Tryd.func35, Tryd.ntmps35
  rcases a with _ | ad
  · have hA0 : n = 0 := by
      rcases h3.out with h | ⟨b, off, h, _⟩
      · exact hn.out.symm.trans h
      · cases h
    subst hA0
    have hA : A = [] := List.length_eq_zero_iff.1 hn.out
    have hst := hstart _ _ (by rw [hA]; exact R0.out) B0.out
    clear h3 R0 B0 hstart
    -- LOOP A
    go_wp2_with fail
    go_loopw [5, 6] (fun v i wr => ∃ k : Nat, k ≤ m ∧ i = .int .i64 k ∧ Hid (K w v k wr)) (fun _ i _ => m - (intOf i).toNat)
    case atStart => exact ⟨0, Nat.zero_le _, rfl, hst⟩
    case round =>
      obtain ⟨k, hk, rfl, hKr⟩ := hrel
      clear hst
      have hKo := hKr.out
      rw [hK.out] at hKo
      obtain ⟨gb, hgb, hO, hD⟩ := hKo
      obtain ⟨cp, hv, hcp⟩ := hO.shape
      have hjl : (joinP A (B.take k)).length ≤ 24 := by
        have := joinP_len A (B.take k)
        rw [List.length_take, hn.out] at this; omega
      clear hKr
      by_cases hlt : k < m
      · rcases g3.out with h | ⟨b, off, hab, hb1, hb2⟩
        · have := hm.out; omega
        · subst hab
          obtain ⟨h0, h1⟩ := hb2 k (by rw [hm.out]; exact hlt)
          have q0 := (hD.cell (p := ⟨b, off + k * 2, none⟩) hb1).trans h0
          have q1 := (hD.cell (p := ⟨b, off + k * 2 + 1, none⟩) hb1).trans h1
          clear h0 h1 hb2 g3
          obtain ⟨c, hc⟩ : ∃ c, Hid (B.getD k nop = c) := ⟨_, Lib.hid rfl⟩
          have hnx := Lib.hid (joinP_take (a := A) (k := k) (by rw [hm.out]; exact hlt))
          rw [hc.out] at q0 q1 hnx
          obtain ⟨p, r⟩ := c
          dsimp only at q0 q1
          have hKn : ∀ b' u w', w.heap.size ≤ b' → OwnP w' b' u (joinP A (B.take (k + 1))) → Below w.heap.size w w' → Hid (K w u (k + 1) w') := fun b' u w' x1 x2 x3 => Lib.hid (by rw [hK.out]; exact ⟨b', x1, x2, x3⟩)
          have hKn := Lib.hid hKn
          generalize joinP A (B.take k) = S at hO hv hcp hjl hnx
          subst hv
          have hgl := hO.lt
          have sp := sput_at gb 0 cp S p r wr hgl (by omega) hO.at0
          have hD := Lib.hid hD
          clear hO
          go_wp2_with fail
          refine sp.mono ?_
          rintro e w3 ⟨b', u, hb', rfl, hO2, hbl⟩
          have hb'2 := Nat.le_trans hD.out.size hb'
          have hK' := hKn.out b' u w3 hb'2 (by rw [hnx.out]; exact hO2) (bstep hD.out hbl)
          clear hbl hO2 sp q0 q1 hD
          go_wp2_with fail
          go_roundw
          case rel => exact ⟨k + 1, by omega, by go_num, hK'⟩
          case measure => simp [intOf]; omega
      · obtain rfl : k = m := by omega
        have ht : B.take k = B := List.take_of_length_le (by rw [hm.out]; exact Nat.le_refl _)
        rw [ht] at hO hv hcp hjl
        have hO := Lib.hid hO
        have hD := Lib.hid hD
        clear g3 ht hv hcp hjl
        go_wp2_with fail
        go_ret
        exact ⟨gb, _, hgb, rfl, hO.out, hD.out⟩
  · have hsrc : Hid (∀ j u, (flatP A)[j]? = some u → (w.alloc (.cells #[] 31)).cell? (ad.add j) = some u) := Lib.hid (flat_cells (by
      rcases h3.out with h | ⟨b, off, hab, hb1, hb2⟩
      · exact .inl h
      · injection hab with hab
        exact .inr ⟨b, off, hab, fun i hi' => by rw [B0.out.cell (p := ⟨b, off + i * 2, none⟩) hb1, B0.out.cell (p := ⟨b, off + i * 2 + 1, none⟩) hb1]; exact hb2 i hi'⟩))
    go_wp2_with (at_builtin; refine wpList_append_own _ rfl _ _ 23 rfl w.heap.size 31 i0 (.agg #[.int .i64 0, .int .i64 0]) 2 16 Tryd.underlying23 hi hz0 hz1 hz2 rfl (by decide) _ 0 [] rfl R0.out.1 ad n cap (flatP A) rfl ?c0 ?c1 ?c2 ?c3 ?c4 ?c5 ?_)
    case c0 => rw [flatP_len, hn.out]
    case c1 => exact hsrc.out
    case c2 => exact flatP_one A
    case c3 => unfold maxLen; omega
    case c4 => omega
    case c5 => simp
    intro v' w1 hown hgrow hnil
    have hR1 : Row w1 w.heap.size v' ([] ++ A) := ⟨by rw [List.nil_append, hn.out]; simpa using hown, fun e => hnil e⟩
    have hst := hstart v' w1 (by simpa using hR1) (B0.out.trans (grown_below R0.out hgrow (by simp)))
    clear hown hgrow hnil hR1 hsrc h3 R0 B0 hstart
    go_wp2_with fail
    go_loopw [5, 6] (fun v i wr => ∃ k : Nat, k ≤ m ∧ i = .int .i64 k ∧ Hid (K w v k wr)) (fun _ i _ => m - (intOf i).toNat)
    case atStart => exact ⟨0, Nat.zero_le _, rfl, hst⟩
    case round =>
      obtain ⟨k, hk, rfl, hKr⟩ := hrel
      clear hst
      have hKo := hKr.out
      rw [hK.out] at hKo
      obtain ⟨gb, hgb, hO, hD⟩ := hKo
      obtain ⟨cp, hv, hcp⟩ := hO.shape
      have hjl : (joinP A (B.take k)).length ≤ 24 := by
        have := joinP_len A (B.take k)
        rw [List.length_take, hn.out] at this; omega
      clear hKr
      by_cases hlt : k < m
      · rcases g3.out with h | ⟨b, off, hab, hb1, hb2⟩
        · have := hm.out; omega
        · subst hab
          obtain ⟨h0, h1⟩ := hb2 k (by rw [hm.out]; exact hlt)
          have q0 := (hD.cell (p := ⟨b, off + k * 2, none⟩) hb1).trans h0
          have q1 := (hD.cell (p := ⟨b, off + k * 2 + 1, none⟩) hb1).trans h1
          clear h0 h1 hb2 g3
          obtain ⟨c, hc⟩ : ∃ c, Hid (B.getD k nop = c) := ⟨_, Lib.hid rfl⟩
          have hnx := Lib.hid (joinP_take (a := A) (k := k) (by rw [hm.out]; exact hlt))
          rw [hc.out] at q0 q1 hnx
          obtain ⟨p, r⟩ := c
          dsimp only at q0 q1
          have hKn : ∀ b' u w', w.heap.size ≤ b' → OwnP w' b' u (joinP A (B.take (k + 1))) → Below w.heap.size w w' → Hid (K w u (k + 1) w') := fun b' u w' x1 x2 x3 => Lib.hid (by rw [hK.out]; exact ⟨b', x1, x2, x3⟩)
          have hKn := Lib.hid hKn
          generalize joinP A (B.take k) = S at hO hv hcp hjl hnx
          subst hv
          have hgl := hO.lt
          have sp := sput_at gb 0 cp S p r wr hgl (by omega) hO.at0
          have hD := Lib.hid hD
          clear hO
          go_wp2_with fail
          refine sp.mono ?_
          rintro e w3 ⟨b', u, hb', rfl, hO2, hbl⟩
          have hb'2 := Nat.le_trans hD.out.size hb'
          have hK' := hKn.out b' u w3 hb'2 (by rw [hnx.out]; exact hO2) (bstep hD.out hbl)
          clear hbl hO2 sp q0 q1 hD
          go_wp2_with fail
          go_roundw
          case rel => exact ⟨k + 1, by omega, by go_num, hK'⟩
          case measure => simp [intOf]; omega
      · obtain rfl : k = m := by omega
        have ht : B.take k = B := List.take_of_length_le (by rw [hm.out]; exact Nat.le_refl _)
        rw [ht] at hO hv hcp hjl
        have hO := Lib.hid hO
        have hD := Lib.hid hD
        clear g3 ht hv hcp hjl
        go_wp2_with fail
        go_ret
        exact ⟨gb, _, hgb, rfl, hO.out, hD.out⟩
end Go.Proofs.YtigaepbhbfpijaaDoor

/- math/bits.OnesCount64. -/
namespace Go.Proofs.YtigaepbhbfpijaaDoor
open Go.RowKit
set_option linter.unusedVariables false

theorem wrapN (n : Nat) (h : n < 18446744073709551616) : IntKind.u64.wrap (n : Int) = (n : Int) := by rw [IntKind.wrap_u64]; omega

set_option maxRecDepth 100000 in
set_option maxHeartbeats 1000000 in
theorem ones_any (x : Nat) (w : World) (hx : x < 18446744073709551616) :
    Calls Tryd.prog 49 #[.int .u64 x] w fun e w' => e = .returned (.int .i64 (pc 64 x)) ∧ w = w' := by
  obtain ⟨A1, hA1⟩ : ∃ n, n = x / 2 &&& 6148914691236517205 := ⟨_, rfl⟩
  obtain ⟨A2, hA2⟩ : ∃ n, n = x &&& 6148914691236517205 := ⟨_, rfl⟩
  obtain ⟨a, ha⟩ : ∃ n, n = A1 + A2 := ⟨_, rfl⟩
  obtain ⟨B1, hB1⟩ : ∃ n, n = a / 4 &&& 3689348814741910323 := ⟨_, rfl⟩
  obtain ⟨B2, hB2⟩ : ∃ n, n = a &&& 3689348814741910323 := ⟨_, rfl⟩
  obtain ⟨b, hb⟩ : ∃ n, n = B1 + B2 := ⟨_, rfl⟩
  obtain ⟨c0, hc0⟩ : ∃ n, n = b / 16 + b := ⟨_, rfl⟩
  obtain ⟨c, hc⟩ : ∃ n, n = c0 &&& 1085102592571150095 := ⟨_, rfl⟩
  obtain ⟨d, hd⟩ : ∃ n, n = c + c / 256 := ⟨_, rfl⟩
  obtain ⟨e, he⟩ : ∃ n, n = d + d / 65536 := ⟨_, rfl⟩
  obtain ⟨f, hf⟩ : ∃ n, n = e + e / 4294967296 := ⟨_, rfl⟩
  have T := ones_trick x a b c hx (by rw [ha, hA1, hA2]) (by rw [hb, hB1, hB2]) (by rw [hc, hc0])
  rw [← hd, ← he, ← hf] at T
  obtain ⟨t1, t2, t3, t4, t5⟩ := T
  have a1 : bits .and .u64 ((x : Int) / 2) 6148914691236517205 = (A1 : Int) := by
    have := bits_and_u64_nat (x / 2) 6148914691236517205 (by omega) (by decide)
    rw [← hA1] at this; exact this
  have a2 : bits .and .u64 (x : Int) 6148914691236517205 = (A2 : Int) := by
    have := bits_and_u64_nat x 6148914691236517205 hx (by decide)
    rw [← hA2] at this; exact this
  have wa : IntKind.u64.wrap ((A1 : Int) + (A2 : Int)) = (a : Int) := by rw [← Int.natCast_add, ← ha]; exact wrapN a (by omega)
  have b1 : bits .and .u64 ((a : Int) / 4) 3689348814741910323 = (B1 : Int) := by
    have := bits_and_u64_nat (a / 4) 3689348814741910323 (by omega) (by decide)
    rw [← hB1] at this; exact this
  have b2 : bits .and .u64 (a : Int) 3689348814741910323 = (B2 : Int) := by
    have := bits_and_u64_nat a 3689348814741910323 (by omega) (by decide)
    rw [← hB2] at this; exact this
  have wb : IntKind.u64.wrap ((B1 : Int) + (B2 : Int)) = (b : Int) := by rw [← Int.natCast_add, ← hb]; exact wrapN b (by omega)
  have wc : IntKind.u64.wrap ((b : Int) / 16 + (b : Int)) = (c0 : Int) := by
    have := wrapN c0 (by omega)
    rw [show ((b : Int) / 16 + (b : Int)) = (c0 : Int) by omega]; exact this
  have c1 : bits .and .u64 (c0 : Int) 1085102592571150095 = (c : Int) := by
    have := bits_and_u64_nat c0 1085102592571150095 (by omega) (by decide)
    rw [← hc] at this; exact this
  have wd : IntKind.u64.wrap ((c : Int) + (c : Int) / 256) = (d : Int) := by
    rw [show ((c : Int) + (c : Int) / 256) = (d : Int) by omega]; exact wrapN d (by omega)
  have we : IntKind.u64.wrap ((d : Int) + (d : Int) / 65536) = (e : Int) := by
    rw [show ((d : Int) + (d : Int) / 65536) = (e : Int) by omega]; exact wrapN e (by omega)
  have wf : IntKind.u64.wrap ((e : Int) + (e : Int) / 4294967296) = (f : Int) := by
    rw [show ((e : Int) + (e : Int) / 4294967296) = (f : Int) by omega]; exact wrapN f (by omega)
  have wi : IntKind.i64.wrap (f : Int) = (f : Int) := IntWalk.i64_in _ (by omega)
  have g1 : bits .and .i64 (f : Int) 127 = ((pc 64 x : Nat) : Int) := by rw [i64_and127]; omega
  generalize pc 64 x = q at g1 t4 ⊢
  clear hA1 hA2 ha hB1 hB2 hb hc0 hc hd he hf t1 t2 t3 t4 t5
  go_enter Tryd.func49, Tryd.ntmps49
  go_wp2_with fail
  go_ret
  exact ⟨rfl, rfl⟩
end Go.Proofs.YtigaepbhbfpijaaDoor

/- The program's add: an id is put into a set in memory. -/
namespace Go.Proofs.YtigaepbhbfpijaaDoor
open Go.RowKit
set_option linter.unusedVariables false

theorem one_shl (n : Nat) (h : n < 64) : IntKind.u64.wrap ((1 : Int) * 2 ^ n) = ((2 ^ n : Nat) : Int) := by
  have h2 : 2 ^ n < 2 ^ 64 := Nat.pow_lt_pow_right (by decide) h
  have e : ((1 : Int) * 2 ^ n) = ((2 ^ n : Nat) : Int) := by rw [Int.one_mul]; exact (Int.natCast_pow 2 n).symm
  rw [IntKind.wrap_u64, e]
  generalize 2 ^ n = m at h2 ⊢
  omega

set_option maxRecDepth 100000 in
set_option maxHeartbeats 1000000 in
/-- A bit is set in the cell of the replica. -/
theorem add_at (b o pr nr m : Nat) (w : World) (hp : pr < 5) (hq : nr ≤ 50) (hb : b < w.heap.size) (c0 : w.cell? ⟨b, o + pr, none⟩ = some (.int .u64 m)) (f0 : w.frozen? ⟨b, o + pr, none⟩ = false) (hm : m < 2251799813685248) :
    Calls Tryd.prog 48 #[.pointer (some ⟨b, o, none⟩), .agg #[.int .i64 pr, .int .i64 nr]] w fun e w' =>
      e = .returned (.tuple #[]) ∧ ∃ w1, Below w.heap.size w w1 ∧ w' = w1.setCell ⟨b, o + pr, none⟩ (.int .u64 ((m ||| 2 ^ nr : Nat) : Int)) := by
  have ep : ((2 ^ nr : Nat) : Int) = (2 : Int) ^ nr := Int.natCast_pow 2 nr
  have sh : IntKind.u64.wrap ((2 : Int) ^ nr) = (2 : Int) ^ nr := by have := one_shl nr (by omega); rw [Int.one_mul, ep] at this; exact this
  have hp2 : 2 ^ nr < 2 ^ 64 := Nat.pow_lt_pow_right (by decide) (by omega)
  have ob : bits .or .u64 (m : Int) ((2 : Int) ^ nr) = ((m ||| 2 ^ nr : Nat) : Int) := by rw [← ep]; exact bits_or_u64_nat m (2 ^ nr) (by omega) hp2
  have D := Lib.hid ((Below.refl w.heap.size w).alloc (Nat.le_refl _) (.cells #[.int .i64 pr, .int .i64 nr] 31))
  have q0 := (D.out.cell (p := ⟨b, o + pr, none⟩) hb).trans c0
  have q1 := (D.out.frozen (p := ⟨b, o + pr, none⟩) hb).trans f0
  generalize m ||| 2 ^ nr = y at ob ⊢
  clear hp2 ep c0 f0 hm
  go_enter Tryd.func48, Tryd.ntmps48
  go_wp2_with fail
  go_region
  go_wp2_with fail
  all_goals
    go_end0
    refine ⟨rfl, _, D.out.drew, ?_⟩
    rw [World.setCell_drew, World.setCell_alloc_past _ _ _ _ hb]
end Go.Proofs.YtigaepbhbfpijaaDoor

/- The program's idSetOf. -/
namespace Go.Proofs.YtigaepbhbfpijaaDoor
open Go.RowKit
set_option linter.unusedVariables false

/-- A set as a value. -/
def setV (f : Nat → Nat) : Value := .agg #[.int .u64 (f 0), .int .u64 (f 1), .int .u64 (f 2), .int .u64 (f 3), .int .u64 (f 4)]
/-- A block that holds a set. -/
def Set5 (w : World) (b : Nat) (f : Nat → Nat) : Prop := w.heap[b]? = some (.cells #[.int .u64 (f 0), .int .u64 (f 1), .int .u64 (f 2), .int .u64 (f 3), .int .u64 (f 4)] 47 (0, 0))
theorem Set5.lt {w : World} {b : Nat} {f : Nat → Nat} (h : Set5 w b f) : b < w.heap.size := lt_of_heap h
theorem Set5.five {w : World} {b : Nat} {f : Nat → Nat} (h : Set5 w b f) :
    w.cell? ⟨b, 0, none⟩ = some (.int .u64 (f 0)) ∧ w.cell? ⟨b, 1, none⟩ = some (.int .u64 (f 1)) ∧ w.cell? ⟨b, 2, none⟩ = some (.int .u64 (f 2)) ∧ w.cell? ⟨b, 3, none⟩ = some (.int .u64 (f 3)) ∧ w.cell? ⟨b, 4, none⟩ = some (.int .u64 (f 4)) := by
  unfold Set5 at h; simp [World.cell?, h]
theorem Set5.cell {w : World} {b : Nat} {f : Nat → Nat} (h : Set5 w b f) {r : Nat} (hr : r < 5) : w.cell? ⟨b, r, none⟩ = some (.int .u64 (f r)) := by
  obtain ⟨h0, h1, h2, h3, h4⟩ := h.five
  rcases (show r = 0 ∨ r = 1 ∨ r = 2 ∨ r = 3 ∨ r = 4 by omega) with rfl | rfl | rfl | rfl | rfl <;> assumption
theorem Set5.free {w : World} {b : Nat} {f : Nat → Nat} (h : Set5 w b f) (m : Nat) : w.frozen? ⟨b, m, none⟩ = false := by
  unfold Set5 at h; simp [World.frozen?, h]
theorem Set5.up {w w' : World} {b B : Nat} {f : Nat → Nat} (h : Set5 w b f) (hb : Below B w w') (hB : b < B) : Set5 w' b f := (hb.block b hB).trans h
theorem Set5.put {w : World} {b : Nat} {f g : Nat → Nat} (h : Set5 w b f) {r x : Nat} (hr : r < 5) (h1 : g r = x) (h2 : ∀ i, i < 5 → i ≠ r → g i = f i) : Set5 (w.setCell ⟨b, r, none⟩ (.int .u64 x)) b g := by
  unfold Set5 at h ⊢
  rw [heap_setCell_same w b r _ _ _ h]
  rcases (show r = 0 ∨ r = 1 ∨ r = 2 ∨ r = 3 ∨ r = 4 by omega) with rfl | rfl | rfl | rfl | rfl
  · rw [← h1, h2 1 (by omega) (by omega), h2 2 (by omega) (by omega), h2 3 (by omega) (by omega), h2 4 (by omega) (by omega)]; simp
  · rw [← h1, h2 0 (by omega) (by omega), h2 2 (by omega) (by omega), h2 3 (by omega) (by omega), h2 4 (by omega) (by omega)]; simp
  · rw [← h1, h2 0 (by omega) (by omega), h2 1 (by omega) (by omega), h2 3 (by omega) (by omega), h2 4 (by omega) (by omega)]; simp
  · rw [← h1, h2 0 (by omega) (by omega), h2 1 (by omega) (by omega), h2 2 (by omega) (by omega), h2 4 (by omega) (by omega)]; simp
  · rw [← h1, h2 0 (by omega) (by omega), h2 1 (by omega) (by omega), h2 2 (by omega) (by omega), h2 3 (by omega) (by omega)]; simp

theorem Set5.fill {w : World} {b : Nat} {f : Nat → Nat} (h : Set5 w b f) (g : Nat → Nat) :
    Set5 (((((w.setCell ⟨b, 0, none⟩ (.int .u64 (g 0))).setCell ⟨b, 1, none⟩ (.int .u64 (g 1))).setCell ⟨b, 2, none⟩ (.int .u64 (g 2))).setCell ⟨b, 3, none⟩ (.int .u64 (g 3))).setCell ⟨b, 4, none⟩ (.int .u64 (g 4))) b g := by
  unfold Set5 at h ⊢
  rw [heap_setCell_same _ b 4 _ _ _ (heap_setCell_same _ b 3 _ _ _ (heap_setCell_same _ b 2 _ _ _ (heap_setCell_same _ b 1 _ _ _ (heap_setCell_same w b 0 _ _ _ h))))]
  simp

theorem set_res (tm : Array Value) (w : World) (b : Nat) (g : Nat → Nat) (q : Bool) (h2 : tm[2]? = some (.pointer (some ⟨b, 0, none⟩))) (h3 : tm[3]? = some (.bool q)) (h : Set5 w b g) :
    (results Tryd.f31 tm).run Tryd.prog w = .ok (.tuple #[setV g, .bool q]) w := by
  obtain ⟨t0, t1, t2, t3, t4⟩ := h.five
  simp [results, Tryd.results31, go_sem, setV, h2, h3, t0, t1, t2, t3, t4]

theorem Set5.other {w : World} {b : Nat} {f : Nat → Nat} (h : Set5 w b f) (c o : Nat) (v : Value) (hne : b ≠ c) : Set5 (w.setCell ⟨c, o, none⟩ v) b f := by
  unfold Set5 at h ⊢
  rw [heap_setCell_other w ⟨c, o, none⟩ b v hne]; exact h

/-- What idSetOf leaves. -/
def SetPost (L : List Pid) (w : World) (e : Ending) (w' : World) : Prop :=
  e = .returned (.tuple #[setV (setF L), .bool (srtB L)]) ∧ Below w.heap.size w w'

/-- The loop's relation. -/
def SetRel (L : List Pid) (w : World) (k : Nat) (wr : World) : Prop :=
  Set5 wr (w.heap.size + 1) (mask (L.take k)) ∧ (∀ j, j < k → okP (L.getD j nop) = true) ∧ (∀ j, j + 1 < k → ltP (L.getD j nop) (L.getD (j + 1) nop) = true)

set_option maxRecDepth 100000 in
set_option maxHeartbeats 4000000 in
theorem set_at (b off ca : Nat) (L : List Pid) (w : World) (hb : b < w.heap.size) (hm : L.length ≤ 2000000) (h : ∀ i, i < L.length → w.cell? ⟨b, off + i * 2, none⟩ = some (.int .i64 (L.getD i nop).1) ∧ w.cell? ⟨b, off + i * 2 + 1, none⟩ = some (.int .i64 (L.getD i nop).2)) :
    Calls Tryd.prog 31 #[.slice (some ⟨b, off, none⟩) L.length ca] w (SetPost L w) := by
  have h := Lib.hid h
  obtain ⟨n, hn⟩ : ∃ n, Hid (L.length = n) := ⟨_, Lib.hid rfl⟩
  rw [hn.out] at hm ⊢
  by_cases hl : n ≤ 12
  · have hl' : ¬ 12 < n := by omega
    go_enter Tryd.func31, Tryd.ntmps31
    go_wp2_with fail
    go_loopw [13] (fun i wr => ∃ k : Nat, k ≤ n ∧ i = .int .i64 k ∧ Hid (SetRel L w k wr) ∧ Hid (Set5 wr w.heap.size fun _ => 0) ∧ Below w.heap.size w wr) (fun i _ => n - (intOf i).toNat)
    case atStart => exact ⟨0, Nat.zero_le _, rfl, Lib.hid ⟨heap_alloc_at _ _ _ (by simp), fun j hj => absurd hj (Nat.not_lt_zero _), fun j hj => absurd hj (Nat.not_lt_zero _)⟩, Lib.hid ((Below.heap_alloc _ _ _ (by simp)).trans (heap_alloc_new w _)), ((Below.refl _ _).alloc (Nat.le_refl _) _).alloc (by simp) _⟩
    case round =>
      obtain ⟨k, hk, rfl, hS, hZ, hnx⟩ := hrel
      by_cases hlt : k < n
      · obtain ⟨h0, h1⟩ := h.out k (by rw [hn.out]; exact hlt)
        have q0 := (hnx.cell (p := ⟨b, off + k * 2, none⟩) hb).trans h0
        have q1 := (hnx.cell (p := ⟨b, off + k * 2 + 1, none⟩) hb).trans h1
        clear h0 h1
        obtain ⟨c, hc⟩ : ∃ c, Hid (L.getD k nop = c) := ⟨_, Lib.hid rfl⟩
        rw [hc.out] at q0 q1
        obtain ⟨p, r⟩ := c
        dsimp only at q0 q1
        have sv := ivid_any p r
        obtain ⟨q, hq⟩ : ∃ q, Hid (idB p r = q) := ⟨_, Lib.hid rfl⟩
        rw [hq.out] at sv
        have hz := hZ.out.lt
        have hs := hS.out.1.lt
        have T0 := Lib.hid (Set5.up hZ.out ((Below.refl _ _).alloc (Nat.le_refl _) (.cells #[.int .i64 p, .int .i64 r] 31)) hz)
        have S0 := Lib.hid (Set5.up hS.out.1 ((Below.refl _ _).alloc (Nat.le_refl _) (.cells #[.int .i64 p, .int .i64 r] 31)) hs)
        have A0 := heap_alloc_new wr (.cells #[.int .i64 p, .int .i64 r] 31)
        obtain ⟨a0, a1, _, _⟩ := blk2 A0
        have A0 := Lib.hid A0
        have hnx0 := Lib.hid hnx
        have hnx := Lib.hid (hnx.alloc hnx.size (.cells #[.int .i64 p, .int .i64 r] 31))
        cases q
        · have hR := Lib.hid (srt_bad (by rw [hn.out]; exact hlt) (show okP (L.getD k nop) = false by rw [hc.out]; exact hq.out))
          have hF := Lib.hid (setF_f hR.out)
          clear h hS S0 hZ
          go_upto_region 7 with fail
          refine wp_region_held_drew (S := fun w' => w'.cell? ⟨wr.heap.size, 0, none⟩ = some (.int .i64 p) ∧ w'.cell? ⟨wr.heap.size, 1, none⟩ = some (.int .i64 r) ∧ Below (wr.alloc (.cells #[.int .i64 p, .int .i64 r] 31)).heap.size (wr.alloc (.cells #[.int .i64 p, .int .i64 r] 31)) w') (by kernel_rfl) ⟨a0, a1, Below.drew (Below.refl _ _)⟩ (fun hHeld => ?_)
          refine wpAnyH_take (i := 0) (oi := ⟨some 18, _, _, _, _, _⟩) (v := ?_) rfl (by kernel_rfl) (by kernel_rfl) (by kernel_rfl) (fun _ _ _ h => h) (Or.inl ⟨by rfl, ?_⟩) (by assumption) ?_
          rotate_left 1
          · intro w hSw; (try dsimp only at hSw); go_simp; try (with_reducible rfl)
          try simp only [Act.put, List.setIfInBounds_toArray, List.set_cons_zero, List.set_cons_succ]
          refine wpAnyH_ready (rs := [1]) (by kernel_rfl) (by simp) ?_
          refine AllReadyH.cons (o := ⟨some 19, _, _, _, _, _⟩) rfl (fun K hK => ?_) AllReadyH.nil
          go_simp
          refine (sv _).mono ?_
          rintro e w2 ⟨rfl, hb⟩
          go_wp2_with fail
          refine hK.out _ _ ?_ (fun hHeld2 => ?_)
          · exact ⟨cell_later hb hHeld.1, cell_later hb hHeld.2.1, hHeld.2.2.trans (hb.mono hHeld.2.2.size)⟩
          clear hK K hHeld hb
          have hHeld := hHeld2
          clear hHeld2
          try simp only [Act.put, List.setIfInBounds_toArray, List.set_cons_zero, List.set_cons_succ]
          refine wpAnyH_take (i := 2) (oi := ⟨some 20, _, _, _, _, _⟩) (v := ?_) rfl (by kernel_rfl) (by kernel_rfl) (by kernel_rfl) (fun _ _ _ h => h) (Or.inl ⟨by rfl, ?_⟩) (by assumption) ?_
          rotate_left 1
          · intro w hSw; (try dsimp only at hSw); go_simp; try (with_reducible rfl)
          try simp only [Act.put, List.setIfInBounds_toArray, List.set_cons_zero, List.set_cons_succ]
          refine wpAnyH_take (i := 3) (oi := ⟨some 21, _, _, _, _, _⟩) (v := ?_) rfl (by kernel_rfl) (by kernel_rfl) (by kernel_rfl) (fun _ _ _ h => h) (Or.inl ⟨by rfl, ?_⟩) (by assumption) ?_
          rotate_left 1
          · intro w hSw; (try dsimp only at hSw); go_simp; try (with_reducible rfl)
          try simp only [Act.put, List.setIfInBounds_toArray, List.set_cons_zero, List.set_cons_succ]
          refine wpAnyH_take (i := 4) (oi := ⟨some 22, _, _, _, _, _⟩) (v := undef) rfl (by kernel_rfl) (by kernel_rfl) (by kernel_rfl) (fun _ _ _ h => h) (Or.inr ⟨by rfl, rfl⟩) (by assumption) ?_
          try simp only [Act.put, List.setIfInBounds_toArray, List.set_cons_zero, List.set_cons_succ]
          refine wpAnyH_take (i := 5) (oi := ⟨some 23, _, _, _, _, _⟩) (v := undef) rfl (by kernel_rfl) (by kernel_rfl) (by kernel_rfl) (fun _ _ _ h => h) (Or.inr ⟨by rfl, rfl⟩) (by assumption) ?_
          try simp only [Act.put, List.setIfInBounds_toArray, List.set_cons_zero, List.set_cons_succ]
          refine wpAnyH_take (i := 6) (oi := ⟨some 24, _, _, _, _, _⟩) (v := undef) rfl (by kernel_rfl) (by kernel_rfl) (by kernel_rfl) (fun _ _ _ h => h) (Or.inr ⟨by rfl, rfl⟩) (by assumption) ?_
          try simp only [Act.put, List.setIfInBounds_toArray, List.set_cons_zero, List.set_cons_succ]
          refine wpAnyH_take (i := 7) (oi := ⟨some 25, _, _, _, _, _⟩) (v := undef) rfl (by kernel_rfl) (by kernel_rfl) (by kernel_rfl) (fun _ _ _ h => h) (Or.inr ⟨by rfl, rfl⟩) (by assumption) ?_
          try simp only [Act.put, List.setIfInBounds_toArray, List.set_cons_zero, List.set_cons_succ]
          refine wpAnyH_take (i := 8) (oi := ⟨some 26, _, _, _, _, _⟩) (v := undef) rfl (by kernel_rfl) (by kernel_rfl) (by kernel_rfl) (fun _ _ _ h => h) (Or.inr ⟨by rfl, rfl⟩) (by assumption) ?_
          try simp only [Act.put, List.setIfInBounds_toArray, List.set_cons_zero, List.set_cons_succ]
          refine wpAnyH_take (i := 9) (oi := ⟨some 27, _, _, _, _, _⟩) (v := undef) rfl (by kernel_rfl) (by kernel_rfl) (by kernel_rfl) (fun _ _ _ h => h) (Or.inr ⟨by rfl, rfl⟩) (by assumption) ?_
          try simp only [Act.put, List.setIfInBounds_toArray, List.set_cons_zero, List.set_cons_succ]
          refine wpAnyH_take (i := 10) (oi := ⟨some 28, _, _, _, _, _⟩) (v := undef) rfl (by kernel_rfl) (by kernel_rfl) (by kernel_rfl) (fun _ _ _ h => h) (Or.inr ⟨by rfl, rfl⟩) (by assumption) ?_
          try simp only [Act.put, List.setIfInBounds_toArray, List.set_cons_zero, List.set_cons_succ]
          refine wpAnyH_take (i := 11) (oi := ⟨some 29, _, _, _, _, _⟩) (v := undef) rfl (by kernel_rfl) (by kernel_rfl) (by kernel_rfl) (fun _ _ _ h => h) (Or.inr ⟨by rfl, rfl⟩) (by assumption) ?_
          try simp only [Act.put, List.setIfInBounds_toArray, List.set_cons_zero, List.set_cons_succ]
          refine wpAnyH_take (i := 12) (oi := ⟨some 30, _, _, _, _, _⟩) (v := undef) rfl (by kernel_rfl) (by kernel_rfl) (by kernel_rfl) (fun _ _ _ h => h) (Or.inr ⟨by rfl, rfl⟩) (by assumption) ?_
          try simp only [Act.put, List.setIfInBounds_toArray, List.set_cons_zero, List.set_cons_succ]
          refine wpAnyH_take (i := 13) (oi := ⟨some 31, _, _, _, _, _⟩) (v := undef) rfl (by kernel_rfl) (by kernel_rfl) (by kernel_rfl) (fun _ _ _ h => h) (Or.inr ⟨by rfl, rfl⟩) (by assumption) ?_
          try simp only [Act.put, List.setIfInBounds_toArray, List.set_cons_zero, List.set_cons_succ]
          refine wpAnyH_take (i := 14) (oi := ⟨some 32, _, _, _, _, _⟩) (v := undef) rfl (by kernel_rfl) (by kernel_rfl) (by kernel_rfl) (fun _ _ _ h => h) (Or.inr ⟨by rfl, rfl⟩) (by assumption) ?_
          try simp only [Act.put, List.setIfInBounds_toArray, List.set_cons_zero, List.set_cons_succ]
          refine wpAnyH_take (i := 15) (oi := ⟨some 33, _, _, _, _, _⟩) (v := undef) rfl (by kernel_rfl) (by kernel_rfl) (by kernel_rfl) (fun _ _ _ h => h) (Or.inr ⟨by rfl, rfl⟩) (by assumption) ?_
          try simp only [Act.put, List.setIfInBounds_toArray, List.set_cons_zero, List.set_cons_succ]
          refine wpAnyH_take (i := 16) (oi := ⟨some 34, _, _, _, _, _⟩) (v := ?_) rfl (by kernel_rfl) (by kernel_rfl) (by kernel_rfl) (fun _ _ _ h => h) (Or.inl ⟨by rfl, ?_⟩) (by assumption) ?_
          rotate_left 1
          · intro w hSw; (try dsimp only at hSw); go_simp; try (with_reducible rfl)
          try simp only [Act.put, List.setIfInBounds_toArray, List.set_cons_zero, List.set_cons_succ]
          refine wpAnyH_done (by kernel_rfl) ?_ _
          try simp only [Act.put, List.setIfInBounds_toArray, List.set_cons_zero, List.set_cons_succ]
          have T2 := T0.out.up hHeld.2.2 (by simp; omega)
          have D2 := Lib.hid (hnx.out.trans (hHeld.2.2.mono hnx.out.size))
          obtain ⟨t0, t1, t2, t3, t4⟩ := T2.five
          have f := T2.free
          have f0 := f 0; have f1 := f 1; have f2 := f 2; have f3 := f 3; have f4 := f 4
          clear f hHeld A0 a0 a1 T0
          go_wp2_with fail
          have T3 := Lib.hid (T2.fill (fun _ => 0))
          exact bodyPost_ret (set_res _ _ w.heap.size _ false rfl rfl T3.out) rfl ⟨by rw [hR.out, hF.out], (((((D2.out.setCell (Nat.le_refl _) _).setCell (Nat.le_refl _) _).setCell (Nat.le_refl _) _).setCell (Nat.le_refl _) _).setCell (Nat.le_refl _) _)⟩
        · have hok := hS.out.2.1
          have hadj := hS.out.2.2
          have hokk : okP (L.getD k nop) = true := by rw [hc.out]; exact hq.out
          have hrange := okP_of hokk
          rw [hc.out] at hrange
          dsimp only at hrange
          obtain ⟨g1, g2, g3, g4⟩ := hrange
          have hok' := Lib.hid (up_to hok hokk)
          have hokk := Lib.hid hokk
          have hok := Lib.hid hok
          have hadj := Lib.hid hadj
          obtain ⟨pr, rfl⟩ := Int.eq_ofNat_of_zero_le g1
          obtain ⟨nr, rfl⟩ := Int.eq_ofNat_of_zero_le (show 0 ≤ r by omega)
          by_cases hk0 : k = 0
          · subst hk0
            simp only [Nat.zero_mul, Nat.add_zero] at q0 q1
            have hadj' : Hid (∀ j, j + 1 < 0 + 1 → ltP (L.getD j nop) (L.getD (j + 1) nop) = true) := Lib.hid (fun j hj => absurd hj (by omega))
            go_upto_region 7 with fail
            refine wp_region_held_drew (S := fun w' => w'.cell? ⟨wr.heap.size, 0, none⟩ = some (.int .i64 pr) ∧ w'.cell? ⟨wr.heap.size, 1, none⟩ = some (.int .i64 nr) ∧ Below (wr.alloc (.cells #[.int .i64 pr, .int .i64 nr] 31)).heap.size (wr.alloc (.cells #[.int .i64 pr, .int .i64 nr] 31)) w') (by kernel_rfl) ⟨a0, a1, Below.drew (Below.refl _ _)⟩ (fun hHeld => ?_)
            refine wpAnyH_take (i := 0) (oi := ⟨some 18, _, _, _, _, _⟩) (v := ?_) rfl (by kernel_rfl) (by kernel_rfl) (by kernel_rfl) (fun _ _ _ h => h) (Or.inl ⟨by rfl, ?_⟩) (by assumption) ?_
            rotate_left 1
            · intro w hSw; (try dsimp only at hSw); go_simp; try (with_reducible rfl)
            try simp only [Act.put, List.setIfInBounds_toArray, List.set_cons_zero, List.set_cons_succ]
            refine wpAnyH_ready (rs := [1]) (by kernel_rfl) (by simp) ?_
            refine AllReadyH.cons (o := ⟨some 19, _, _, _, _, _⟩) rfl (fun K hK => ?_) AllReadyH.nil
            go_simp
            refine (sv _).mono ?_
            rintro e w2 ⟨rfl, hb⟩
            go_wp2_with fail
            refine hK.out _ _ ?_ (fun hHeld2 => ?_)
            · exact ⟨cell_later hb hHeld.1, cell_later hb hHeld.2.1, hHeld.2.2.trans (hb.mono hHeld.2.2.size)⟩
            clear hK K hHeld hb
            have hHeld := hHeld2
            clear hHeld2
            try simp only [Act.put, List.setIfInBounds_toArray, List.set_cons_zero, List.set_cons_succ]
            refine wpAnyH_take (i := 2) (oi := ⟨some 20, _, _, _, _, _⟩) (v := ?_) rfl (by kernel_rfl) (by kernel_rfl) (by kernel_rfl) (fun _ _ _ h => h) (Or.inl ⟨by rfl, ?_⟩) (by assumption) ?_
            rotate_left 1
            · intro w hSw; (try dsimp only at hSw); go_simp; try (with_reducible rfl)
            try simp only [Act.put, List.setIfInBounds_toArray, List.set_cons_zero, List.set_cons_succ]
            refine wpAnyH_take (i := 3) (oi := ⟨some 21, _, _, _, _, _⟩) (v := ?_) rfl (by kernel_rfl) (by kernel_rfl) (by kernel_rfl) (fun _ _ _ h => h) (Or.inl ⟨by rfl, ?_⟩) (by assumption) ?_
            rotate_left 1
            · intro w hSw; (try dsimp only at hSw); go_simp; try (with_reducible rfl)
            try simp only [Act.put, List.setIfInBounds_toArray, List.set_cons_zero, List.set_cons_succ]
            refine wpAnyH_take (i := 4) (oi := ⟨some 22, _, _, _, _, _⟩) (v := ?_) rfl (by kernel_rfl) (by kernel_rfl) (by kernel_rfl) (fun _ _ _ h => h) (Or.inl ⟨by rfl, ?_⟩) (by assumption) ?_
            rotate_left 1
            · intro w hSw; (try dsimp only at hSw); go_simp; try (with_reducible rfl)
            try simp only [Act.put, List.setIfInBounds_toArray, List.set_cons_zero, List.set_cons_succ]
            refine wpAnyH_take (i := 5) (oi := ⟨some 23, _, _, _, _, _⟩) (v := ?_) rfl (by kernel_rfl) (by kernel_rfl) (by kernel_rfl) (fun _ _ _ h => h) (Or.inl ⟨by rfl, ?_⟩) (by assumption) ?_
            rotate_left 1
            · intro w hSw; (try dsimp only at hSw); go_simp; try (with_reducible rfl)
            try simp only [Act.put, List.setIfInBounds_toArray, List.set_cons_zero, List.set_cons_succ]
            refine wpAnyH_take (i := 6) (oi := ⟨some 24, _, _, _, _, _⟩) (v := ?_) rfl (by kernel_rfl) (by kernel_rfl) (by kernel_rfl) (fun _ _ _ h => h) (Or.inl ⟨by rfl, ?_⟩) (by assumption) ?_
            rotate_left 1
            · intro w hSw; (try dsimp only at hSw); go_simp; try (with_reducible rfl)
            try simp only [Act.put, List.setIfInBounds_toArray, List.set_cons_zero, List.set_cons_succ]
            refine wpAnyH_take (i := 7) (oi := ⟨some 25, _, _, _, _, _⟩) (v := undef) rfl (by kernel_rfl) (by kernel_rfl) (by kernel_rfl) (fun _ _ _ h => h) (Or.inr ⟨by rfl, rfl⟩) (by assumption) ?_
            try simp only [Act.put, List.setIfInBounds_toArray, List.set_cons_zero, List.set_cons_succ]
            refine wpAnyH_take (i := 8) (oi := ⟨some 26, _, _, _, _, _⟩) (v := undef) rfl (by kernel_rfl) (by kernel_rfl) (by kernel_rfl) (fun _ _ _ h => h) (Or.inr ⟨by rfl, rfl⟩) (by assumption) ?_
            try simp only [Act.put, List.setIfInBounds_toArray, List.set_cons_zero, List.set_cons_succ]
            refine wpAnyH_take (i := 9) (oi := ⟨some 27, _, _, _, _, _⟩) (v := undef) rfl (by kernel_rfl) (by kernel_rfl) (by kernel_rfl) (fun _ _ _ h => h) (Or.inr ⟨by rfl, rfl⟩) (by assumption) ?_
            try simp only [Act.put, List.setIfInBounds_toArray, List.set_cons_zero, List.set_cons_succ]
            refine wpAnyH_take (i := 10) (oi := ⟨some 28, _, _, _, _, _⟩) (v := undef) rfl (by kernel_rfl) (by kernel_rfl) (by kernel_rfl) (fun _ _ _ h => h) (Or.inr ⟨by rfl, rfl⟩) (by assumption) ?_
            try simp only [Act.put, List.setIfInBounds_toArray, List.set_cons_zero, List.set_cons_succ]
            refine wpAnyH_take (i := 11) (oi := ⟨some 29, _, _, _, _, _⟩) (v := undef) rfl (by kernel_rfl) (by kernel_rfl) (by kernel_rfl) (fun _ _ _ h => h) (Or.inr ⟨by rfl, rfl⟩) (by assumption) ?_
            try simp only [Act.put, List.setIfInBounds_toArray, List.set_cons_zero, List.set_cons_succ]
            refine wpAnyH_take (i := 12) (oi := ⟨some 30, _, _, _, _, _⟩) (v := undef) rfl (by kernel_rfl) (by kernel_rfl) (by kernel_rfl) (fun _ _ _ h => h) (Or.inr ⟨by rfl, rfl⟩) (by assumption) ?_
            try simp only [Act.put, List.setIfInBounds_toArray, List.set_cons_zero, List.set_cons_succ]
            refine wpAnyH_take (i := 13) (oi := ⟨some 31, _, _, _, _, _⟩) (v := undef) rfl (by kernel_rfl) (by kernel_rfl) (by kernel_rfl) (fun _ _ _ h => h) (Or.inr ⟨by rfl, rfl⟩) (by assumption) ?_
            try simp only [Act.put, List.setIfInBounds_toArray, List.set_cons_zero, List.set_cons_succ]
            refine wpAnyH_take (i := 14) (oi := ⟨some 32, _, _, _, _, _⟩) (v := undef) rfl (by kernel_rfl) (by kernel_rfl) (by kernel_rfl) (fun _ _ _ h => h) (Or.inr ⟨by rfl, rfl⟩) (by assumption) ?_
            try simp only [Act.put, List.setIfInBounds_toArray, List.set_cons_zero, List.set_cons_succ]
            refine wpAnyH_take (i := 15) (oi := ⟨some 33, _, _, _, _, _⟩) (v := ?_) rfl (by kernel_rfl) (by kernel_rfl) (by kernel_rfl) (fun _ _ _ h => h) (Or.inl ⟨by rfl, ?_⟩) (by assumption) ?_
            rotate_left 1
            · intro w hSw; (try dsimp only at hSw); go_simp; try (with_reducible rfl)
            try simp only [Act.put, List.setIfInBounds_toArray, List.set_cons_zero, List.set_cons_succ]
            refine wpAnyH_take (i := 16) (oi := ⟨some 34, _, _, _, _, _⟩) (v := ?_) rfl (by kernel_rfl) (by kernel_rfl) (by kernel_rfl) (fun _ _ _ h => h) (Or.inl ⟨by rfl, ?_⟩) (by assumption) ?_
            rotate_left 1
            · intro w hSw; (try dsimp only at hSw); go_simp; try (with_reducible rfl)
            try simp only [Act.put, List.setIfInBounds_toArray, List.set_cons_zero, List.set_cons_succ]
            refine wpAnyH_done (by kernel_rfl) ?_ _
            try simp only [Act.put, List.setIfInBounds_toArray, List.set_cons_zero, List.set_cons_succ]
            have T2 := Lib.hid (T0.out.up hHeld.2.2 (by simp; omega))
            have S2 := S0.out.up hHeld.2.2 (by simp; omega)
            have D2 := Lib.hid (hnx.out.trans (hHeld.2.2.mono hnx.out.size))
            obtain ⟨a0, a1, _⟩ := hHeld
            have c0 := S2.cell (r := pr) (by omega)
            have f0 := S2.free pr
            have hlt2 : mask (L.take 0) pr < 2251799813685248 := mask_lt (take_all 0 hok.out (by rw [hn.out]; omega)) pr
            obtain ⟨m, hm2⟩ : ∃ m, Hid (mask (L.take 0) pr = m) := ⟨_, Lib.hid rfl⟩
            rw [hm2.out] at c0 hlt2
            have ad := add_at (w.heap.size + 1) 0 pr nr m
            simp only [Nat.zero_add] at ad
            have S2 := Lib.hid S2
            clear A0 T0 S0
            go_wp2_with fail
            refine (ad _ (by omega) (by omega) S2.out.lt c0 f0 hlt2).mono ?_
            rintro e w9 ⟨rfl, w8, hb8, rfl⟩
            have hnext : Hid (Set5 (w8.setCell ⟨w.heap.size + 1, pr, none⟩ (.int .u64 ((m ||| 2 ^ nr : Nat) : Int))) (w.heap.size + 1) (mask (L.take (0 + 1)))) := Lib.hid ((S2.out.up hb8 S2.out.lt).put (by omega) (by rw [mask_take (by rw [hn.out]; omega), hc.out, if_pos rfl, hm2.out]; rfl) (fun i hi hne => by rw [mask_take (by rw [hn.out]; omega), hc.out, if_neg (fun e => hne (by have : (pr : Int) = (i : Int) := e; omega))]))
            have T3 := Lib.hid (Set5.other (T2.out.up hb8 T2.out.lt) (w.heap.size + 1) pr (.int .u64 ((m ||| 2 ^ nr : Nat) : Int)) (by omega))
            have D3 := Lib.hid ((bstep D2.out hb8).setCell (p := ⟨w.heap.size + 1, pr, none⟩) (Nat.le_succ _) (.int .u64 ((m ||| 2 ^ nr : Nat) : Int)))
            generalize m ||| 2 ^ nr = y at hnext T3 D3
            clear S2 hb8 hlt2 c0 f0 ad
            go_wp2_with fail
            go_roundw
            case rel => exact ⟨0 + 1, by omega, by go_num, Lib.hid ⟨hnext.out, hok'.out, hadj'.out⟩, Lib.hid T3.out, D3.out⟩
            case measure => simp [intOf]; omega
          · obtain ⟨j, rfl⟩ : ∃ j, k = j + 1 := ⟨k - 1, by omega⟩
            obtain ⟨h0, h1⟩ := h.out j (by rw [hn.out]; omega)
            have hD := (hnx.out.cell (p := ⟨b, off + j * 2, none⟩) hb).trans h0
            have hE := (hnx.out.cell (p := ⟨b, off + j * 2 + 1, none⟩) hb).trans h1
            obtain ⟨c', hc'⟩ : ∃ c', Hid (L.getD j nop = c') := ⟨_, Lib.hid rfl⟩
            rw [hc'.out] at hD hE
            obtain ⟨p', r'⟩ := c'
            have b0 : (wr.alloc (.cells #[.int .i64 pr, .int .i64 nr] 31)).cell? ⟨b, off + j * 2, none⟩ = some (.int .i64 p') := hD
            have b1 : (wr.alloc (.cells #[.int .i64 pr, .int .i64 nr] 31)).cell? ⟨b, off + j * 2 + 1, none⟩ = some (.int .i64 r') := hE
            have sc := cmpI_any p' r' pr nr
            have hcmp := cmpI_neg p' r' pr nr
            obtain ⟨x, hx⟩ : ∃ x, Hid (cmpI p' r' pr nr = x) := ⟨_, Lib.hid rfl⟩
            rw [hx.out] at sc hcmp
            have hadd : ltP (L.getD j nop) (L.getD (j + 1) nop) = decide (x < 0) := by rw [hc'.out, hc.out, hcmp]; rfl
            have hadd := Lib.hid hadd
            have i0 : (0 : Int) ≤ (j : Int) := by omega
            have i1 : (j : Int) < (n : Int) := by omega
            have i2 : (j : Int) ≤ (n : Int) := by omega
            have e0 : (0 : Int) ≤ (j : Int) + 1 := by omega
            have e1 : (j : Int) + 1 < (n : Int) := by omega
            have e2 : (j : Int) + 1 ≤ (n : Int) := by omega
            have d3 : IntKind.i64.wrap (j : Int) = (j : Int) := IntWalk.i64_in _ (by omega)
            have d2 : IntKind.i64.wrap ((j : Int) + 1 - 1) = (j : Int) := by rw [show (j : Int) + 1 - 1 = j by omega]; exact d3
            have c3 : ((j : Int) + 1).toNat = j + 1 := by omega
            clear h0 h1 hD hE hcmp
            by_cases hneg : x < 0
            · have hadj' : Hid (∀ i, i + 1 < j + 1 + 1 → ltP (L.getD i nop) (L.getD (i + 1) nop) = true) := Lib.hid (fun i hi => by
                rcases Nat.lt_or_ge (i + 1) (j + 1) with h' | h'
                · exact hadj.out i h'
                · obtain rfl : i = j := by omega
                  rw [hadd.out]; exact decide_eq_true hneg)
              have hn0 : ¬ (0 : Int) ≤ x := by omega
              go_upto_region 7 with fail
              refine wp_region_held_drew (S := fun w' => w'.cell? ⟨wr.heap.size, 0, none⟩ = some (.int .i64 pr) ∧ w'.cell? ⟨wr.heap.size, 1, none⟩ = some (.int .i64 nr) ∧ w'.cell? ⟨b, off + j * 2, none⟩ = some (.int .i64 p') ∧ w'.cell? ⟨b, off + j * 2 + 1, none⟩ = some (.int .i64 r') ∧ Below (wr.alloc (.cells #[.int .i64 pr, .int .i64 nr] 31)).heap.size (wr.alloc (.cells #[.int .i64 pr, .int .i64 nr] 31)) w') (by kernel_rfl) ⟨a0, a1, b0, b1, Below.drew (Below.refl _ _)⟩ (fun hHeld => ?_)
              refine wpAnyH_take (i := 0) (oi := ⟨some 18, _, _, _, _, _⟩) (v := ?_) rfl (by kernel_rfl) (by kernel_rfl) (by kernel_rfl) (fun _ _ _ h => h) (Or.inl ⟨by rfl, ?_⟩) (by assumption) ?_
              rotate_left 1
              · intro w hSw; (try dsimp only at hSw); go_simp; try (with_reducible rfl)
              try simp only [Act.put, List.setIfInBounds_toArray, List.set_cons_zero, List.set_cons_succ]
              refine wpAnyH_ready (rs := [1]) (by kernel_rfl) (by simp) ?_
              refine AllReadyH.cons (o := ⟨some 19, _, _, _, _, _⟩) rfl (fun K hK => ?_) AllReadyH.nil
              go_simp
              refine (sv _).mono ?_
              rintro e w2 ⟨rfl, hb⟩
              go_wp2_with fail
              refine hK.out _ _ ?_ (fun hHeld2 => ?_)
              · exact ⟨cell_later hb hHeld.1, cell_later hb hHeld.2.1, cell_later hb hHeld.2.2.1, cell_later hb hHeld.2.2.2.1, hHeld.2.2.2.2.trans (hb.mono hHeld.2.2.2.2.size)⟩
              clear hK K hHeld hb
              have hHeld := hHeld2
              clear hHeld2
              try simp only [Act.put, List.setIfInBounds_toArray, List.set_cons_zero, List.set_cons_succ]
              refine wpAnyH_take (i := 2) (oi := ⟨some 20, _, _, _, _, _⟩) (v := ?_) rfl (by kernel_rfl) (by kernel_rfl) (by kernel_rfl) (fun _ _ _ h => h) (Or.inl ⟨by rfl, ?_⟩) (by assumption) ?_
              rotate_left 1
              · intro w hSw; (try dsimp only at hSw); go_simp; try (with_reducible rfl)
              try simp only [Act.put, List.setIfInBounds_toArray, List.set_cons_zero, List.set_cons_succ]
              refine wpAnyH_take (i := 3) (oi := ⟨some 21, _, _, _, _, _⟩) (v := ?_) rfl (by kernel_rfl) (by kernel_rfl) (by kernel_rfl) (fun _ _ _ h => h) (Or.inl ⟨by rfl, ?_⟩) (by assumption) ?_
              rotate_left 1
              · intro w hSw; (try dsimp only at hSw); go_simp; try (with_reducible rfl)
              try simp only [Act.put, List.setIfInBounds_toArray, List.set_cons_zero, List.set_cons_succ]
              refine wpAnyH_take (i := 4) (oi := ⟨some 22, _, _, _, _, _⟩) (v := ?_) rfl (by kernel_rfl) (by kernel_rfl) (by kernel_rfl) (fun _ _ _ h => h) (Or.inl ⟨by rfl, ?_⟩) (by assumption) ?_
              rotate_left 1
              · intro w hSw; (try dsimp only at hSw); go_simp; try (with_reducible rfl)
              try simp only [Act.put, List.setIfInBounds_toArray, List.set_cons_zero, List.set_cons_succ]
              refine wpAnyH_take (i := 5) (oi := ⟨some 23, _, _, _, _, _⟩) (v := ?_) rfl (by kernel_rfl) (by kernel_rfl) (by kernel_rfl) (fun _ _ _ h => h) (Or.inl ⟨by rfl, ?_⟩) (by assumption) ?_
              rotate_left 1
              · intro w hSw; (try dsimp only at hSw); go_simp; try (with_reducible rfl)
              try simp only [Act.put, List.setIfInBounds_toArray, List.set_cons_zero, List.set_cons_succ]
              refine wpAnyH_take (i := 6) (oi := ⟨some 24, _, _, _, _, _⟩) (v := ?_) rfl (by kernel_rfl) (by kernel_rfl) (by kernel_rfl) (fun _ _ _ h => h) (Or.inl ⟨by rfl, ?_⟩) (by assumption) ?_
              rotate_left 1
              · intro w hSw; (try dsimp only at hSw); go_simp; try (with_reducible rfl)
              try simp only [Act.put, List.setIfInBounds_toArray, List.set_cons_zero, List.set_cons_succ]
              refine wpAnyH_take (i := 7) (oi := ⟨some 25, _, _, _, _, _⟩) (v := ?_) rfl (by kernel_rfl) (by kernel_rfl) (by kernel_rfl) (fun _ _ _ h => h) (Or.inl ⟨by rfl, ?_⟩) (by assumption) ?_
              rotate_left 1
              · intro w hSw; (try dsimp only at hSw); go_simp; try (with_reducible rfl)
              try simp only [Act.put, List.setIfInBounds_toArray, List.set_cons_zero, List.set_cons_succ]
              refine wpAnyH_take (i := 8) (oi := ⟨some 26, _, _, _, _, _⟩) (v := ?_) rfl (by kernel_rfl) (by kernel_rfl) (by kernel_rfl) (fun _ _ _ h => h) (Or.inl ⟨by rfl, ?_⟩) (by assumption) ?_
              rotate_left 1
              · intro w hSw; (try dsimp only at hSw); go_simp; try (with_reducible rfl)
              try simp only [Act.put, List.setIfInBounds_toArray, List.set_cons_zero, List.set_cons_succ]
              refine wpAnyH_take (i := 9) (oi := ⟨some 27, _, _, _, _, _⟩) (v := ?_) rfl (by kernel_rfl) (by kernel_rfl) (by kernel_rfl) (fun _ _ _ h => h) (Or.inl ⟨by rfl, ?_⟩) (by assumption) ?_
              rotate_left 1
              · intro w hSw; (try dsimp only at hSw); go_simp; try (with_reducible rfl)
              try simp only [Act.put, List.setIfInBounds_toArray, List.set_cons_zero, List.set_cons_succ]
              refine wpAnyH_take (i := 10) (oi := ⟨some 28, _, _, _, _, _⟩) (v := ?_) rfl (by kernel_rfl) (by kernel_rfl) (by kernel_rfl) (fun _ _ _ h => h) (Or.inl ⟨by rfl, ?_⟩) (by assumption) ?_
              rotate_left 1
              · intro w hSw; (try dsimp only at hSw); go_simp; try (with_reducible rfl)
              try simp only [Act.put, List.setIfInBounds_toArray, List.set_cons_zero, List.set_cons_succ]
              refine wpAnyH_take (i := 11) (oi := ⟨some 29, _, _, _, _, _⟩) (v := ?_) rfl (by kernel_rfl) (by kernel_rfl) (by kernel_rfl) (fun _ _ _ h => h) (Or.inl ⟨by rfl, ?_⟩) (by assumption) ?_
              rotate_left 1
              · intro w hSw; (try dsimp only at hSw); go_simp; try (with_reducible rfl)
              try simp only [Act.put, List.setIfInBounds_toArray, List.set_cons_zero, List.set_cons_succ]
              refine wpAnyH_take (i := 12) (oi := ⟨some 30, _, _, _, _, _⟩) (v := ?_) rfl (by kernel_rfl) (by kernel_rfl) (by kernel_rfl) (fun _ _ _ h => h) (Or.inl ⟨by rfl, ?_⟩) (by assumption) ?_
              rotate_left 1
              · intro w hSw; (try dsimp only at hSw); go_simp; try (with_reducible rfl)
              try simp only [Act.put, List.setIfInBounds_toArray, List.set_cons_zero, List.set_cons_succ]
              refine wpAnyH_ready (rs := [13]) (by kernel_rfl) (by simp) ?_
              refine AllReadyH.cons (o := ⟨some 31, _, _, _, _, _⟩) rfl (fun K hK => ?_) AllReadyH.nil
              go_simp
              refine (sc _).mono ?_
              rintro e w3 ⟨rfl, hb⟩
              go_wp2_with fail
              refine hK.out _ _ ?_ (fun hHeld2 => ?_)
              · exact ⟨cell_later hb hHeld.1, cell_later hb hHeld.2.1, cell_later hb hHeld.2.2.1, cell_later hb hHeld.2.2.2.1, hHeld.2.2.2.2.trans (hb.mono hHeld.2.2.2.2.size)⟩
              clear hK K hHeld hb
              have hHeld := hHeld2
              clear hHeld2
              try simp only [Act.put, List.setIfInBounds_toArray, List.set_cons_zero, List.set_cons_succ]
              refine wpAnyH_take (i := 14) (oi := ⟨some 32, _, _, _, _, _⟩) (v := ?_) rfl (by kernel_rfl) (by kernel_rfl) (by kernel_rfl) (fun _ _ _ h => h) (Or.inl ⟨by rfl, ?_⟩) (by assumption) ?_
              rotate_left 1
              · intro w hSw; (try dsimp only at hSw); go_simp; try (with_reducible rfl)
              try simp only [Act.put, List.setIfInBounds_toArray, List.set_cons_zero, List.set_cons_succ]
              refine wpAnyH_take (i := 15) (oi := ⟨some 33, _, _, _, _, _⟩) (v := ?_) rfl (by kernel_rfl) (by kernel_rfl) (by kernel_rfl) (fun _ _ _ h => h) (Or.inl ⟨by rfl, ?_⟩) (by assumption) ?_
              rotate_left 1
              · intro w hSw; (try dsimp only at hSw); go_simp; try (with_reducible rfl)
              try simp only [Act.put, List.setIfInBounds_toArray, List.set_cons_zero, List.set_cons_succ]
              refine wpAnyH_take (i := 16) (oi := ⟨some 34, _, _, _, _, _⟩) (v := ?_) rfl (by kernel_rfl) (by kernel_rfl) (by kernel_rfl) (fun _ _ _ h => h) (Or.inl ⟨by rfl, ?_⟩) (by assumption) ?_
              rotate_left 1
              · intro w hSw; (try dsimp only at hSw); go_simp; try (with_reducible rfl)
              try simp only [Act.put, List.setIfInBounds_toArray, List.set_cons_zero, List.set_cons_succ]
              refine wpAnyH_done (by kernel_rfl) ?_ _
              try simp only [Act.put, List.setIfInBounds_toArray, List.set_cons_zero, List.set_cons_succ]
              have T2 := Lib.hid (T0.out.up hHeld.2.2.2.2 (by simp; omega))
              have S2 := S0.out.up hHeld.2.2.2.2 (by simp; omega)
              have D2 := Lib.hid (hnx.out.trans (hHeld.2.2.2.2.mono hnx.out.size))
              obtain ⟨a0, a1, _⟩ := hHeld
              have c0 := S2.cell (r := pr) (by omega)
              have f0 := S2.free pr
              have hlt2 : mask (L.take (j + 1)) pr < 2251799813685248 := mask_lt (take_all (j + 1) hok.out (by rw [hn.out]; omega)) pr
              obtain ⟨m, hm2⟩ : ∃ m, Hid (mask (L.take (j + 1)) pr = m) := ⟨_, Lib.hid rfl⟩
              rw [hm2.out] at c0 hlt2
              have ad := add_at (w.heap.size + 1) 0 pr nr m
              simp only [Nat.zero_add] at ad
              have S2 := Lib.hid S2
              clear A0 T0 S0
              go_wp2_with fail
              refine (ad _ (by omega) (by omega) S2.out.lt c0 f0 hlt2).mono ?_
              rintro e w9 ⟨rfl, w8, hb8, rfl⟩
              have hnext : Hid (Set5 (w8.setCell ⟨w.heap.size + 1, pr, none⟩ (.int .u64 ((m ||| 2 ^ nr : Nat) : Int))) (w.heap.size + 1) (mask (L.take ((j + 1) + 1)))) := Lib.hid ((S2.out.up hb8 S2.out.lt).put (by omega) (by rw [mask_take (by rw [hn.out]; omega), hc.out, if_pos rfl, hm2.out]; rfl) (fun i hi hne => by rw [mask_take (by rw [hn.out]; omega), hc.out, if_neg (fun e => hne (by have : (pr : Int) = (i : Int) := e; omega))]))
              have T3 := Lib.hid (Set5.other (T2.out.up hb8 T2.out.lt) (w.heap.size + 1) pr (.int .u64 ((m ||| 2 ^ nr : Nat) : Int)) (by omega))
              have D3 := Lib.hid ((bstep D2.out hb8).setCell (p := ⟨w.heap.size + 1, pr, none⟩) (Nat.le_succ _) (.int .u64 ((m ||| 2 ^ nr : Nat) : Int)))
              generalize m ||| 2 ^ nr = y at hnext T3 D3
              clear S2 hb8 hlt2 c0 f0 ad
              go_wp2_with fail
              go_roundw
              case rel => exact ⟨(j + 1) + 1, by omega, by go_num, Lib.hid ⟨hnext.out, hok'.out, hadj'.out⟩, Lib.hid T3.out, D3.out⟩
              case measure => simp [intOf]; omega
            · have hR := Lib.hid (srt_turn (L := L) (k := j) (by rw [hn.out]; omega) (by rw [hadd.out]; exact decide_eq_false hneg))
              have hF := Lib.hid (setF_f hR.out)
              have hn0 : (0 : Int) ≤ x := by omega
              clear h hS S0 hZ
              go_upto_region 7 with fail
              refine wp_region_held_drew (S := fun w' => w'.cell? ⟨wr.heap.size, 0, none⟩ = some (.int .i64 pr) ∧ w'.cell? ⟨wr.heap.size, 1, none⟩ = some (.int .i64 nr) ∧ w'.cell? ⟨b, off + j * 2, none⟩ = some (.int .i64 p') ∧ w'.cell? ⟨b, off + j * 2 + 1, none⟩ = some (.int .i64 r') ∧ Below (wr.alloc (.cells #[.int .i64 pr, .int .i64 nr] 31)).heap.size (wr.alloc (.cells #[.int .i64 pr, .int .i64 nr] 31)) w') (by kernel_rfl) ⟨a0, a1, b0, b1, Below.drew (Below.refl _ _)⟩ (fun hHeld => ?_)
              refine wpAnyH_take (i := 0) (oi := ⟨some 18, _, _, _, _, _⟩) (v := ?_) rfl (by kernel_rfl) (by kernel_rfl) (by kernel_rfl) (fun _ _ _ h => h) (Or.inl ⟨by rfl, ?_⟩) (by assumption) ?_
              rotate_left 1
              · intro w hSw; (try dsimp only at hSw); go_simp; try (with_reducible rfl)
              try simp only [Act.put, List.setIfInBounds_toArray, List.set_cons_zero, List.set_cons_succ]
              refine wpAnyH_ready (rs := [1]) (by kernel_rfl) (by simp) ?_
              refine AllReadyH.cons (o := ⟨some 19, _, _, _, _, _⟩) rfl (fun K hK => ?_) AllReadyH.nil
              go_simp
              refine (sv _).mono ?_
              rintro e w2 ⟨rfl, hb⟩
              go_wp2_with fail
              refine hK.out _ _ ?_ (fun hHeld2 => ?_)
              · exact ⟨cell_later hb hHeld.1, cell_later hb hHeld.2.1, cell_later hb hHeld.2.2.1, cell_later hb hHeld.2.2.2.1, hHeld.2.2.2.2.trans (hb.mono hHeld.2.2.2.2.size)⟩
              clear hK K hHeld hb
              have hHeld := hHeld2
              clear hHeld2
              try simp only [Act.put, List.setIfInBounds_toArray, List.set_cons_zero, List.set_cons_succ]
              refine wpAnyH_take (i := 2) (oi := ⟨some 20, _, _, _, _, _⟩) (v := ?_) rfl (by kernel_rfl) (by kernel_rfl) (by kernel_rfl) (fun _ _ _ h => h) (Or.inl ⟨by rfl, ?_⟩) (by assumption) ?_
              rotate_left 1
              · intro w hSw; (try dsimp only at hSw); go_simp; try (with_reducible rfl)
              try simp only [Act.put, List.setIfInBounds_toArray, List.set_cons_zero, List.set_cons_succ]
              refine wpAnyH_take (i := 3) (oi := ⟨some 21, _, _, _, _, _⟩) (v := ?_) rfl (by kernel_rfl) (by kernel_rfl) (by kernel_rfl) (fun _ _ _ h => h) (Or.inl ⟨by rfl, ?_⟩) (by assumption) ?_
              rotate_left 1
              · intro w hSw; (try dsimp only at hSw); go_simp; try (with_reducible rfl)
              try simp only [Act.put, List.setIfInBounds_toArray, List.set_cons_zero, List.set_cons_succ]
              refine wpAnyH_take (i := 4) (oi := ⟨some 22, _, _, _, _, _⟩) (v := ?_) rfl (by kernel_rfl) (by kernel_rfl) (by kernel_rfl) (fun _ _ _ h => h) (Or.inl ⟨by rfl, ?_⟩) (by assumption) ?_
              rotate_left 1
              · intro w hSw; (try dsimp only at hSw); go_simp; try (with_reducible rfl)
              try simp only [Act.put, List.setIfInBounds_toArray, List.set_cons_zero, List.set_cons_succ]
              refine wpAnyH_take (i := 5) (oi := ⟨some 23, _, _, _, _, _⟩) (v := ?_) rfl (by kernel_rfl) (by kernel_rfl) (by kernel_rfl) (fun _ _ _ h => h) (Or.inl ⟨by rfl, ?_⟩) (by assumption) ?_
              rotate_left 1
              · intro w hSw; (try dsimp only at hSw); go_simp; try (with_reducible rfl)
              try simp only [Act.put, List.setIfInBounds_toArray, List.set_cons_zero, List.set_cons_succ]
              refine wpAnyH_take (i := 6) (oi := ⟨some 24, _, _, _, _, _⟩) (v := ?_) rfl (by kernel_rfl) (by kernel_rfl) (by kernel_rfl) (fun _ _ _ h => h) (Or.inl ⟨by rfl, ?_⟩) (by assumption) ?_
              rotate_left 1
              · intro w hSw; (try dsimp only at hSw); go_simp; try (with_reducible rfl)
              try simp only [Act.put, List.setIfInBounds_toArray, List.set_cons_zero, List.set_cons_succ]
              refine wpAnyH_take (i := 7) (oi := ⟨some 25, _, _, _, _, _⟩) (v := ?_) rfl (by kernel_rfl) (by kernel_rfl) (by kernel_rfl) (fun _ _ _ h => h) (Or.inl ⟨by rfl, ?_⟩) (by assumption) ?_
              rotate_left 1
              · intro w hSw; (try dsimp only at hSw); go_simp; try (with_reducible rfl)
              try simp only [Act.put, List.setIfInBounds_toArray, List.set_cons_zero, List.set_cons_succ]
              refine wpAnyH_take (i := 8) (oi := ⟨some 26, _, _, _, _, _⟩) (v := ?_) rfl (by kernel_rfl) (by kernel_rfl) (by kernel_rfl) (fun _ _ _ h => h) (Or.inl ⟨by rfl, ?_⟩) (by assumption) ?_
              rotate_left 1
              · intro w hSw; (try dsimp only at hSw); go_simp; try (with_reducible rfl)
              try simp only [Act.put, List.setIfInBounds_toArray, List.set_cons_zero, List.set_cons_succ]
              refine wpAnyH_take (i := 9) (oi := ⟨some 27, _, _, _, _, _⟩) (v := ?_) rfl (by kernel_rfl) (by kernel_rfl) (by kernel_rfl) (fun _ _ _ h => h) (Or.inl ⟨by rfl, ?_⟩) (by assumption) ?_
              rotate_left 1
              · intro w hSw; (try dsimp only at hSw); go_simp; try (with_reducible rfl)
              try simp only [Act.put, List.setIfInBounds_toArray, List.set_cons_zero, List.set_cons_succ]
              refine wpAnyH_take (i := 10) (oi := ⟨some 28, _, _, _, _, _⟩) (v := ?_) rfl (by kernel_rfl) (by kernel_rfl) (by kernel_rfl) (fun _ _ _ h => h) (Or.inl ⟨by rfl, ?_⟩) (by assumption) ?_
              rotate_left 1
              · intro w hSw; (try dsimp only at hSw); go_simp; try (with_reducible rfl)
              try simp only [Act.put, List.setIfInBounds_toArray, List.set_cons_zero, List.set_cons_succ]
              refine wpAnyH_take (i := 11) (oi := ⟨some 29, _, _, _, _, _⟩) (v := ?_) rfl (by kernel_rfl) (by kernel_rfl) (by kernel_rfl) (fun _ _ _ h => h) (Or.inl ⟨by rfl, ?_⟩) (by assumption) ?_
              rotate_left 1
              · intro w hSw; (try dsimp only at hSw); go_simp; try (with_reducible rfl)
              try simp only [Act.put, List.setIfInBounds_toArray, List.set_cons_zero, List.set_cons_succ]
              refine wpAnyH_take (i := 12) (oi := ⟨some 30, _, _, _, _, _⟩) (v := ?_) rfl (by kernel_rfl) (by kernel_rfl) (by kernel_rfl) (fun _ _ _ h => h) (Or.inl ⟨by rfl, ?_⟩) (by assumption) ?_
              rotate_left 1
              · intro w hSw; (try dsimp only at hSw); go_simp; try (with_reducible rfl)
              try simp only [Act.put, List.setIfInBounds_toArray, List.set_cons_zero, List.set_cons_succ]
              refine wpAnyH_ready (rs := [13]) (by kernel_rfl) (by simp) ?_
              refine AllReadyH.cons (o := ⟨some 31, _, _, _, _, _⟩) rfl (fun K hK => ?_) AllReadyH.nil
              go_simp
              refine (sc _).mono ?_
              rintro e w3 ⟨rfl, hb⟩
              go_wp2_with fail
              refine hK.out _ _ ?_ (fun hHeld2 => ?_)
              · exact ⟨cell_later hb hHeld.1, cell_later hb hHeld.2.1, cell_later hb hHeld.2.2.1, cell_later hb hHeld.2.2.2.1, hHeld.2.2.2.2.trans (hb.mono hHeld.2.2.2.2.size)⟩
              clear hK K hHeld hb
              have hHeld := hHeld2
              clear hHeld2
              try simp only [Act.put, List.setIfInBounds_toArray, List.set_cons_zero, List.set_cons_succ]
              refine wpAnyH_take (i := 14) (oi := ⟨some 32, _, _, _, _, _⟩) (v := ?_) rfl (by kernel_rfl) (by kernel_rfl) (by kernel_rfl) (fun _ _ _ h => h) (Or.inl ⟨by rfl, ?_⟩) (by assumption) ?_
              rotate_left 1
              · intro w hSw; (try dsimp only at hSw); go_simp; try (with_reducible rfl)
              try simp only [Act.put, List.setIfInBounds_toArray, List.set_cons_zero, List.set_cons_succ]
              refine wpAnyH_take (i := 15) (oi := ⟨some 33, _, _, _, _, _⟩) (v := ?_) rfl (by kernel_rfl) (by kernel_rfl) (by kernel_rfl) (fun _ _ _ h => h) (Or.inl ⟨by rfl, ?_⟩) (by assumption) ?_
              rotate_left 1
              · intro w hSw; (try dsimp only at hSw); go_simp; try (with_reducible rfl)
              try simp only [Act.put, List.setIfInBounds_toArray, List.set_cons_zero, List.set_cons_succ]
              refine wpAnyH_take (i := 16) (oi := ⟨some 34, _, _, _, _, _⟩) (v := ?_) rfl (by kernel_rfl) (by kernel_rfl) (by kernel_rfl) (fun _ _ _ h => h) (Or.inl ⟨by rfl, ?_⟩) (by assumption) ?_
              rotate_left 1
              · intro w hSw; (try dsimp only at hSw); go_simp; try (with_reducible rfl)
              try simp only [Act.put, List.setIfInBounds_toArray, List.set_cons_zero, List.set_cons_succ]
              refine wpAnyH_done (by kernel_rfl) ?_ _
              try simp only [Act.put, List.setIfInBounds_toArray, List.set_cons_zero, List.set_cons_succ]
              have T2 := T0.out.up hHeld.2.2.2.2 (by simp; omega)
              have D2 := Lib.hid (hnx.out.trans (hHeld.2.2.2.2.mono hnx.out.size))
              obtain ⟨t0, t1, t2, t3, t4⟩ := T2.five
              have f := T2.free
              have f0 := f 0; have f1 := f 1; have f2 := f 2; have f3 := f 3; have f4 := f 4
              clear f hHeld A0 a0 a1 T0
              go_wp2_with fail
              have T3 := Lib.hid (T2.fill (fun _ => 0))
              exact bodyPost_ret (set_res _ _ w.heap.size _ false rfl rfl T3.out) rfl ⟨by rw [hR.out, hF.out], (((((D2.out.setCell (Nat.le_refl _) _).setCell (Nat.le_refl _) _).setCell (Nat.le_refl _) _).setCell (Nat.le_refl _) _).setCell (Nat.le_refl _) _)⟩
      · obtain rfl : k = n := by omega
        have ht : L.take k = L := List.take_of_length_le (by rw [hn.out]; exact Nat.le_refl _)
        have hS1 := hS.out.1
        rw [ht] at hS1
        have hR := Lib.hid (srt_to (by rw [hn.out]; exact hl) (all_okL (fun j hj => hS.out.2.1 j (by rw [← hn.out]; exact hj))) (asc_adj (fun j hj => hS.out.2.2 j (by rw [← hn.out]; exact hj))))
        have hF := Lib.hid (setF_t hR.out)
        generalize mask L = g at hS1 hF
        obtain ⟨s0, s1, s2, s3, s4⟩ := hS1.five
        obtain ⟨t0, t1, t2, t3, t4⟩ := hZ.out.five
        have f := hZ.out.free
        have f0 := f 0; have f1 := f 1; have f2 := f 2; have f3 := f 3; have f4 := f 4
        have hnx := Lib.hid hnx
        clear f h ht hS
        go_wp2_with fail
        have T3 := Lib.hid (hZ.out.fill g)
        exact bodyPost_ret (set_res _ _ w.heap.size _ true rfl rfl T3.out) rfl ⟨by rw [hR.out, hF.out], (((((hnx.out.setCell (Nat.le_refl _) _).setCell (Nat.le_refl _) _).setCell (Nat.le_refl _) _).setCell (Nat.le_refl _) _).setCell (Nat.le_refl _) _)⟩
  · have hs := Lib.hid (srt_long (L := L) (by rw [hn.out]; exact hl))
    have hf := Lib.hid (setF_f hs.out)
    have hl' : 12 < n := by omega
    go_enter Tryd.func31, Tryd.ntmps31
    go_wp2_with fail
    exact bodyPost_ret (v := .tuple #[setV fun _ => 0, .bool false]) (by simp [results, Tryd.results31, go_sem, setV]) rfl ⟨by rw [hs.out, hf.out], ((Below.refl _ _).alloc (Nat.le_refl _) _).alloc (by simp) _⟩
end Go.Proofs.YtigaepbhbfpijaaDoor

/- The program's idSetOf at every slice. -/
namespace Go.Proofs.YtigaepbhbfpijaaDoor
open Go.RowKit
set_option linter.unusedVariables false

set_option maxRecDepth 100000 in
set_option maxHeartbeats 1000000 in
theorem iset_nil (a : Option Addr) (ca : Nat) (w : World) :
    Calls Tryd.prog 31 #[.slice a 0 ca] w (SetPost [] w) := by
  have R0 : Set5 ((w.alloc (.cells #[.int .u64 0, .int .u64 0, .int .u64 0, .int .u64 0, .int .u64 0] 47)).alloc (.cells #[.int .u64 0, .int .u64 0, .int .u64 0, .int .u64 0, .int .u64 0] 47)) w.heap.size (fun _ => 0) := (Below.heap_alloc _ _ _ (by simp)).trans (heap_alloc_new w _)
  have R0 := Lib.hid R0
  have e1 : Hid (srtB [] = true) := Lib.hid (by decide)
  have e2 : Hid (setF [] = fun _ => 0) := Lib.hid (by rw [setF_t e1.out]; funext r; rfl)
  go_enter Tryd.func31, Tryd.ntmps31
  go_wp2_with fail
  refine wp_loop_rounds 1 ?_
  rw [rounds_succ]
  go_wp2_with fail
  exact bodyPost_ret (set_res _ _ w.heap.size _ true rfl rfl R0.out) rfl ⟨by rw [e2.out, e1.out], ((Below.refl _ _).alloc (Nat.le_refl _) _).alloc (by simp) _⟩

theorem iset_any (u : Value) (L : List Pid) (w : World) (h : Ids w u L) :
    Calls Tryd.prog 31 #[u] w (SetPost L w) := by
  obtain ⟨a, cap, rfl, h1, h2, h3⟩ := h
  rcases h3 with h3 | ⟨b, off, rfl, h4, h5⟩
  · obtain rfl : L = [] := List.length_eq_zero_iff.1 h3
    exact iset_nil a cap w
  · exact set_at b off cap L w h4 h2 h5
end Go.Proofs.YtigaepbhbfpijaaDoor

/- The program's join of two sets. -/
namespace Go.Proofs.YtigaepbhbfpijaaDoor
open Go.RowKit
set_option linter.unusedVariables false

theorem sx_i0 (x0 x1 x2 x3 x4 : Value) (w : World) : (Instr.index 47 (.agg #[x0, x1, x2, x3, x4]) (.int .i64 0)).run Tryd.prog w = .ok x0 w := by kernel_rfl
theorem sx_i1 (x0 x1 x2 x3 x4 : Value) (w : World) : (Instr.index 47 (.agg #[x0, x1, x2, x3, x4]) (.int .i64 1)).run Tryd.prog w = .ok x1 w := by kernel_rfl
theorem sx_i2 (x0 x1 x2 x3 x4 : Value) (w : World) : (Instr.index 47 (.agg #[x0, x1, x2, x3, x4]) (.int .i64 2)).run Tryd.prog w = .ok x2 w := by kernel_rfl
theorem sx_i3 (x0 x1 x2 x3 x4 : Value) (w : World) : (Instr.index 47 (.agg #[x0, x1, x2, x3, x4]) (.int .i64 3)).run Tryd.prog w = .ok x3 w := by kernel_rfl
theorem sx_i4 (x0 x1 x2 x3 x4 : Value) (w : World) : (Instr.index 47 (.agg #[x0, x1, x2, x3, x4]) (.int .i64 4)).run Tryd.prog w = .ok x4 w := by kernel_rfl

theorem join_res (tm : Array Value) (w : World) (b : Nat) (g : Nat → Nat) (h4 : tm[4]? = some (.pointer (some ⟨b, 0, none⟩))) (h : Set5 w b g) :
    (results Tryd.f32 tm).run Tryd.prog w = .ok (setV g) w := by
  obtain ⟨t0, t1, t2, t3, t4⟩ := h.five
  simp [results, Tryd.results32, go_sem, setV, h4, t0, t1, t2, t3, t4]

def joinF (f g : Nat → Nat) : Nat → Nat := fun r => f r ||| g r

set_option maxRecDepth 100000 in
set_option maxHeartbeats 4000000 in
theorem join_any (f g : Nat → Nat) (w : World) (hf : ∀ r, f r < 2251799813685248) (hg : ∀ r, g r < 2251799813685248) :
    Calls Tryd.prog 32 #[setV f, setV g] w fun e w' => e = .returned (setV (joinF f g)) ∧ Below w.heap.size w w' := by
  have ob : ∀ r, bits .or .u64 (f r : Int) (g r : Int) = ((joinF f g r : Nat) : Int) := fun r => bits_or_u64_nat _ _ (by have := hf r; omega) (by have := hg r; omega)
  have o0 := ob 0; have o1 := ob 1; have o2 := ob 2; have o3 := ob 3; have o4 := ob 4
  clear ob hf hg
  unfold setV
  obtain ⟨j, hj⟩ : ∃ j, Hid (joinF f g = j) := ⟨_, Lib.hid rfl⟩
  rw [hj.out] at o0 o1 o2 o3 o4 ⊢
  have k0 := fun w => sx_i0 (.int .u64 (g 0)) (.int .u64 (g 1)) (.int .u64 (g 2)) (.int .u64 (g 3)) (.int .u64 (g 4)) w
  have k1 := fun w => sx_i1 (.int .u64 (g 0)) (.int .u64 (g 1)) (.int .u64 (g 2)) (.int .u64 (g 3)) (.int .u64 (g 4)) w
  have k2 := fun w => sx_i2 (.int .u64 (g 0)) (.int .u64 (g 1)) (.int .u64 (g 2)) (.int .u64 (g 3)) (.int .u64 (g 4)) w
  have k3 := fun w => sx_i3 (.int .u64 (g 0)) (.int .u64 (g 1)) (.int .u64 (g 2)) (.int .u64 (g 3)) (.int .u64 (g 4)) w
  have k4 := fun w => sx_i4 (.int .u64 (g 0)) (.int .u64 (g 1)) (.int .u64 (g 2)) (.int .u64 (g 3)) (.int .u64 (g 4)) w
  go_enter Tryd.func32, Tryd.ntmps32
  go_wp2_with fail
  refine wp_loop_rounds 6 ?_
  rw [rounds_succ]
  go_wp2_with fail
  rw [rounds_succ]
  go_wp2_with fail
  rw [rounds_succ]
  go_wp2_with fail
  rw [rounds_succ]
  go_wp2_with fail
  rw [rounds_succ]
  go_wp2_with fail
  rw [rounds_succ]
  go_wp2_with fail
  exact bodyPost_ret (join_res _ _ (w.heap.size + 1 + 1) j rfl (heap_alloc_at _ _ _ (by simp))) rfl ⟨rfl, (((Below.refl _ _).alloc (Nat.le_refl _) _).alloc (by simp) _).alloc (by simp; omega) _⟩
end Go.Proofs.YtigaepbhbfpijaaDoor

/- The program's many. -/
namespace Go.Proofs.YtigaepbhbfpijaaDoor
open Go.RowKit
set_option linter.unusedVariables false

set_option maxRecDepth 100000 in
set_option maxHeartbeats 2000000 in
theorem many_any (f : Nat → Nat) (w : World) (hf : ∀ r, f r < 2251799813685248) :
    Calls Tryd.prog 33 #[setV f] w fun e w' => e = .returned (.int .i64 (manyN f)) ∧ Below w.heap.size w w' := by
  have c0 := fun w => ones_any (f 0) w (by have := hf 0; omega)
  have c1 := fun w => ones_any (f 1) w (by have := hf 1; omega)
  have c2 := fun w => ones_any (f 2) w (by have := hf 2; omega)
  have c3 := fun w => ones_any (f 3) w (by have := hf 3; omega)
  have c4 := fun w => ones_any (f 4) w (by have := hf 4; omega)
  have b0 := pc_le 64 (f 0); have b1 := pc_le 64 (f 1); have b2 := pc_le 64 (f 2); have b3 := pc_le 64 (f 3); have b4 := pc_le 64 (f 4)
  have k0 := fun w => sx_i0 (.int .u64 (f 0)) (.int .u64 (f 1)) (.int .u64 (f 2)) (.int .u64 (f 3)) (.int .u64 (f 4)) w
  have k1 := fun w => sx_i1 (.int .u64 (f 0)) (.int .u64 (f 1)) (.int .u64 (f 2)) (.int .u64 (f 3)) (.int .u64 (f 4)) w
  have k2 := fun w => sx_i2 (.int .u64 (f 0)) (.int .u64 (f 1)) (.int .u64 (f 2)) (.int .u64 (f 3)) (.int .u64 (f 4)) w
  have k3 := fun w => sx_i3 (.int .u64 (f 0)) (.int .u64 (f 1)) (.int .u64 (f 2)) (.int .u64 (f 3)) (.int .u64 (f 4)) w
  have k4 := fun w => sx_i4 (.int .u64 (f 0)) (.int .u64 (f 1)) (.int .u64 (f 2)) (.int .u64 (f 3)) (.int .u64 (f 4)) w
  clear hf
  unfold setV manyN
  generalize pc 64 (f 0) = p0 at *
  generalize pc 64 (f 1) = p1 at *
  generalize pc 64 (f 2) = p2 at *
  generalize pc 64 (f 3) = p3 at *
  generalize pc 64 (f 4) = p4 at *
  go_enter Tryd.func33, Tryd.ntmps33
  go_wp2_with fail
  refine wp_loop_rounds 6 ?_
  rw [rounds_succ]
  go_wp2_with fail
  refine (c0 _).mono ?_
  rintro e w1 ⟨rfl, rfl⟩
  go_wp2_with fail
  rw [rounds_succ]
  go_wp2_with fail
  refine (c1 _).mono ?_
  rintro e w1 ⟨rfl, rfl⟩
  go_wp2_with fail
  rw [rounds_succ]
  go_wp2_with fail
  refine (c2 _).mono ?_
  rintro e w1 ⟨rfl, rfl⟩
  go_wp2_with fail
  rw [rounds_succ]
  go_wp2_with fail
  refine (c3 _).mono ?_
  rintro e w1 ⟨rfl, rfl⟩
  go_wp2_with fail
  rw [rounds_succ]
  go_wp2_with fail
  refine (c4 _).mono ?_
  rintro e w1 ⟨rfl, rfl⟩
  go_wp2_with fail
  rw [rounds_succ]
  go_wp2_with fail
  go_ret
  exact ⟨by congr 2, (Below.refl _ _).alloc (Nat.le_refl _) _⟩
end Go.Proofs.YtigaepbhbfpijaaDoor
