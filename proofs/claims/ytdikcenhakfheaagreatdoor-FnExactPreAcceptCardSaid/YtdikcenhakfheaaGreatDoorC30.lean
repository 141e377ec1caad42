/- Texts laid together. -/
import Derived.Test.YtdikcenhakfheaaGreatDoorC12
import Derived.Test.YtdikcenhakfheaaGreatDoorC08
import Derived.Test.YtdikcenhakfheaaGreatDoorC13
import Derived.Test.YtdikcenhakfheaaGreatDoorC11
/- The model's l4Join, DepsJoin. -/
namespace Go.Proofs.YtdikcenhakfheaaGreatDoor
open Go.RowKit
set_option linter.unusedVariables false

/-- What l4Join leaves. -/
def L4Post (R : List Pid) (w : World) (e : Ending) (w' : World) : Prop :=
  ∃ b u, w.heap.size ≤ b ∧ e = .returned u ∧ OwnP w' b u R ∧ Below w.heap.size w w'

theorem flat_cells {W : World} {ad : Addr} {C : List Pid} (h : C.length = 0 ∨ ∃ b off, ad = ⟨b, off, none⟩ ∧ ∀ i, i < C.length → W.cell? ⟨b, off + i * 2, none⟩ = some (.int .i64 (C.getD i nop).1) ∧ W.cell? ⟨b, off + i * 2 + 1, none⟩ = some (.int .i64 (C.getD i nop).2)) :
    ∀ j u, (flatP C)[j]? = some u → W.cell? (ad.add j) = some u := by
  intro j u hj
  have hl : j < (flatP C).length := by
    rcases Nat.lt_or_ge j (flatP C).length with h' | h'
    · exact h'
    · rw [List.getElem?_eq_none h'] at hj; cases hj
  rw [flatP_len] at hl
  rcases h with h | ⟨b, off, rfl, h⟩
  · omega
  · obtain ⟨f0, f1⟩ := flatP_get C (j / 2) (by omega)
    obtain ⟨c0, c1⟩ := h (j / 2) (by omega)
    have ha : (⟨b, off, none⟩ : Addr).add j = ⟨b, off + j, none⟩ := by simp [Addr.add]
    rw [ha]
    rcases (show j % 2 = 0 ∨ j % 2 = 1 by omega) with e | e
    · have e2 : j / 2 * 2 = j := by omega
      rw [e2, hj] at f0
      rw [show off + j = off + j / 2 * 2 by omega, f0, c0]
    · have e2 : j / 2 * 2 + 1 = j := by omega
      rw [e2, hj] at f1
      rw [show off + j = off + j / 2 * 2 + 1 by omega, f1, c1]

set_option maxRecDepth 100000 in
set_option maxHeartbeats 4000000 in
theorem l4_any (u v : Value) (A B : List Pid) (w : World) (h : Ids w u A) (g : Ids w v B) (ha : A.length ≤ 12) (hb : B.length ≤ 12) :
    Calls Tryz.prog 45 #[u, v] w (L4Post (joinP A B) w) := by
  obtain ⟨i0, hi, hz0, hz1, hz2⟩ := info_parts infoP
  obtain ⟨a, cap, rfl, h1, h2, h3⟩ := h
  obtain ⟨a', cap', hv, g1, g2, g3⟩ := g
  obtain ⟨n, hn⟩ : ∃ n, Hid (A.length = n) := ⟨_, Lib.hid rfl⟩
  obtain ⟨m, hm⟩ : ∃ n, Hid (B.length = n) := ⟨_, Lib.hid rfl⟩
  rw [hn.out] at h1 ha ⊢
  rw [hm.out] at hv g1 hb
  subst hv
  have h3 := Lib.hid h3
  have g3 := Lib.hid g3
  clear h2 g2
  have R0 := Lib.hid (row_new w w.heap.size (Nat.le_refl _))
  have B0 : Hid (Below w.heap.size w (w.alloc (.cells #[] 25))) := Lib.hid ((Below.refl _ _).alloc (Nat.le_refl _) _)
  obtain ⟨K, hK⟩ : ∃ K : World → Value → Nat → World → Prop, K = fun w v n w' => ∃ b, w.heap.size ≤ b ∧ OwnP w' b v (joinP A (B.take n)) ∧ Below w.heap.size w w' := ⟨_, rfl⟩
  have hstart : ∀ v' w1, Row w1 w.heap.size v' A → Below w.heap.size w w1 → Hid (K w v' 0 w1) := fun v' w1 hR hD => Lib.hid (by
    rw [hK]
    obtain ⟨b, hb1, hb2⟩ := hR.own (by rw [hn.out]; omega)
    exact ⟨b, hb1, by rw [List.take_zero]; exact hb2, hD⟩)
  have hK := Lib.hid hK
  go_enter Tryz.func45, Tryz.ntmps45
  rcases a with _ | ad
  · have hA0 : n = 0 := by
      rcases h3.out with h | ⟨b, off, h, _⟩
      · exact hn.out.symm.trans h
      · cases h
    subst hA0
    have hA : A = [] := List.length_eq_zero_iff.1 hn.out
    have hst := hstart _ _ (by rw [hA]; exact R0.out) B0.out
    clear h3 R0 B0 hstart
    -- LOOP A
    go_wp2_with fail
    go_loopw [5, 6] (fun v i wr => ∃ k : Nat, k ≤ m ∧ i = .int .i64 k ∧ Hid (K w v k wr)) (fun _ i _ => m - (intOf i).toNat)
    case atStart => exact ⟨0, Nat.zero_le _, rfl, hst⟩
    case round =>
      obtain ⟨k, hk, rfl, hKr⟩ := hrel
      clear hst
      have hKo := hKr.out
      rw [hK.out] at hKo
      obtain ⟨gb, hgb, hO, hD⟩ := hKo
      obtain ⟨cp, hv, hcp⟩ := hO.shape
      have hjl : (joinP A (B.take k)).length ≤ 24 := by
        have := joinP_len A (B.take k)
        rw [List.length_take, hn.out] at this; omega
      clear hKr
      by_cases hlt : k < m
      · rcases g3.out with h | ⟨b, off, hab, hb1, hb2⟩
        · have := hm.out; omega
        · subst hab
          obtain ⟨h0, h1⟩ := hb2 k (by rw [hm.out]; exact hlt)
          have q0 := (hD.cell (p := ⟨b, off + k * 2, none⟩) hb1).trans h0
          have q1 := (hD.cell (p := ⟨b, off + k * 2 + 1, none⟩) hb1).trans h1
          clear h0 h1 hb2 g3
          obtain ⟨c, hc⟩ : ∃ c, Hid (B.getD k nop = c) := ⟨_, Lib.hid rfl⟩
          have hnx := Lib.hid (joinP_take (a := A) (k := k) (by rw [hm.out]; exact hlt))
          rw [hc.out] at q0 q1 hnx
          obtain ⟨p, r⟩ := c
          dsimp only at q0 q1
          have hKn : ∀ b' u w', w.heap.size ≤ b' → OwnP w' b' u (joinP A (B.take (k + 1))) → Below w.heap.size w w' → Hid (K w u (k + 1) w') := fun b' u w' x1 x2 x3 => Lib.hid (by rw [hK.out]; exact ⟨b', x1, x2, x3⟩)
          have hKn := Lib.hid hKn
          generalize joinP A (B.take k) = S at hO hv hcp hjl hnx
          subst hv
          have hgl := hO.lt
          have sp := sput_at gb 0 cp S p r wr hgl (by omega) hO.at0
          have hD := Lib.hid hD
          clear hO
          go_wp2_with fail
          refine sp.mono ?_
          rintro e w3 ⟨b', u, hb', rfl, hO2, hbl⟩
          have hb'2 := Nat.le_trans hD.out.size hb'
          have hK' := hKn.out b' u w3 hb'2 (by rw [hnx.out]; exact hO2) (bstep hD.out hbl)
          clear hbl hO2 sp q0 q1 hD
          go_wp2_with fail
          go_roundw
          case rel => exact ⟨k + 1, by omega, by go_num, hK'⟩
          case measure => simp [intOf]; omega
      · obtain rfl : k = m := by omega
        have ht : B.take k = B := List.take_of_length_le (by rw [hm.out]; exact Nat.le_refl _)
        rw [ht] at hO hv hcp hjl
        have hO := Lib.hid hO
        have hD := Lib.hid hD
        clear g3 ht hv hcp hjl
        go_wp2_with fail
        go_ret
        exact ⟨gb, _, hgb, rfl, hO.out, hD.out⟩
  · have hsrc : Hid (∀ j u, (flatP A)[j]? = some u → (w.alloc (.cells #[] 25)).cell? (ad.add j) = some u) := Lib.hid (flat_cells (by
      rcases h3.out with h | ⟨b, off, hab, hb1, hb2⟩
      · exact .inl h
      · injection hab with hab
        exact .inr ⟨b, off, hab, fun i hi' => by rw [B0.out.cell (p := ⟨b, off + i * 2, none⟩) hb1, B0.out.cell (p := ⟨b, off + i * 2 + 1, none⟩) hb1]; exact hb2 i hi'⟩))
    go_wp2_with (at_builtin; refine wpList_append_own _ rfl _ _ 28 rfl w.heap.size 25 i0 (.agg #[.int .i64 0, .int .i64 0]) 2 16 Tryz.underlying28 hi hz0 hz1 hz2 rfl (by decide) _ 0 [] rfl R0.out.1 ad n cap (flatP A) rfl ?c0 ?c1 ?c2 ?c3 ?c4 ?c5 ?_)
    case c0 => rw [flatP_len, hn.out]
    case c1 => exact hsrc.out
    case c2 => exact flatP_one A
    case c3 => unfold maxLen; omega
    case c4 => omega
    case c5 => simp
    intro v' w1 hown hgrow hnil
    have hR1 : Row w1 w.heap.size v' ([] ++ A) := ⟨by rw [List.nil_append, hn.out]; simpa using hown, fun e => hnil e⟩
    have hst := hstart v' w1 (by simpa using hR1) (B0.out.trans (grown_below R0.out hgrow (by simp)))
    clear hown hgrow hnil hR1 hsrc h3 R0 B0 hstart
    go_wp2_with fail
    go_loopw [5, 6] (fun v i wr => ∃ k : Nat, k ≤ m ∧ i = .int .i64 k ∧ Hid (K w v k wr)) (fun _ i _ => m - (intOf i).toNat)
    case atStart => exact ⟨0, Nat.zero_le _, rfl, hst⟩
    case round =>
      obtain ⟨k, hk, rfl, hKr⟩ := hrel
      clear hst
      have hKo := hKr.out
      rw [hK.out] at hKo
      obtain ⟨gb, hgb, hO, hD⟩ := hKo
      obtain ⟨cp, hv, hcp⟩ := hO.shape
      have hjl : (joinP A (B.take k)).length ≤ 24 := by
        have := joinP_len A (B.take k)
        rw [List.length_take, hn.out] at this; omega
      clear hKr
      by_cases hlt : k < m
      · rcases g3.out with h | ⟨b, off, hab, hb1, hb2⟩
        · have := hm.out; omega
        · subst hab
          obtain ⟨h0, h1⟩ := hb2 k (by rw [hm.out]; exact hlt)
          have q0 := (hD.cell (p := ⟨b, off + k * 2, none⟩) hb1).trans h0
          have q1 := (hD.cell (p := ⟨b, off + k * 2 + 1, none⟩) hb1).trans h1
          clear h0 h1 hb2 g3
          obtain ⟨c, hc⟩ : ∃ c, Hid (B.getD k nop = c) := ⟨_, Lib.hid rfl⟩
          have hnx := Lib.hid (joinP_take (a := A) (k := k) (by rw [hm.out]; exact hlt))
          rw [hc.out] at q0 q1 hnx
          obtain ⟨p, r⟩ := c
          dsimp only at q0 q1
          have hKn : ∀ b' u w', w.heap.size ≤ b' → OwnP w' b' u (joinP A (B.take (k + 1))) → Below w.heap.size w w' → Hid (K w u (k + 1) w') := fun b' u w' x1 x2 x3 => Lib.hid (by rw [hK.out]; exact ⟨b', x1, x2, x3⟩)
          have hKn := Lib.hid hKn
          generalize joinP A (B.take k) = S at hO hv hcp hjl hnx
          subst hv
          have hgl := hO.lt
          have sp := sput_at gb 0 cp S p r wr hgl (by omega) hO.at0
          have hD := Lib.hid hD
          clear hO
          go_wp2_with fail
          refine sp.mono ?_
          rintro e w3 ⟨b', u, hb', rfl, hO2, hbl⟩
          have hb'2 := Nat.le_trans hD.out.size hb'
          have hK' := hKn.out b' u w3 hb'2 (by rw [hnx.out]; exact hO2) (bstep hD.out hbl)
          clear hbl hO2 sp q0 q1 hD
          go_wp2_with fail
          go_roundw
          case rel => exact ⟨k + 1, by omega, by go_num, hK'⟩
          case measure => simp [intOf]; omega
      · obtain rfl : k = m := by omega
        have ht : B.take k = B := List.take_of_length_le (by rw [hm.out]; exact Nat.le_refl _)
        rw [ht] at hO hv hcp hjl
        have hO := Lib.hid hO
        have hD := Lib.hid hD
        clear g3 ht hv hcp hjl
        go_wp2_with fail
        go_ret
        exact ⟨gb, _, hgb, rfl, hO.out, hD.out⟩
end Go.Proofs.YtdikcenhakfheaaGreatDoor

/- What PreAccept answers: plain facts of its laws. -/
namespace Go.Proofs.YtdikcenhakfheaaGreatDoor
set_option linter.unusedVariables false

theorem pre_is {E : List En} {X : En} (h : (preR E X).2.2 = true) : logB E = true ∧ enB X = true ∧ X.st = 1 ∧ admB E X.id X.bal = true ∧ (preR E X).1 = putE (preE E X) E ∧ (preR E X).2.1 = preE E X ∧ enB (preE E X) = true ∧ (putE (preE E X) E).length ≤ 12 := by
  unfold preR at h ⊢
  by_cases h1 : logB E = true ∧ enB X = true ∧ X.st = 1 ∧ admB E X.id X.bal = true
  · rw [if_pos h1] at h ⊢
    unfold PpR at h ⊢
    by_cases h2 : enB (preE E X) = true ∧ (putE (preE E X) E).length ≤ 12
    · rw [if_pos h2]
      exact ⟨h1.1, h1.2.1, h1.2.2.1, h1.2.2.2, rfl, rfl, h2.1, h2.2⟩
    · rw [if_neg h2] at h; cases h
  · rw [if_neg h1] at h; cases h
theorem preR_len (E : List En) (X : En) : (preR E X).1.length ≤ 12 := by
  unfold preR; split
  · unfold PpR; split
    · rename_i h; exact h.2
    · exact Nat.zero_le _
  · exact Nat.zero_le _
theorem mem_cls {E : List En} {a : Pid} {k key : Int} {x : En} : x ∈ clsE E a k key ↔ x ∈ E ∧ ¬ x.id = a ∧ kcB x.k x.key k key = true := by
  unfold clsE; rw [List.mem_filter]; simp
theorem cls_put {E : List En} {Y : En} {k key : Int} (h : Asc (idsE E)) : clsE (putE Y E) Y.id k key = clsE E Y.id k key := by
  refine ens_ext (clsE_asc (putE_asc h) _ _ _) (clsE_asc h _ _ _) (fun x => ?_)
  rw [mem_cls, mem_cls, mem_putE]
  constructor
  · rintro ⟨e | ⟨h1, _⟩, h2, h3⟩
    · exact absurd (by rw [e]) h2
    · exact ⟨h1, h2, h3⟩
  · rintro ⟨h1, h2, h3⟩
    exact ⟨.inr ⟨h1, h2⟩, h2, h3⟩
theorem put_put {E : List En} {Y : En} (h : Asc (idsE E)) : putE Y (putE Y E) = putE Y E := by
  refine ens_ext (putE_asc (putE_asc h)) (putE_asc h) (fun x => ?_)
  rw [mem_putE]
  constructor
  · rintro (e | ⟨h1, h2⟩)
    · exact mem_putE.2 (.inl e)
    · exact h1
  · intro h1
    rcases mem_putE.1 h1 with e | ⟨_, h2⟩
    · exact .inl e
    · exact .inr ⟨h1, h2⟩
theorem find_put {E : List En} {Y : En} (hL : logB (putE Y E) = true) : lfindR (putE Y E) Y.id = (Y, true) := by
  obtain ⟨k, hk, ek⟩ := List.getElem_of_mem (show Y ∈ putE Y E from mem_putE.2 (.inl rfl))
  have e : (putE Y E).getD k en0 = Y := by rw [List.getD_eq_getElem?_getD, List.getElem?_eq_getElem hk, Option.getD_some, ek]
  rw [lfindR_some hL hk (by rw [e]), e]
theorem pre_abs {a b : List Pid} (ha : srtB a = true) : joinP (joinP a b) b = joinP a b :=
  asc_ext (joinP_asc (joinP_asc (srt_of ha).2.2)) (joinP_asc (srt_of ha).2.2) (fun x => by
    rw [joinP_mem, joinP_mem]
    constructor
    · rintro (h | h)
      · exact h
      · exact .inr h
    · exact .inl)
theorem pre_twice {E : List En} {X : En} (h : (preR E X).2.2 = true) : preR (preR E X).1 (preR E X).2.1 = preR E X := by
  obtain ⟨h1, h2, h3, h4, h5, h6, h7, h8⟩ := pre_is h
  have e : preR E X = (putE (preE E X) E, preE E X, true) := Prod.ext h5 (Prod.ext h6 h)
  rw [e]
  dsimp only
  obtain ⟨Y, hY⟩ : ∃ Y, preE E X = Y := ⟨_, rfl⟩
  rw [hY] at h7 h8 ⊢
  have hid : Y.id = X.id := by rw [← hY]; rfl
  have hst : Y.st = 1 := by rw [← hY]; exact h3
  have hk : Y.k = X.k := by rw [← hY]; rfl
  have hkey : Y.key = X.key := by rw [← hY]; rfl
  have hs : Y.seq = max X.seq (topE (clsE E X.id X.k X.key) + 1) := by rw [← hY]; rfl
  have hd : Y.deps = joinP X.deps (idsE (clsE E X.id X.k X.key)) := by rw [← hY]; rfl
  have hA := (log_of h1).2.2
  have hL : logB (putE Y E) = true := putE_valid h1 h7 h8
  have hadm : admB (putE Y E) Y.id Y.bal = true := by unfold admB; rw [find_put hL]; simp [hst]
  have hpre : preE (putE Y E) Y = Y := by
    have hc : clsE (putE Y E) Y.id Y.k Y.key = clsE E X.id X.k X.key := by rw [cls_put hA, hid, hk, hkey]
    unfold preE
    rw [hc]
    have e1 : max Y.seq (topE (clsE E X.id X.k X.key) + 1) = Y.seq := by rw [hs]; omega
    have e2 : joinP Y.deps (idsE (clsE E X.id X.k X.key)) = Y.deps := by rw [hd]; exact pre_abs (enB_of h2).2.2.1
    rw [e1, e2]
  unfold preR PpR
  rw [if_pos ⟨hL, h7, hst, hadm⟩, hpre, put_put hA, if_pos ⟨h7, h8⟩]
theorem pre_within {E : List En} {X : En} (h2 : enB X = true) (h7 : enB (preE E X) = true) : withinB X.deps (preE E X).deps = true := by
  have hs := (enB_of h7).2.2.1
  unfold withinB
  rw [(enB_of h2).2.2.1, hs]
  simp only [Bool.true_and]
  exact inP_iff.2 fun x hx => joinP_mem.2 (.inl hx)
/-- What LogAttrs and DepsJoin say of an entry that was added. -/
theorem pre_attrs {E : List En} {X : En} (h1 : logB E = true) (h2 : enB X = true) (h7 : enB (preE E X) = true) :
    ∃ t C, lattR E X.id X.k X.key X.v = (t, C, true) ∧ joinR X.deps C = ((preE E X).deps, true) ∧ (preE E X).seq = max X.seq t ∧ 1 ≤ t ∧ t ≤ 99 := by
  have hb := enB_of h7
  have hx := enB_of h2
  have ht : topE (clsE E X.id X.k X.key) + 1 ≤ 99 := by
    have h : (preE E X).seq = max X.seq (topE (clsE E X.id X.k X.key) + 1) := rfl
    have := hb.2.1.2
    omega
  have ht0 := (top_rank h1 X.id X.k X.key).1
  refine ⟨_, _, lattR_good h1 hx.1 hx.2.2.2.2.2.2 ht, joinR_t hx.2.2.1 (cls_srt h1 _ _ _) (srt_of hb.2.2.1).1, rfl, by omega, ht⟩
theorem pre_len {E : List En} {X : En} (h1 : logB E = true) : (putE (preE E X) E).length = E.length ∨ (putE (preE E X) E).length = E.length + 1 := by
  rw [putE_len (log_of h1).2.2]; split <;> simp
end Go.Proofs.YtdikcenhakfheaaGreatDoor
