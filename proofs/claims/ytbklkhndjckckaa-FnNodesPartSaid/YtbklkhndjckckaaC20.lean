/- Texts laid together. -/
import Derived.Test.YtbklkhndjckckaaC05
import Derived.Test.YtbklkhndjckckaaC18
import Derived.Test.YtbklkhndjckckaaC16
import Derived.Test.YtbklkhndjckckaaC17
import Derived.Deep.RegionLaw
import Derived.Deep.RegionHeld3
import Derived.IntWalk
/- Rows of nodes that were copied, one of them left out. -/
namespace Go.Proofs.Ytbklkhndjckckaa
open Go.RowKit
set_option linter.unusedVariables false

/-- All but one. -/
theorem few_cut {N : List Nd} (hv : nodB N = true) (k : Nat) : Few (N.eraseIdx k) N := by
  obtain ⟨h1, h2, h3⟩ := nod_of hv
  have hs := List.eraseIdx_sublist N k
  exact ⟨nod_to (Nat.le_trans hs.length_le h1) (fun x hx => h2 x (hs.subset hx)) (List.Pairwise.sublist (hs.map Nd.id) h3), hv, fun x hx => hs.subset hx⟩
/-- The places of all but one. -/
def cutQ (n k : Nat) : List Nat := List.range' 0 k ++ List.range' (k + 1) (n - (k + 1))
theorem cutQ_len {n k : Nat} (hk : k < n) : (cutQ n k).length = n - 1 := by simp [cutQ]; omega
theorem cutQ_map {N : List Nd} {k : Nat} (hk : k < N.length) : (cutQ N.length k).map (fun i => N.getD i nd0) = N.eraseIdx k := by
  refine List.ext_getElem (by rw [List.length_map, cutQ_len hk, List.length_eraseIdx, if_pos hk]) fun i h1 h2 => ?_
  rw [List.getElem_map, List.getElem_eraseIdx]
  rw [List.length_map, cutQ_len hk] at h1
  unfold cutQ
  by_cases hi : i < k
  · rw [dif_pos hi, List.getElem_append_left (by simpa using hi), List.getElem_range', List.getD_eq_getElem?_getD]
    simp [show i < N.length by omega]
  · rw [dif_neg hi, List.getElem_append_right (by simpa using hi), List.getElem_range', List.getD_eq_getElem?_getD]
    have e : k + 1 + 1 * (i - (List.range' 0 k).length) = i + 1 := by simp; omega
    rw [e, List.getElem?_eq_getElem (by omega)]; rfl
theorem flatN_one (N : List Nd) (U : Us) (Q : List Nat) : ∀ u ∈ flatN N U Q, u.oneCell' = true := by
  intro u hu
  unfold flatN at hu
  rw [List.mem_flatMap] at hu
  obtain ⟨i, _, hu⟩ := hu
  simp [ndc] at hu
  rcases hu with rfl | rfl | rfl | rfl <;> rfl
/-- The cells of some nodes side by side. -/
theorem flatN_src {w : World} {g off : Nat} {N : List Nd} {U : Us} (h : NdAt w g off N U) (a m : Nat) (ham : a + m ≤ N.length) : ∀ j u, (flatN N U (List.range' a m))[j]? = some u → w.cell? ((⟨g, off + a * 4, none⟩ : Addr).add j) = some u := by
  intro j u hu
  have hj : j < m * 4 := by
    have := (List.getElem?_eq_some_iff.1 hu).1
    rw [flatN_len] at this; simpa using this
  have e : j / 4 * 4 + j % 4 = j := by omega
  have hi : j / 4 < (List.range' a m).length := by simp; omega
  have hg := flatN_get N U (List.range' a m) (j / 4) (j % 4) hi (by omega)
  rw [e, hu] at hg
  have hq : (List.range' a m).getD (j / 4) 0 = a + j / 4 := by
    rw [List.getD_eq_getElem?_getD, List.getElem?_eq_getElem hi, List.getElem_range']; simp
  rw [hq] at hg
  obtain ⟨c0, c1, c2, c3⟩ := h.cell (a + j / 4) (by omega)
  rw [Addr.add_lit]
  rcases (show j % 4 = 0 ∨ j % 4 = 1 ∨ j % 4 = 2 ∨ j % 4 = 3 by omega) with r | r | r | r <;> rw [r] at hg
  · have hg : some u = some (Value.int .i64 (N.getD (a + j / 4) nd0).id.1) := hg
    rw [hg, ← c0]; congr 2; omega
  · have hg : some u = some (Value.int .i64 (N.getD (a + j / 4) nd0).id.2) := hg
    rw [hg, ← c1]; congr 2; omega
  · have hg : some u = some (Value.int .i64 (N.getD (a + j / 4) nd0).seq) := hg
    rw [hg, ← c2]; congr 2; omega
  · have hg : some u = some (Value.slice (U (a + j / 4)).1 (U (a + j / 4)).2.1 (U (a + j / 4)).2.2) := hg
    rw [hg, ← c3]; congr 2; omega
/-- Such a row, read as nodes. -/
theorem nds_row {w w0 : World} {B g off : Nat} {N : List Nd} {U : Us} {v : Value} {Q : List Nat} (h : w.ownsRow B 33 4 v Q.length (flatN N U Q)) (hn : v ≠ .slice none 0 0) (hA : NdAt w g off N U) (hQ : ∀ i ∈ Q, i < N.length) (hl : Q.length ≤ 2000000) :
    Nds w v (Q.map fun i => N.getD i nd0) := by
  rcases h.2 with ⟨rfl, _⟩ | ⟨gb, cap, cur, rfl, hb, hg, hc, hm, hs, ht⟩
  · exact absurd rfl hn
  · refine ⟨_, cap, by rw [List.length_map], by rw [List.length_map]; exact hc, by rw [List.length_map]; exact hl, .inr ⟨gb, 0, rfl, lt_of_heap hg, fun i hi => ?_⟩⟩
    rw [List.length_map] at hi
    have hq : (Q.map fun i => N.getD i nd0).getD i nd0 = N.getD (Q.getD i 0) nd0 := by
      rw [List.getD_eq_getElem?_getD, List.getElem?_map, List.getElem?_eq_getElem hi, List.getD_eq_getElem?_getD (l := Q), List.getElem?_eq_getElem hi]; rfl
    rw [hq]
    have hm' : Q.getD i 0 ∈ Q := by rw [List.getD_eq_getElem?_getD, List.getElem?_eq_getElem hi]; exact List.getElem_mem hi
    have hk : ∀ j, j < 4 → cur[i * 4 + j]? = (ndc N U (Q.getD i 0))[j]? := fun j hj => by
      rw [← flatN_get N U Q i j hi hj, ← ht, List.getElem?_take, if_pos (by omega)]; simp
    refine ⟨(U (Q.getD i 0)).1, (U (Q.getD i 0)).2.1, (U (Q.getD i 0)).2.2, ?_, ?_, ?_, ?_, hA.ids _ (hQ _ hm')⟩
    · rw [Nat.zero_add, cell_of_cells hg]; exact hk 0 (by omega)
    · rw [Nat.zero_add, cell_of_cells hg]; exact hk 1 (by omega)
    · rw [Nat.zero_add, cell_of_cells hg]; exact hk 2 (by omega)
    · rw [Nat.zero_add, cell_of_cells hg]; exact hk 3 (by omega)
theorem cutQ_lt {n k : Nat} (hk : k < n) : ∀ i ∈ cutQ n k, i < n := by
  intro i hi
  unfold cutQ at hi
  rw [List.mem_append, List.mem_range', List.mem_range'] at hi
  rcases hi with ⟨j, h1, h2⟩ | ⟨j, h1, h2⟩ <;> omega
end Go.Proofs.Ytbklkhndjckckaa

/- The walk of FnOrderLess. -/
namespace Go.Proofs.Ytbklkhndjckckaa
open Go.RowKit
set_option linter.unusedVariables false

theorem ownr_grown {w w' : World} {B : Nat} {e : TypeId} {size : Nat} {v : Value} {n : Nat} {xs : List Value} (h : w.ownsRow B e size v n xs) (hg : w.grownBy w' (Value.ownBlock v)) (hB : B ≤ w.heap.size) : Below B w w' :=
  ⟨hg.os, hg.tape, hg.output, hg.size, fun k hk => hg.block k (by omega) (fun e => absurd (ownr_typ h e.symm).2 (by omega))⟩

set_option maxRecDepth 100000 in
set_option maxHeartbeats 8000000 in
theorem fnOrderLess_walk (a : Option Addr) (len cap : Nat) (a2 : Option Addr) (len2 cap2 : Nat) (w : World) (hc : CodeIn w a len cap) (hcap : cap ≤ maxLen) (hc2 : CodeIn w a2 len2 cap2) (hcap2 : cap2 ≤ maxLen) :
    Calls Try.prog 4 #[.slice a len cap, .slice a2 len2 cap2] w fun e w' => e = .returned (.bool true) ∧ Below w.heap.size w w' := by
  have hm : cap ≤ 9223372036854775807 := by simpa [maxLen] using hcap
  have hlc := hc.1
  have hm2 : cap2 ≤ 9223372036854775807 := by simpa [maxLen] using hcap2
  have hlc2 := hc2.1
  by_cases hl : 1048576 < len
  · clear hcap hc hc2 hcap2
    go_enter Try.func4, Try.ntmps4
    go_wp2_with fail
    go_ret
    exact ⟨rfl, Below.refl _ _⟩
  · by_cases hl2 : 1048576 < len2
    · clear hcap hc hc2 hcap2
      go_enter Try.func4, Try.ntmps4
      go_wp2_with fail
      go_ret
      exact ⟨rfl, Below.refl _ _⟩
    · have hc1 := Lib.hid hc
      have hcap1 := Lib.hid hcap
      clear hc hcap hc2 hcap2
      go_enter Try.func4, Try.ntmps4
      go_wp2_with fail
      refine (dnord_any a len cap w hc1.out hcap1.out).mono ?_
      rintro e w0 ⟨u, N, rfl, hN, hNp, hNl, D1'⟩
      have D := Lib.hid D1'
      have hN := Lib.hid hN
      clear hc1 hcap1 D1'
      go_wp2_with fail
      refine (iorder_any u N _ hN.out).mono ?_
      rintro e w1 ⟨b1, v1, S, hb1, rfl, hO, hS, hSl, B⟩
      have hO := Lib.hid hO
      replace hN := Lib.hid (hN.out.up B (Nat.le_refl _))
      replace D := Lib.hid (bstep D.out B)
      clear B
      go_wp2_with fail
      refine (sorder_any u N _ hN.out).mono ?_
      rintro e w2 ⟨b2, v2, S2, hb2, rfl, hP, hS2, _, B⟩
      rw [hS2.det hS] at hP
      have hP := Lib.hid hP
      have hS := Lib.hid hS
      replace hO := Lib.hid (hO.out.up B hO.out.lt)
      replace hN := Lib.hid (hN.out.up B (Nat.le_refl _))
      replace D := Lib.hid (bstep D.out B)
      clear B hS2
      go_wp2_with fail
      refine (same_any _ _ S _ hO.out.read hP.out.read).mono ?_
      rintro e w3 ⟨rfl, B⟩
      replace hO := Lib.hid (hO.out.up B hO.out.lt)
      replace hP := Lib.hid (hP.out.up B hP.out.lt)
      replace hN := Lib.hid (hN.out.up B (Nat.le_refl _))
      replace D := Lib.hid (bstep D.out B)
      clear B
      go_wp2_with fail
      refine (snval_any u N _ hN.out).mono ?_
      rintro e w4 ⟨rfl, B⟩
      replace hO := Lib.hid (hO.out.up B hO.out.lt)
      replace hP := Lib.hid (hP.out.up B hP.out.lt)
      replace hN := Lib.hid (hN.out.up B (Nat.le_refl _))
      replace D := Lib.hid (bstep D.out B)
      clear B
      cases hv : nodB N with
      | false =>
        clear hv
        go_wp2_with fail
        refine (same_any _ _ S _ hO.out.read hP.out.read).mono ?_
        rintro e w5 ⟨rfl, B⟩
        replace D := Lib.hid (bstep D.out B)
        clear B
        go_wp2_with fail
        go_ret
        exact ⟨rfl, D.out⟩
      | true =>
        have hord := Lib.hid (hS.out.2 hv)
        have hv := Lib.hid hv
        have hN' := hN.out
        obtain ⟨ga, cp, rfl, h1, h2, h3⟩ := hN'
        rcases h3 with h3 | ⟨g, off, rfl, h4, h5⟩
        · omega
        · obtain ⟨U, hA⟩ := NdAt.of h4 h5
          have hA := Lib.hid hA
          obtain ⟨nn, hnn⟩ : ∃ n, Hid (N.length = n) := ⟨_, Lib.hid rfl⟩
          rw [hnn.out] at hNp hNl h1 h2 hN ⊢
          obtain ⟨oc, rfl, hoc⟩ := hO.out.shape
          obtain ⟨ns, hns⟩ : ∃ n, Hid (S.length = n) := ⟨_, Lib.hid rfl⟩
          rw [hns.out] at hoc hSl hO ⊢
          obtain ⟨j0, hj0, jz0, jz1, jz2⟩ := info_parts info_nd
          have hn0 : ((nn : Int) == 0) = false := by simp; omega
          obtain ⟨k, hk⟩ : ∃ k : Nat, k = len2 % nn := ⟨_, rfl⟩
          have hkn : k < nn := by rw [hk]; exact Nat.mod_lt _ (by omega)
          have hmod : (len2 : Int).tmod (nn : Int) = (k : Int) := by rw [hk, Int.tmod_eq_emod_of_nonneg (by omega)]; exact (Int.natCast_emod _ _).symm
          have hkN : k < N.length := by rw [hnn.out]; exact hkn
          have hNn : N.length ≤ 12 := by rw [hnn.out]; omega
          clear hk hP h5
          go_upto_region 9 with fail
          go_cut [9] from 49 to 58 (fun s9 wx => Hid (Nds wx s9 (N.eraseIdx k)) ∧ Hid (Below w4.heap.size w4 wx))
          case first =>
            have k0 : (0 : Int) ≤ (k : Int) := by omega
            have k1 : (k : Int) ≤ (nn : Int) := by omega
            have k2 : (k : Int) ≤ (cp : Int) := by omega
            have k3 : (k : Int) + 1 ≤ (nn : Int) := by omega
            have k4 : (0 : Int) ≤ (k : Int) + 1 := by omega
            have k5 : (k : Int) + 1 ≤ (cp : Int) := by omega
            have w1 : IntKind.i64.wrap ((k : Int) + 1) = (k : Int) + 1 := IntWalk.i64_in _ (by omega)
            have k6 : ((k : Int) + 1).toNat = k + 1 := by omega
            have R0 : Hid (((w4.alloc (.cells #[] 33)).drew).ownsRow w4.heap.size 33 4 (.slice (some ⟨w4.heap.size, 0, none⟩) 0 0) 0 []) := Lib.hid (nr_new w4 w4.heap.size (Nat.le_refl _)).row
            have B0 : Hid (Below w4.heap.size w4 ((w4.alloc (.cells #[] 33)).drew)) := Lib.hid ((Below.refl _ _).alloc (Nat.le_refl _) _).drew
            have src1 := Lib.hid (fun W (hb : Below w4.heap.size w4 W) => (by simpa using flatN_src (hA.out.up hb (Nat.le_refl _)) 0 k (by rw [hnn.out]; omega) : ∀ j u, (flatN N U (List.range' 0 k))[j]? = some u → W.cell? ((⟨g, off, none⟩ : Addr).add j) = some u))
            have src2 := Lib.hid (fun W (hb : Below w4.heap.size w4 W) => flatN_src (hA.out.up hb (Nat.le_refl _)) (k + 1) (nn - (k + 1)) (by rw [hnn.out]; omega))
            have fin := Lib.hid (fun (W : World) (v : Value) (hb : Below w4.heap.size w4 W) (hn : v ≠ .slice none 0 0) (h : W.ownsRow w4.heap.size 33 4 v (k + (nn - (k + 1))) (flatN N U (List.range' 0 k) ++ flatN N U (List.range' (k + 1) (nn - (k + 1))))) =>
              (show Nds W v (N.eraseIdx k) from by
                have := nds_row (w0 := w4) (Q := cutQ N.length k) (by rw [cutQ_len hkN, hnn.out]; unfold cutQ; rw [flatN_app, show nn - 1 = k + (nn - (k + 1)) by omega]; exact h) hn (hA.out.up hb (Nat.le_refl _)) (cutQ_lt hkN) (by rw [cutQ_len hkN]; omega)
                rw [cutQ_map hkN] at this; exact this))
            have hck : ¬ cp = k := by omega
            have hck' : ¬ nn = k := by omega
            by_cases hcp : k + 1 = cp
            · have hcn : cp = nn := by omega
              subst hcn
              rw [show cp - (k + 1) = 0 by omega] at fin
              clear src2
              go_region_law (first | (rw [if_pos (by rfl)]; refine wp_append_own _ _ _ 23 rfl w4.heap.size 33 j0 (.agg #[.int .i64 0, .int .i64 0, .int .i64 0, .slice none 0 0]) 4 48 Try.underlying23 hj0 jz0 jz1 jz2 rfl (by decide) _ 0 [] rfl R0.out ⟨g, off, none⟩ k cp (flatN N U (List.range' 0 k)) rfl (by rw [flatN_len, List.length_range']) (src1.out _ B0.out) (flatN_one _ _ _) (by unfold maxLen; omega) (by omega) (by have := Below.size B0.out; omega) ?_; intro v5 w5 hown5 hgrow5 hnil5; have B5 := Lib.hid (Below.trans B0.out (ownr_grown R0.out hgrow5 (Below.size B0.out))); have hn5 : v5 ≠ .slice none 0 0 := (fun e => nomatch (hnil5.1 e).1); have Y5 := Lib.hid (show w5.ownsRow w4.heap.size 33 4 v5 k (flatN N U (List.range' 0 k)) from by have h := hown5; rw [Nat.zero_add, List.nil_append] at h; exact h); clear hown5 hgrow5 hnil5 R0 B0) | (rw [if_pos (by rfl)]; refine wp_append_own _ _ _ 23 rfl w4.heap.size 33 j0 (.agg #[.int .i64 0, .int .i64 0, .int .i64 0, .slice none 0 0]) 4 48 Try.underlying23 hj0 jz0 jz1 jz2 rfl (by decide) _ k (flatN N U (List.range' 0 k)) rfl Y5.out ⟨g, off, none⟩ 0 0 (flatN N U (List.range' (k + 1) 0)) rfl (by rw [flatN_len, List.length_range']) (fun j u hj => by simp [flatN] at hj) (flatN_one _ _ _) (by unfold maxLen; omega) (by omega) (by have := Below.size B5.out; omega) ?_; intro v6 w6 hown6 hgrow6 hnil6; have B6 := Lib.hid (Below.trans B5.out (ownr_grown Y5.out hgrow6 (Below.size B5.out))); have hn6 : v6 ≠ .slice none 0 0 := (fun e => hn5 (hnil6.1 e).1); have Y6 := Lib.hid hown6; clear hown6 hgrow6 hnil6 Y5 B5))
              all_goals
                have hN6 := Lib.hid (fin.out w6 v6 B6.out hn6 Y6.out)
                go_wp2_with fail
                go_meet
                exact ⟨hN6, B6⟩
            · have hcp2 : ¬ cp = k + 1 := fun e => hcp e.symm
              go_region_law (first | (rw [if_pos (by rfl)]; refine wp_append_own _ _ _ 23 rfl w4.heap.size 33 j0 (.agg #[.int .i64 0, .int .i64 0, .int .i64 0, .slice none 0 0]) 4 48 Try.underlying23 hj0 jz0 jz1 jz2 rfl (by decide) _ 0 [] rfl R0.out ⟨g, off, none⟩ k cp (flatN N U (List.range' 0 k)) rfl (by rw [flatN_len, List.length_range']) (src1.out _ B0.out) (flatN_one _ _ _) (by unfold maxLen; omega) (by omega) (by have := Below.size B0.out; omega) ?_; intro v5 w5 hown5 hgrow5 hnil5; have B5 := Lib.hid (Below.trans B0.out (ownr_grown R0.out hgrow5 (Below.size B0.out))); have hn5 : v5 ≠ .slice none 0 0 := (fun e => nomatch (hnil5.1 e).1); have Y5 := Lib.hid (show w5.ownsRow w4.heap.size 33 4 v5 k (flatN N U (List.range' 0 k)) from by have h := hown5; rw [Nat.zero_add, List.nil_append] at h; exact h); clear hown5 hgrow5 hnil5 R0 B0) | (rw [if_pos (by rfl)]; refine wp_append_own _ _ _ 23 rfl w4.heap.size 33 j0 (.agg #[.int .i64 0, .int .i64 0, .int .i64 0, .slice none 0 0]) 4 48 Try.underlying23 hj0 jz0 jz1 jz2 rfl (by decide) _ k (flatN N U (List.range' 0 k)) rfl Y5.out ⟨g, off + (k + 1) * 4, none⟩ (nn - (k + 1)) (cp - (k + 1)) (flatN N U (List.range' (k + 1) (nn - (k + 1)))) rfl (by rw [flatN_len, List.length_range']) (src2.out _ B5.out) (flatN_one _ _ _) (by unfold maxLen; omega) (by omega) (by have := Below.size B5.out; omega) ?_; intro v6 w6 hown6 hgrow6 hnil6; have B6 := Lib.hid (Below.trans B5.out (ownr_grown Y5.out hgrow6 (Below.size B5.out))); have hn6 : v6 ≠ .slice none 0 0 := (fun e => hn5 (hnil6.1 e).1); have Y6 := Lib.hid hown6; clear hown6 hgrow6 hnil6 Y5 B5))
              all_goals
                have hN6 := Lib.hid (fin.out w6 v6 B6.out hn6 Y6.out)
                go_wp2_with fail
                go_meet
                exact ⟨hN6, B6⟩
          case rest =>
            obtain ⟨hN6, hB6⟩ := hcut
            have hO6 := Lib.hid (hO.out.up hB6.out hO.out.lt)
            have D6 := Lib.hid (bstep D.out hB6.out)
            have hfew := Lib.hid (few_cut hv.out k)
            clear hN hO D hA
            go_wp2_with fail
            with_reducible refine (iorder_any _ (N.eraseIdx k) _ hN6.out).mono ?_
            rintro e w7 ⟨b7, v7, S7, hb7, rfl, hO7, hS7, hl7, B⟩
            have hpw := Lib.hid (less_pl hfew.out hord.out (hS7.2 hfew.out.v'))
            obtain ⟨xc, rfl, hxc⟩ := hO7.shape
            have hO7 := Lib.hid hO7
            replace hO6 := Lib.hid (hO6.out.up B hO6.out.lt)
            replace D6 := Lib.hid (bstep D6.out B)
            have hxl := hO7.out.lt
            clear B hS7 hN6 hB6 hfew
            obtain ⟨nx, hnx⟩ : ∃ n, Hid (S7.length = n) := ⟨_, Lib.hid rfl⟩
            have hc7 := Lib.hid hO7.out.cell
            rw [hnx.out] at hxc hl7 ⊢
            have pl := fun W x y (hb : Below w7.heap.size w7 W) => lpl_any _ S x y W (hO6.out.read.up hb (Nat.le_refl _))
            obtain ⟨xb, hxb⟩ : ∃ b, Hid (b7 = b) := ⟨_, Lib.hid rfl⟩
            rw [hxb.out] at hc7 hxl ⊢
            clear hO7
            go_wp2_with fail
            go_loopw [11] (fun iv wr => ∃ i : Nat, i ≤ nx ∧ iv = .int .i64 i ∧ Hid (Below w7.heap.size w7 wr)) (fun iv _ => nx - (intOf iv).toNat)
            case atStart => exact ⟨0, Nat.zero_le _, rfl, Lib.hid (Below.refl _ _)⟩
            case round =>
              obtain ⟨i, hi, rfl, hE⟩ := hrel
              by_cases hlti : i < nx
              · go_wp2_with fail
                go_loopw [12] (fun jv wr2 => ∃ j : Nat, j ≤ i ∧ jv = .int .i64 j ∧ Hid (Below w7.heap.size w7 wr2)) (fun jv _ => i - (intOf jv).toNat)
                case atStart => exact ⟨0, Nat.zero_le _, rfl, hE⟩
                case round =>
                  clear hE
                  obtain ⟨j, hj, rfl, hE⟩ := hrel
                  by_cases hltj : j < i
                  · have hiS : i < S7.length := by rw [hnx.out]; exact hlti
                    have hjS : j < S7.length := by omega
                    obtain ⟨a0, a1⟩ := hc7.out j hjS
                    obtain ⟨b0, b1⟩ := hc7.out i hiS
                    have a0 := (hE.out.cell (p := ⟨xb, j * 2, none⟩) hxl).trans a0
                    have a1 := (hE.out.cell (p := ⟨xb, j * 2 + 1, none⟩) hxl).trans a1
                    have b0 := (hE.out.cell (p := ⟨xb, i * 2, none⟩) hxl).trans b0
                    have b1 := (hE.out.cell (p := ⟨xb, i * 2 + 1, none⟩) hxl).trans b1
                    have hxr := Nat.lt_of_lt_of_le hxl hE.out.size
                    have hpp := pw_getD hpw.out hltj hiS
                    obtain ⟨d, hd⟩ : ∃ d, Hid (S7.getD j nop = d) := ⟨_, Lib.hid rfl⟩
                    obtain ⟨d', hd'⟩ : ∃ d, Hid (S7.getD i nop = d) := ⟨_, Lib.hid rfl⟩
                    rw [hd.out] at a0 a1 hpp
                    rw [hd'.out] at b0 b1 hpp
                    obtain ⟨p, q⟩ := d
                    obtain ⟨p', q'⟩ := d'
                    dsimp only at a0 a1 b0 b1
                    have hpp := Lib.hid hpp
                    have hjx : j < nx := by omega
                    go_upto_region 17 with fail
                    refine wp_region_held_drew (S := fun w' => w'.cell? ⟨xb, j * 2, none⟩ = some (.int .i64 p) ∧ w'.cell? ⟨xb, j * 2 + 1, none⟩ = some (.int .i64 q) ∧ w'.cell? ⟨xb, i * 2, none⟩ = some (.int .i64 p') ∧ w'.cell? ⟨xb, i * 2 + 1, none⟩ = some (.int .i64 q') ∧ Below wr.heap.size wr w') (by kernel_rfl) ⟨a0, a1, b0, b1, Below.drew (Below.refl _ _)⟩ (fun hHeld => ?_)
                    refine wpAnyH_take (i := 0) (oi := ⟨some 72, _, _, _, _, _⟩) (v := ?_) rfl (by kernel_rfl) (by kernel_rfl) (by kernel_rfl) (fun _ _ _ h => h) (Or.inl ⟨by rfl, ?_⟩) (by assumption) ?_
                    rotate_left 1
                    · intro w hSw; (try dsimp only at hSw); go_simp; try (with_reducible rfl)
                    try simp only [Act.put, List.setIfInBounds_toArray, List.set_cons_zero, List.set_cons_succ]
                    refine wpAnyH_take (i := 1) (oi := ⟨some 73, _, _, _, _, _⟩) (v := ?_) rfl (by kernel_rfl) (by kernel_rfl) (by kernel_rfl) (fun _ _ _ h => h) (Or.inl ⟨by rfl, ?_⟩) (by assumption) ?_
                    rotate_left 1
                    · intro w hSw; (try dsimp only at hSw); go_simp; try (with_reducible rfl)
                    try simp only [Act.put, List.setIfInBounds_toArray, List.set_cons_zero, List.set_cons_succ]
                    refine wpAnyH_take (i := 2) (oi := ⟨some 74, _, _, _, _, _⟩) (v := ?_) rfl (by kernel_rfl) (by kernel_rfl) (by kernel_rfl) (fun _ _ _ h => h) (Or.inl ⟨by rfl, ?_⟩) (by assumption) ?_
                    rotate_left 1
                    · intro w hSw; (try dsimp only at hSw); go_simp; try (with_reducible rfl)
                    try simp only [Act.put, List.setIfInBounds_toArray, List.set_cons_zero, List.set_cons_succ]
                    refine wpAnyH_take (i := 3) (oi := ⟨some 75, _, _, _, _, _⟩) (v := ?_) rfl (by kernel_rfl) (by kernel_rfl) (by kernel_rfl) (fun _ _ _ h => h) (Or.inl ⟨by rfl, ?_⟩) (by assumption) ?_
                    rotate_left 1
                    · intro w hSw; (try dsimp only at hSw); go_simp; try (with_reducible rfl)
                    try simp only [Act.put, List.setIfInBounds_toArray, List.set_cons_zero, List.set_cons_succ]
                    refine wpAnyH_take (i := 4) (oi := ⟨some 76, _, _, _, _, _⟩) (v := ?_) rfl (by kernel_rfl) (by kernel_rfl) (by kernel_rfl) (fun _ _ _ h => h) (Or.inl ⟨by rfl, ?_⟩) (by assumption) ?_
                    rotate_left 1
                    · intro w hSw; (try dsimp only at hSw); go_simp; try (with_reducible rfl)
                    try simp only [Act.put, List.setIfInBounds_toArray, List.set_cons_zero, List.set_cons_succ]
                    refine wpAnyH_take (i := 6) (oi := ⟨some 78, _, _, _, _, _⟩) (v := ?_) rfl (by kernel_rfl) (by kernel_rfl) (by kernel_rfl) (fun _ _ _ h => h) (Or.inl ⟨by rfl, ?_⟩) (by assumption) ?_
                    rotate_left 1
                    · intro w hSw; (try dsimp only at hSw); go_simp; try (with_reducible rfl)
                    try simp only [Act.put, List.setIfInBounds_toArray, List.set_cons_zero, List.set_cons_succ]
                    refine wpAnyH_take (i := 7) (oi := ⟨some 79, _, _, _, _, _⟩) (v := ?_) rfl (by kernel_rfl) (by kernel_rfl) (by kernel_rfl) (fun _ _ _ h => h) (Or.inl ⟨by rfl, ?_⟩) (by assumption) ?_
                    rotate_left 1
                    · intro w hSw; (try dsimp only at hSw); go_simp; try (with_reducible rfl)
                    try simp only [Act.put, List.setIfInBounds_toArray, List.set_cons_zero, List.set_cons_succ]
                    refine wpAnyH_take (i := 8) (oi := ⟨some 80, _, _, _, _, _⟩) (v := ?_) rfl (by kernel_rfl) (by kernel_rfl) (by kernel_rfl) (fun _ _ _ h => h) (Or.inl ⟨by rfl, ?_⟩) (by assumption) ?_
                    rotate_left 1
                    · intro w hSw; (try dsimp only at hSw); go_simp; try (with_reducible rfl)
                    try simp only [Act.put, List.setIfInBounds_toArray, List.set_cons_zero, List.set_cons_succ]
                    refine wpAnyH_take (i := 9) (oi := ⟨some 81, _, _, _, _, _⟩) (v := ?_) rfl (by kernel_rfl) (by kernel_rfl) (by kernel_rfl) (fun _ _ _ h => h) (Or.inl ⟨by rfl, ?_⟩) (by assumption) ?_
                    rotate_left 1
                    · intro w hSw; (try dsimp only at hSw); go_simp; try (with_reducible rfl)
                    try simp only [Act.put, List.setIfInBounds_toArray, List.set_cons_zero, List.set_cons_succ]
                    refine wpAnyH_take (i := 10) (oi := ⟨some 82, _, _, _, _, _⟩) (v := ?_) rfl (by kernel_rfl) (by kernel_rfl) (by kernel_rfl) (fun _ _ _ h => h) (Or.inl ⟨by rfl, ?_⟩) (by assumption) ?_
                    rotate_left 1
                    · intro w hSw; (try dsimp only at hSw); go_simp; try (with_reducible rfl)
                    try simp only [Act.put, List.setIfInBounds_toArray, List.set_cons_zero, List.set_cons_succ]
                    refine wpAnyH_ready (rs := [5]) (by kernel_rfl) (by simp) ?_
                    refine AllReadyH.cons (o := ⟨some 77, _, _, _, _, _⟩) rfl (fun K hK => ?_) AllReadyH.nil
                    go_simp
                    with_reducible refine (pl _ p q (bstep hE.out hHeld.2.2.2.2)).mono ?_
                    rintro e wq1 ⟨⟨z1, rfl, hz1⟩, hb⟩
                    go_wp2_with fail
                    refine hK.out _ _ ?_ (fun hHeld2 => ?_)
                    · exact ⟨cell_later hb hHeld.1, cell_later hb hHeld.2.1, cell_later hb hHeld.2.2.1, cell_later hb hHeld.2.2.2.1, hHeld.2.2.2.2.trans (hb.mono hHeld.2.2.2.2.size)⟩
                    clear hK K hHeld hb
                    have hHeld := hHeld2
                    clear hHeld2
                    try simp only [Act.put, List.setIfInBounds_toArray, List.set_cons_zero, List.set_cons_succ]
                    refine wpAnyH_ready (rs := [11]) (by kernel_rfl) (by simp) ?_
                    refine AllReadyH.cons (o := ⟨some 83, _, _, _, _, _⟩) rfl (fun K hK => ?_) AllReadyH.nil
                    go_simp
                    with_reducible refine (pl _ p' q' (bstep hE.out hHeld.2.2.2.2)).mono ?_
                    rintro e wq2 ⟨⟨z2, rfl, hz2⟩, hb⟩
                    go_wp2_with fail
                    refine hK.out _ _ ?_ (fun hHeld2 => ?_)
                    · exact ⟨cell_later hb hHeld.1, cell_later hb hHeld.2.1, cell_later hb hHeld.2.2.1, cell_later hb hHeld.2.2.2.1, hHeld.2.2.2.2.trans (hb.mono hHeld.2.2.2.2.size)⟩
                    clear hK K hHeld hb
                    have hHeld := hHeld2
                    clear hHeld2
                    try simp only [Act.put, List.setIfInBounds_toArray, List.set_cons_zero, List.set_cons_succ]
                    have hle : ¬ (z2 < z1) := by have := hpp.out _ _ hz1 hz2; omega
                    clear hz1 hz2
                    refine wpAnyH_take (i := 12) (oi := ⟨some 84, _, _, _, _, _⟩) (v := ?_) rfl (by kernel_rfl) (by kernel_rfl) (by kernel_rfl) (fun _ _ _ h => h) (Or.inl ⟨by rfl, ?_⟩) (by assumption) ?_
                    rotate_left 1
                    · intro w hSw; (try dsimp only at hSw); go_simp; try (with_reducible rfl)
                    try simp only [Act.put, List.setIfInBounds_toArray, List.set_cons_zero, List.set_cons_succ]
                    refine wpAnyH_done (by kernel_rfl) ?_ _
                    try simp only [Act.put, List.setIfInBounds_toArray, List.set_cons_zero, List.set_cons_succ]
                    have E2 := Lib.hid (bstep hE.out hHeld.2.2.2.2)
                    clear hHeld
                    go_wp2_with fail
                    refine ⟨⟨j + 1, by omega, by go_num, E2⟩, ?_⟩
                    simp [intOf]; omega
                  · have hgj : ¬ ((j : Int) < i) := by omega
                    go_wp2_with fail
                    refine ⟨⟨i + 1, by omega, by go_num, hE⟩, ?_⟩
                    simp [intOf]; omega
              · have hgi : ¬ ((i : Int) < nx) := by omega
                have D7 := Lib.hid (bstep D6.out hE.out)
                go_wp2_with fail
                go_ret
                exact ⟨rfl, D7.out⟩
end Go.Proofs.Ytbklkhndjckckaa
