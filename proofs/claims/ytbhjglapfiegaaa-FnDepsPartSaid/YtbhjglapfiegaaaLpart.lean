/- The walk of FnDepsPart. -/
import Derived.Test.YtbhjglapfiegaaaDval
import Derived.Test.YtbhjglapfiegaaaSdep
import Derived.Test.YtbhjglapfiegaaaDdv
import Derived.Deep.RegionLaw
namespace Go.Proofs.Ytbhjglapfiegaaa
open Go.RowKit
set_option linter.unusedVariables false

theorem part_less {C : List Pid} {k : Nat} (h : srtB C = true) (hk : k < C.length) : srtB (C.take k ++ C.drop (k + 1)) = true := by
  obtain ⟨h1, h2, h3⟩ := srt_of h
  have hs : List.Sublist (C.take k ++ C.drop (k + 1)) C := by rw [← List.eraseIdx_eq_take_drop_succ]; exact List.eraseIdx_sublist _ _
  refine srt_to (Nat.le_trans hs.length_le h1) (List.all_eq_true.2 fun x hx => List.all_eq_true.1 h2 x (hs.subset hx)) (List.Pairwise.sublist hs h3)
theorem part_twice {C : List Pid} {k : Nat} (hk : k < C.length) : srtB (C.take (k + 1) ++ C.drop k) = false := by
  have hl : (C.take (k + 1)).length = k + 1 := by rw [List.length_take]; omega
  refine srt_turn (k := k) (by rw [List.length_append, hl, List.length_drop]; omega) ?_
  have e1 : (C.take (k + 1) ++ C.drop k).getD k nop = C.getD k nop := by
    rw [List.getD_eq_getElem?_getD, List.getElem?_append_left (by omega), List.getElem?_take, if_pos (by omega), ← List.getD_eq_getElem?_getD]
  have e2 : (C.take (k + 1) ++ C.drop k).getD (k + 1) nop = C.getD k nop := by
    rw [List.getD_eq_getElem?_getD, List.getElem?_append_right (by omega), hl, Nat.sub_self, List.getElem?_drop, Nat.add_zero, ← List.getD_eq_getElem?_getD]
  rw [e1, e2]; exact ltP_irr _

theorem flat_src {W : World} {b off : Nat} {C S : List Pid} (h : ∀ i, i < C.length → W.cell? ⟨b, off + i * 2, none⟩ = some (.int .i64 (C.getD i nop).1) ∧ W.cell? ⟨b, off + i * 2 + 1, none⟩ = some (.int .i64 (C.getD i nop).2)) (z : Nat)
    (hS : ∀ i, i < S.length → z + i < C.length ∧ S.getD i nop = C.getD (z + i) nop) : ∀ j u, (flatP S)[j]? = some u → W.cell? ((⟨b, off + z * 2, none⟩ : Addr).add j) = some u := by
  intro j u hj
  have hl : j < (flatP S).length := by
    rcases Nat.lt_or_ge j (flatP S).length with h' | h'
    · exact h'
    · rw [List.getElem?_eq_none h'] at hj; cases hj
  rw [flatP_len] at hl
  have hi : j / 2 < S.length := by omega
  obtain ⟨h1, h2⟩ := hS _ hi
  obtain ⟨f0, f1⟩ := flatP_get S _ hi
  obtain ⟨c0, c1⟩ := h _ h1
  rw [h2] at f0 f1
  have ha : (⟨b, off + z * 2, none⟩ : Addr).add j = ⟨b, off + z * 2 + j, none⟩ := by simp [Addr.add]
  rw [ha]
  rcases (show j % 2 = 0 ∨ j % 2 = 1 by omega) with e | e
  · have e1 : off + z * 2 + j = off + (z + j / 2) * 2 := by omega
    have e2 : j / 2 * 2 = j := by omega
    rw [e2, hj] at f0
    rw [e1, f0, c0]
  · have e1 : off + z * 2 + j = off + (z + j / 2) * 2 + 1 := by omega
    have e2 : j / 2 * 2 + 1 = j := by omega
    rw [e2, hj] at f1
    rw [e1, f1, c1]
theorem Row.putS {w w' : World} {B : Nat} {v v' : Value} {O S : List Pid} (h : Row w B v O) (hown : w'.ownsRow B 41 2 v' (O.length + S.length) (flatP O ++ flatP S)) (hn : v' ≠ .slice none 0 0) : Row w' B v' (O ++ S) :=
  ⟨by rw [flatP_app, List.length_append]; exact hown, hn⟩
theorem seg_take {C : List Pid} {k : Nat} (hk : k ≤ C.length) : ∀ i, i < (C.take k).length → 0 + i < C.length ∧ (C.take k).getD i nop = C.getD (0 + i) nop := by
  intro i hi
  rw [List.length_take] at hi
  refine ⟨by omega, ?_⟩
  rw [List.getD_eq_getElem?_getD, List.getElem?_take, if_pos (by omega), ← List.getD_eq_getElem?_getD, Nat.zero_add]
theorem seg_drop {C : List Pid} {z : Nat} : ∀ i, i < (C.drop z).length → z + i < C.length ∧ (C.drop z).getD i nop = C.getD (z + i) nop := by
  intro i hi
  rw [List.length_drop] at hi
  refine ⟨by omega, ?_⟩
  rw [List.getD_eq_getElem?_getD, List.getElem?_drop, ← List.getD_eq_getElem?_getD]
/-- A step of the law's appends. -/
theorem part_step {w3 W w4 : World} {v v' : Value} {O S : List Pid} (hR : Row W w3.heap.size v O) (D : Below w3.heap.size w3 W) (hown : w4.ownsRow w3.heap.size 41 2 v' (O.length + S.length) (flatP O ++ flatP S)) (hg : W.grownBy w4 (Value.ownBlock v)) (hn : v' ≠ .slice none 0 0) :
    Row w4 w3.heap.size v' (O ++ S) ∧ Below w3.heap.size w3 w4 := ⟨hR.putS hown hn, D.trans (grown_below hR hg D.size)⟩

set_option maxHeartbeats 4000000 in
theorem fnDepsPart_walk (a : Option Addr) (len cap : Nat) (a2 : Option Addr) (len2 cap2 : Nat) (w : World) (hc : CodeIn w a len cap) (hcap : cap ≤ maxLen) (hc2 : CodeIn w a2 len2 cap2) (hcap2 : cap2 ≤ maxLen) :
    Calls Try.prog 4 #[.slice a len cap, .slice a2 len2 cap2] w fun e w' => e = .returned (.bool true) ∧ Below w.heap.size w w' := by
  have hm : cap ≤ 9223372036854775807 := by simpa [maxLen] using hcap
  have hlc := hc.1
  have hm2 : cap2 ≤ 9223372036854775807 := by simpa [maxLen] using hcap2
  have hlc2 := hc2.1
  by_cases hl : 1048576 < len
  · clear hcap hc hc2 hcap2
    go_enter Try.func4, Try.ntmps4
    go_wp2_with fail
    go_ret
    exact ⟨rfl, Below.refl _ _⟩
  · by_cases hl2 : 1048576 < len2
    · clear hcap hc hc2 hcap2
      go_enter Try.func4, Try.ntmps4
      go_wp2_with fail
      go_ret
      exact ⟨rfl, Below.refl _ _⟩
    · have hc1 := Lib.hid hc
      have hcap1 := Lib.hid hcap
      obtain ⟨i0, hi, hz0, hz1, hz2⟩ := info_parts infoP
      clear hc hcap hc2 hcap2
      go_enter Try.func4, Try.ntmps4
      go_wp2_with fail
      refine (ddv_any a len cap w hc1.out hcap1.out).mono ?_
      rintro e w1 ⟨u, C, rfl, hI, hCl, D1'⟩
      have D1 := Lib.hid D1'
      obtain ⟨n, hn⟩ : ∃ n, Hid (C.length = n) := ⟨_, Lib.hid rfl⟩
      rw [hn.out] at hCl
      obtain ⟨ad, cp, hu, hcp, _, hrd⟩ := hI
      have hI := Lib.hid (show Ids w1 u C from ⟨ad, cp, hu, hcp, by omega, hrd⟩)
      rw [hn.out] at hu hcp
      subst hu
      have hrd := Lib.hid hrd
      clear hc1 hcap1 D1'
      have sv := fun u C w h => sval_any u C w h
      obtain ⟨q, hq⟩ : ∃ q, Hid (srtB C = q) := ⟨_, Lib.hid rfl⟩
      go_wp2_with fail
      refine (ival_any _ C _ hI.out).mono ?_
      rintro e w2 ⟨rfl, hb⟩
      have D2 := Lib.hid (bstep D1.out hb)
      have hI2 := Lib.hid (hI.out.up hb (Nat.le_refl _))
      clear hb hI D1
      go_wp2_with fail
      refine (sval_any _ C _ hI2.out).mono ?_
      rintro e w3 ⟨rfl, hb⟩
      have D3 := Lib.hid (bstep D2.out hb)
      have hI3 := Lib.hid (hI2.out.up hb (Nat.le_refl _))
      clear hb hI2 D2
      rw [hq.out]
      cases q
      · clear hI3
        go_wp2_with fail
        go_ret
        exact ⟨rfl, D3.out⟩
      · by_cases hn0 : n = 0
        · subst hn0
          clear hI3
          go_wp2_with fail
          go_ret
          exact ⟨rfl, D3.out⟩
        · have hn0' : ((n : Int) == 0) = false := by simpa using hn0
          obtain ⟨k, hk⟩ : ∃ k : Nat, k = len2 % n := ⟨_, rfl⟩
          have hkn : k < n := by rw [hk]; exact Nat.mod_lt _ (by omega)
          have hmod : (len2 : Int).tmod (n : Int) = (k : Int) := by rw [hk, Int.tmod_eq_emod_of_nonneg (by omega)]; exact (Int.natCast_emod _ _).symm
          obtain ⟨b, off, had, hb1, hb2⟩ : ∃ b off, ad = some ⟨b, off, none⟩ ∧ b < w3.heap.size ∧ ∀ i, i < C.length → w3.cell? ⟨b, off + i * 2, none⟩ = some (.int .i64 (C.getD i nop).1) ∧ w3.cell? ⟨b, off + i * 2 + 1, none⟩ = some (.int .i64 (C.getD i nop).2) := by
            obtain ⟨ad', cp', e, _, _, h3⟩ := hI3.out
            injection e with e1 e2 e3
            rcases h3 with h3 | ⟨b, off, h4, h5⟩
            · exact absurd (hn.out.symm.trans h3) hn0
            · exact ⟨b, off, e1.trans h4, h5⟩
          subst had
          have hb2 := Lib.hid hb2
          have hx := Lib.hid (part_less (k := k) hq.out (by rw [hn.out]; exact hkn))
          have hy := Lib.hid (part_twice (C := C) (k := k) (by rw [hn.out]; exact hkn))
          clear hk hrd hI3
          go_wp2_with fail
          have k0 : (0 : Int) ≤ (k : Int) := by omega
          have k1 : (k : Int) ≤ (n : Int) := by omega
          have k2 : (k : Int) ≤ (cp : Int) := by omega
          have k3 : (k : Int) + 1 ≤ (n : Int) := by omega
          have k4 : (0 : Int) ≤ (k : Int) + 1 := by omega
          have k5 : (k : Int) + 1 ≤ (cp : Int) := by omega
          have w1 : IntKind.i64.wrap ((k : Int) + 1) = (k : Int) + 1 := IntWalk.i64_in _ (by omega)
          have k6 : ((k : Int) + 1).toNat = k + 1 := by omega
          have R0 : Hid (Row ((w3.alloc (.cells #[] 41)).drew) w3.heap.size (.slice (some ⟨w3.heap.size, 0, none⟩) 0 0) []) := Lib.hid (row_new w3 w3.heap.size (Nat.le_refl _))
          have B0 : Hid (Below w3.heap.size w3 ((w3.alloc (.cells #[] 41)).drew)) := Lib.hid ((Below.refl _ _).alloc (Nat.le_refl _) _).drew
          have lt1 : (C.take k).length = k := by rw [List.length_take, hn.out]; omega
          have ld1 : (C.drop (k + 1)).length = n - (k + 1) := by rw [List.length_drop, hn.out]
          have ld0 : (C.drop k).length = n - k := by rw [List.length_drop, hn.out]
          have lt2 : (C.take (k + 1)).length = k + 1 := by rw [List.length_take, hn.out]; omega
          have hck : ¬ cp = k := by omega
          by_cases hcp : k + 1 = cp
          · have hd0 : C.drop (k + 1) = [] := List.drop_eq_nil_of_le (by rw [hn.out]; omega)
            go_region_law (first | (rw [if_pos (by rfl)]; refine wp_append_own _ _ _ 23 rfl w3.heap.size 41 i0 (.agg #[.int .i64 0, .int .i64 0]) 2 16 Try.underlying23 hi hz0 hz1 hz2 rfl (by decide) _ 0 [] rfl R0.out.1 ⟨b, off, none⟩ k cp (flatP (C.take k)) rfl (by rw [flatP_len, lt1]) (flat_src (off := off) (fun i hi' => by rw [Below.cell B0.out (p := ⟨b, off + i * 2, none⟩) hb1, Below.cell B0.out (p := ⟨b, off + i * 2 + 1, none⟩) hb1]; exact hb2.out i hi') 0 (seg_take (by rw [hn.out]; omega))) (flatP_one _) (by unfold maxLen; omega) (by omega) (by have := Below.size B0.out; omega) ?_; intro v4 w4 hown4 hgrow4 hnil4; have X4 := part_step R0.out B0.out (S := (C.take k)) (by rw [lt1]; exact hown4) hgrow4 (fun e => R0.out.2 (hnil4.1 e).1); have Y4 := Lib.hid X4.1; have B4 := Lib.hid X4.2; clear hown4 hgrow4 hnil4 X4 R0 B0) | (rw [if_pos (by rfl)]; refine wp_append_own _ _ _ 23 rfl w3.heap.size 41 i0 (.agg #[.int .i64 0, .int .i64 0]) 2 16 Try.underlying23 hi hz0 hz1 hz2 rfl (by decide) _ k (flatP (C.take k)) rfl (by have := Y4.out.1; simp only [List.nil_append, lt1] at this; exact this) ⟨b, off, none⟩ 0 0 (flatP ([] : List Pid)) rfl (by rw [flatP_len, List.length_nil]) (flat_src (off := off) (fun i hi' => by rw [Below.cell B4.out (p := ⟨b, off + i * 2, none⟩) hb1, Below.cell B4.out (p := ⟨b, off + i * 2 + 1, none⟩) hb1]; exact hb2.out i hi') 0 (fun i hi' => absurd hi' (Nat.not_lt_zero _))) (flatP_one _) (by unfold maxLen; omega) (by omega) (by have := Below.size B4.out; omega) ?_; intro v5 w5 hown5 hgrow5 hnil5; have X5 := part_step Y4.out B4.out (S := ([] : List Pid)) (by simp only [List.nil_append, lt1, List.length_nil]; exact hown5) hgrow5 (fun e => Y4.out.2 (hnil5.1 e).1); have Y5 := Lib.hid X5.1; have B5 := Lib.hid X5.2; clear hown5 hgrow5 hnil5 X5 Y4 B4))
            have Y5 : Hid (Row w5 w3.heap.size v5 (C.take k ++ C.drop (k + 1))) := Lib.hid (by rw [hd0]; exact Y5.out)
            replace hcp := Lib.hid hcp
            obtain ⟨W, hW⟩ : ∃ W, W = w5 := ⟨_, rfl⟩
            have D5 := Lib.hid (bstep D3.out B5.out)
            have hb2 : Hid (∀ i, i < C.length → W.cell? ⟨b, off + i * 2, none⟩ = some (.int .i64 (C.getD i nop).1) ∧ W.cell? ⟨b, off + i * 2 + 1, none⟩ = some (.int .i64 (C.getD i nop).2)) := Lib.hid (fun i hi' => by rw [hW, Below.cell B5.out (p := ⟨b, off + i * 2, none⟩) hb1, Below.cell B5.out (p := ⟨b, off + i * 2 + 1, none⟩) hb1]; exact hb2.out i hi')
            have hb1 : b < W.heap.size := by rw [hW]; exact Nat.lt_of_lt_of_le hb1 B5.out.size
            have s35 : w3.heap.size ≤ W.heap.size := by rw [hW]; exact B5.out.size
            rw [← hW] at D5 Y5 ⊢
            obtain ⟨vx, hvx⟩ : ∃ vx, vx = v5 := ⟨_, rfl⟩
            rw [← hvx] at Y5 ⊢
            have Yx := Lib.hid Y5.out
            clear hW hvx Y5 B5 D3
            have R0 : Hid (Row ((W.alloc (.cells #[] 41)).drew) W.heap.size (.slice (some ⟨W.heap.size, 0, none⟩) 0 0) []) := Lib.hid (row_new W W.heap.size (Nat.le_refl _))
            have B0 : Hid (Below W.heap.size W ((W.alloc (.cells #[] 41)).drew)) := Lib.hid ((Below.refl _ _).alloc (Nat.le_refl _) _).drew
            go_wp2_with fail
            go_region_law (first | (rw [if_pos (by rfl)]; refine wp_append_own _ _ _ 23 rfl W.heap.size 41 i0 (.agg #[.int .i64 0, .int .i64 0]) 2 16 Try.underlying23 hi hz0 hz1 hz2 rfl (by decide) _ 0 [] rfl R0.out.1 ⟨b, off, none⟩ (k + 1) cp (flatP (C.take (k + 1))) rfl (by rw [flatP_len, lt2]) (flat_src (off := off) (fun i hi' => by rw [Below.cell B0.out (p := ⟨b, off + i * 2, none⟩) hb1, Below.cell B0.out (p := ⟨b, off + i * 2 + 1, none⟩) hb1]; exact hb2.out i hi') 0 (seg_take (by rw [hn.out]; omega))) (flatP_one _) (by unfold maxLen; omega) (by omega) (by have := Below.size B0.out; omega) ?_; intro v4 w4 hown4 hgrow4 hnil4; have X4 := part_step R0.out B0.out (S := (C.take (k + 1))) (by rw [lt2]; exact hown4) hgrow4 (fun e => R0.out.2 (hnil4.1 e).1); have Y4 := Lib.hid X4.1; have B4 := Lib.hid X4.2; clear hown4 hgrow4 hnil4 X4 R0 B0) | (rw [if_pos (by rfl)]; refine wp_append_own _ _ _ 23 rfl W.heap.size 41 i0 (.agg #[.int .i64 0, .int .i64 0]) 2 16 Try.underlying23 hi hz0 hz1 hz2 rfl (by decide) _ (k + 1) (flatP (C.take (k + 1))) rfl (by have := Y4.out.1; simp only [List.nil_append, lt2] at this; exact this) ⟨b, off + k * 2, none⟩ (n - k) (cp - k) (flatP (C.drop k)) rfl (by rw [flatP_len, ld0]) (flat_src (off := off) (fun i hi' => by rw [Below.cell B4.out (p := ⟨b, off + i * 2, none⟩) hb1, Below.cell B4.out (p := ⟨b, off + i * 2 + 1, none⟩) hb1]; exact hb2.out i hi') k seg_drop) (flatP_one _) (by unfold maxLen; omega) (by omega) (by have := Below.size B4.out; omega) ?_; intro v5 w5 hown5 hgrow5 hnil5; have X5 := part_step Y4.out B4.out (S := (C.drop k)) (by simp only [List.nil_append, lt2, ld0]; exact hown5) hgrow5 (fun e => Y4.out.2 (hnil5.1 e).1); have Y5 := Lib.hid X5.1; have B5 := Lib.hid X5.2; clear hown5 hgrow5 hnil5 X5 Y4 B4))
            have D6 := Lib.hid (bstep D5.out B5.out)
            have Yx6 := Yx.out.up B5.out
            obtain ⟨gx, hgx, Ox⟩ := Yx6.own (by rw [List.length_append, lt1, ld1]; omega)
            obtain ⟨gy, hgy, Oy⟩ := Y5.out.own (by rw [List.length_append, List.nil_append, lt2, ld0]; omega)
            have Ix := Lib.hid Ox.read
            have Iy := Lib.hid Oy.read
            clear Ox Oy Yx6 Yx Y5 B5 D5
            go_wp2_with fail
            refine (ival_any _ _ _ Ix.out).mono ?_
            rintro e w7 ⟨rfl, hb⟩
            have D7 := Lib.hid (bstep D6.out hb)
            have Iy7 := Lib.hid (Iy.out.up hb (Nat.le_refl _))
            clear hb D6 Ix Iy
            rw [hx.out]
            go_wp2_with fail
            refine (ival_any _ _ _ Iy7.out).mono ?_
            rintro e w8 ⟨rfl, hb⟩
            have D8 := Lib.hid (bstep D7.out hb)
            clear hb D7 Iy7
            rw [List.nil_append, hy.out]
            go_wp2_with fail
            go_ret
            exact ⟨rfl, D8.out⟩
          · have hcp2 : ¬ cp = k + 1 := fun e => hcp e.symm
            go_region_law (first | (rw [if_pos (by rfl)]; refine wp_append_own _ _ _ 23 rfl w3.heap.size 41 i0 (.agg #[.int .i64 0, .int .i64 0]) 2 16 Try.underlying23 hi hz0 hz1 hz2 rfl (by decide) _ 0 [] rfl R0.out.1 ⟨b, off, none⟩ k cp (flatP (C.take k)) rfl (by rw [flatP_len, lt1]) (flat_src (off := off) (fun i hi' => by rw [Below.cell B0.out (p := ⟨b, off + i * 2, none⟩) hb1, Below.cell B0.out (p := ⟨b, off + i * 2 + 1, none⟩) hb1]; exact hb2.out i hi') 0 (seg_take (by rw [hn.out]; omega))) (flatP_one _) (by unfold maxLen; omega) (by omega) (by have := Below.size B0.out; omega) ?_; intro v4 w4 hown4 hgrow4 hnil4; have X4 := part_step R0.out B0.out (S := (C.take k)) (by rw [lt1]; exact hown4) hgrow4 (fun e => R0.out.2 (hnil4.1 e).1); have Y4 := Lib.hid X4.1; have B4 := Lib.hid X4.2; clear hown4 hgrow4 hnil4 X4 R0 B0) | (rw [if_pos (by rfl)]; refine wp_append_own _ _ _ 23 rfl w3.heap.size 41 i0 (.agg #[.int .i64 0, .int .i64 0]) 2 16 Try.underlying23 hi hz0 hz1 hz2 rfl (by decide) _ k (flatP (C.take k)) rfl (by have := Y4.out.1; simp only [List.nil_append, lt1] at this; exact this) ⟨b, off + (k + 1) * 2, none⟩ (n - (k + 1)) (cp - (k + 1)) (flatP (C.drop (k + 1))) rfl (by rw [flatP_len, ld1]) (flat_src (off := off) (fun i hi' => by rw [Below.cell B4.out (p := ⟨b, off + i * 2, none⟩) hb1, Below.cell B4.out (p := ⟨b, off + i * 2 + 1, none⟩) hb1]; exact hb2.out i hi') (k + 1) seg_drop) (flatP_one _) (by unfold maxLen; omega) (by omega) (by have := Below.size B4.out; omega) ?_; intro v5 w5 hown5 hgrow5 hnil5; have X5 := part_step Y4.out B4.out (S := (C.drop (k + 1))) (by simp only [List.nil_append, lt1, ld1]; exact hown5) hgrow5 (fun e => Y4.out.2 (hnil5.1 e).1); have Y5 := Lib.hid X5.1; have B5 := Lib.hid X5.2; clear hown5 hgrow5 hnil5 X5 Y4 B4))
            have Y5 : Hid (Row w5 w3.heap.size v5 (C.take k ++ C.drop (k + 1))) := Lib.hid Y5.out
            obtain ⟨W, hW⟩ : ∃ W, W = w5 := ⟨_, rfl⟩
            have D5 := Lib.hid (bstep D3.out B5.out)
            have hb2 : Hid (∀ i, i < C.length → W.cell? ⟨b, off + i * 2, none⟩ = some (.int .i64 (C.getD i nop).1) ∧ W.cell? ⟨b, off + i * 2 + 1, none⟩ = some (.int .i64 (C.getD i nop).2)) := Lib.hid (fun i hi' => by rw [hW, Below.cell B5.out (p := ⟨b, off + i * 2, none⟩) hb1, Below.cell B5.out (p := ⟨b, off + i * 2 + 1, none⟩) hb1]; exact hb2.out i hi')
            have hb1 : b < W.heap.size := by rw [hW]; exact Nat.lt_of_lt_of_le hb1 B5.out.size
            have s35 : w3.heap.size ≤ W.heap.size := by rw [hW]; exact B5.out.size
            rw [← hW] at D5 Y5 ⊢
            obtain ⟨vx, hvx⟩ : ∃ vx, vx = v5 := ⟨_, rfl⟩
            rw [← hvx] at Y5 ⊢
            have Yx := Lib.hid Y5.out
            clear hW hvx Y5 B5 D3
            have R0 : Hid (Row ((W.alloc (.cells #[] 41)).drew) W.heap.size (.slice (some ⟨W.heap.size, 0, none⟩) 0 0) []) := Lib.hid (row_new W W.heap.size (Nat.le_refl _))
            have B0 : Hid (Below W.heap.size W ((W.alloc (.cells #[] 41)).drew)) := Lib.hid ((Below.refl _ _).alloc (Nat.le_refl _) _).drew
            go_wp2_with fail
            go_region_law (first | (rw [if_pos (by rfl)]; refine wp_append_own _ _ _ 23 rfl W.heap.size 41 i0 (.agg #[.int .i64 0, .int .i64 0]) 2 16 Try.underlying23 hi hz0 hz1 hz2 rfl (by decide) _ 0 [] rfl R0.out.1 ⟨b, off, none⟩ (k + 1) cp (flatP (C.take (k + 1))) rfl (by rw [flatP_len, lt2]) (flat_src (off := off) (fun i hi' => by rw [Below.cell B0.out (p := ⟨b, off + i * 2, none⟩) hb1, Below.cell B0.out (p := ⟨b, off + i * 2 + 1, none⟩) hb1]; exact hb2.out i hi') 0 (seg_take (by rw [hn.out]; omega))) (flatP_one _) (by unfold maxLen; omega) (by omega) (by have := Below.size B0.out; omega) ?_; intro v4 w4 hown4 hgrow4 hnil4; have X4 := part_step R0.out B0.out (S := (C.take (k + 1))) (by rw [lt2]; exact hown4) hgrow4 (fun e => R0.out.2 (hnil4.1 e).1); have Y4 := Lib.hid X4.1; have B4 := Lib.hid X4.2; clear hown4 hgrow4 hnil4 X4 R0 B0) | (rw [if_pos (by rfl)]; refine wp_append_own _ _ _ 23 rfl W.heap.size 41 i0 (.agg #[.int .i64 0, .int .i64 0]) 2 16 Try.underlying23 hi hz0 hz1 hz2 rfl (by decide) _ (k + 1) (flatP (C.take (k + 1))) rfl (by have := Y4.out.1; simp only [List.nil_append, lt2] at this; exact this) ⟨b, off + k * 2, none⟩ (n - k) (cp - k) (flatP (C.drop k)) rfl (by rw [flatP_len, ld0]) (flat_src (off := off) (fun i hi' => by rw [Below.cell B4.out (p := ⟨b, off + i * 2, none⟩) hb1, Below.cell B4.out (p := ⟨b, off + i * 2 + 1, none⟩) hb1]; exact hb2.out i hi') k seg_drop) (flatP_one _) (by unfold maxLen; omega) (by omega) (by have := Below.size B4.out; omega) ?_; intro v5 w5 hown5 hgrow5 hnil5; have X5 := part_step Y4.out B4.out (S := (C.drop k)) (by simp only [List.nil_append, lt2, ld0]; exact hown5) hgrow5 (fun e => Y4.out.2 (hnil5.1 e).1); have Y5 := Lib.hid X5.1; have B5 := Lib.hid X5.2; clear hown5 hgrow5 hnil5 X5 Y4 B4))
            have D6 := Lib.hid (bstep D5.out B5.out)
            have Yx6 := Yx.out.up B5.out
            obtain ⟨gx, hgx, Ox⟩ := Yx6.own (by rw [List.length_append, lt1, ld1]; omega)
            obtain ⟨gy, hgy, Oy⟩ := Y5.out.own (by rw [List.length_append, List.nil_append, lt2, ld0]; omega)
            have Ix := Lib.hid Ox.read
            have Iy := Lib.hid Oy.read
            clear Ox Oy Yx6 Yx Y5 B5 D5
            go_wp2_with fail
            refine (ival_any _ _ _ Ix.out).mono ?_
            rintro e w7 ⟨rfl, hb⟩
            have D7 := Lib.hid (bstep D6.out hb)
            have Iy7 := Lib.hid (Iy.out.up hb (Nat.le_refl _))
            clear hb D6 Ix Iy
            rw [hx.out]
            go_wp2_with fail
            refine (ival_any _ _ _ Iy7.out).mono ?_
            rintro e w8 ⟨rfl, hb⟩
            have D8 := Lib.hid (bstep D7.out hb)
            clear hb D7 Iy7
            rw [List.nil_append, hy.out]
            go_wp2_with fail
            go_ret
            exact ⟨rfl, D8.out⟩
end Go.Proofs.Ytbhjglapfiegaaa
