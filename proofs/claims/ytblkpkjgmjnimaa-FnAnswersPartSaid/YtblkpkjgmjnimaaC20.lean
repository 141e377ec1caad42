/- Texts laid together. -/
import Derived.Test.YtblkpkjgmjnimaaC16
import Derived.Test.YtblkpkjgmjnimaaC18
import Derived.Test.YtblkpkjgmjnimaaC19
import Derived.Deep.RegionLaw
import Derived.Deep.DeepCutAuto
import Derived.IntWalk
/- The walk of FnAnswersPart. -/
namespace Go.Proofs.Ytblkpkjgmjnimaa
open Go.RowKit
set_option linter.unusedVariables false

set_option maxRecDepth 100000 in
set_option maxHeartbeats 16000000 in
theorem fnAnswersPart_walk (a : Option Addr) (len cap : Nat) (a2 : Option Addr) (len2 cap2 : Nat) (w : World) (hc : CodeIn w a len cap) (hcap : cap ≤ maxLen) (hc2 : CodeIn w a2 len2 cap2) (hcap2 : cap2 ≤ maxLen) :
    Calls Try.prog 3 #[.slice a len cap, .slice a2 len2 cap2] w fun e w' => e = .returned (.bool true) ∧ Below w.heap.size w w' := by
  have hm : cap ≤ 9223372036854775807 := by simpa [maxLen] using hcap
  have hlc := hc.1
  have hm2 : cap2 ≤ 9223372036854775807 := by simpa [maxLen] using hcap2
  have hlc2 := hc2.1
  by_cases hl : 1048576 < len
  · clear hcap hc hc2 hcap2
    go_enter Try.func3, Try.ntmps3
    go_wp2_with fail
    go_ret
    exact ⟨rfl, Below.refl _ _⟩
  by_cases hl2 : 1048576 < len2
  · clear hcap hc hc2 hcap2
    go_enter Try.func3, Try.ntmps3
    go_wp2_with fail
    go_ret
    exact ⟨rfl, Below.refl _ _⟩
  have dn := dav_any a len cap w hc hcap
  clear hc hcap hc2 hcap2
  go_enter Try.func3, Try.ntmps3
  go_wp2_with fail
  refine dn.mono ?_
  rintro e w0 ⟨⟨nI, ix, iy, u, L, rfl, AN, hEl⟩, D1⟩
  obtain ⟨g, cp, U, hu, hcp0, hA0⟩ := AN.at_
  subst hu
  have BA := (Below.refl w0.heap.size w0).alloc (Nat.le_refl _) (.cells #[.int .i64 ix, .int .i64 iy] 24)
  have AI := Lib.hid (heap_alloc_new w0 (.cells #[.int .i64 ix, .int .i64 iy] 24))
  have hA := hA0.up BA (Nat.le_refl _)
  have D := Lib.hid (bstep D1 BA)
  clear dn D1 AN hA0 BA
  go_upto_region 4 with fail
  obtain ⟨ab, hab⟩ : ∃ c, Hid (w0.heap.size = c) := ⟨_, Lib.hid rfl⟩
  rw [hab.out] at AI ⊢
  generalize w0.alloc (.cells #[.int .i64 ix, .int .i64 iy] 24) = w1 at AI hA D ⊢
  clear hab
  obtain ⟨off, hoff⟩ : ∃ o : Nat, 0 = o := ⟨0, rfl⟩
  have hga : (⟨g, 0, none⟩ : Addr) = ⟨g, off, none⟩ := by rw [hoff]
  rw [hoff] at hA
  rw [hga]
  clear hga hoff
  have hA := Lib.hid hA
  have hm5 : L.length ≤ 2000000 := by omega
  have iv := fun W (hb : Below w1.heap.size w1 W) => iava_at g off cp nI (ix, iy) L U W hm5 (hA.out.up hb (Nat.le_refl _))
  have sv := fun W (hb : Below w1.heap.size w1 W) => sava_at g off cp nI (ix, iy) L U W hm5 (hA.out.up hb (Nat.le_refl _))
  dsimp only at iv sv
  obtain ⟨nn, hnn⟩ : ∃ n, Hid (L.length = n) := ⟨_, Lib.hid rfl⟩
  obtain ⟨lv, hlv⟩ : ∃ q, Hid (avB nI (ix, iy) L = q) := ⟨_, Lib.hid rfl⟩
  rw [hnn.out] at hEl hcp0 hm5 iv sv ⊢
  rw [hlv.out] at iv sv
  obtain ⟨a0, a1, _, _⟩ := blk2 AI.out
  have hal := lt_of_heap AI.out
  go_wp2_with fail
  refine (iv _ (Below.refl _ _)).mono ?_
  rintro e w2 ⟨rfl, B⟩
  have F2 := Lib.hid B
  have AI2 := Lib.hid (bblk B hal AI.out)
  clear B a0 a1 hal AI
  obtain ⟨a0, a1, _, _⟩ := blk2 AI2.out
  have hal := lt_of_heap AI2.out
  go_wp2_with fail
  refine (sv _ F2.out).mono ?_
  rintro e w4 ⟨rfl, B⟩
  replace F2 := Lib.hid (bstep F2.out B)
  have AI4 := Lib.hid (bblk B hal AI2.out)
  clear B a0 a1 hal AI2 iv sv
  replace D := Lib.hid (bstep D.out F2.out)
  replace hA := Lib.hid (hA.out.up F2.out (Nat.le_refl _))
  clear F2
  cases lv
  · go_wp2_with fail
    go_ret
    exact ⟨rfl, D.out⟩
  · by_cases hn00 : nn = 0
    · subst hn00
      go_wp2_with fail
      go_ret
      exact ⟨rfl, D.out⟩
    · have h1 := hcp0
      have h2 := hm5
      obtain ⟨j0, hj0, jz0, jz1, jz2⟩ := info_parts info_an
      have hn0 : ((nn : Int) == 0) = false := by simp; omega
      obtain ⟨k, hk⟩ : ∃ k : Nat, k = len2 % nn := ⟨_, rfl⟩
      have hkn : k < nn := by rw [hk]; exact Nat.mod_lt _ (by omega)
      have hmod : (len2 : Int).tmod (nn : Int) = (k : Int) := by rw [hk, Int.tmod_eq_emod_of_nonneg (by omega)]; exact (Int.natCast_emod _ _).symm
      have hkN : k < L.length := by rw [hnn.out]; exact hkn
      clear hk
      go_upto_region 9 with fail
      go_cut [11] from 55 to 64 (fun s9 wx => Hid (Ans wx s9 ((L.drop 0).take k ++ (L.drop (k + 1)).take (nn - (k + 1)))) ∧ Hid (Below w4.heap.size w4 wx))
      case first =>
        have k0 : (0 : Int) ≤ (k : Int) := by omega
        have k1 : (k : Int) ≤ (nn : Int) := by omega
        have k2 : (k : Int) ≤ (cp : Int) := by omega
        have k3 : (k : Int) + 1 ≤ (nn : Int) := by omega
        have k4 : (0 : Int) ≤ (k : Int) + 1 := by omega
        have k5 : (k : Int) + 1 ≤ (cp : Int) := by omega
        have w1 : IntKind.i64.wrap ((k : Int) + 1) = (k : Int) + 1 := IntWalk.i64_in _ (by omega)
        have k6 : ((k : Int) + 1).toNat = k + 1 := by omega
        have R0 : Hid (((w4.alloc (.cells #[] 48)).drew).ownsRow w4.heap.size 48 11 (.slice (some ⟨w4.heap.size, 0, none⟩) 0 0) 0 []) := Lib.hid (ar_new w4 w4.heap.size (Nat.le_refl _)).row
        have B0 : Hid (Below w4.heap.size w4 ((w4.alloc (.cells #[] 48)).drew)) := Lib.hid ((Below.refl _ _).alloc (Nat.le_refl _) _).drew
        have src1 := Lib.hid (fun W (hb : Below w4.heap.size w4 W) => (by simpa using alr_src (hA.out.up hb (Nat.le_refl _)) 0 k (by rw [hnn.out]; omega) : ∀ j u, (flatA (alr L U 0 k))[j]? = some u → W.cell? ((⟨g, off, none⟩ : Addr).add j) = some u))
        have src2 := Lib.hid (fun W (hb : Below w4.heap.size w4 W) => alr_src (hA.out.up hb (Nat.le_refl _)) (k + 1) (nn - (k + 1)) (by rw [hnn.out]; omega))
        have one1 := Lib.hid (alr_one hA.out 0 k (by rw [hnn.out]; omega))
        have one2 := Lib.hid (alr_one hA.out (k + 1) (nn - (k + 1)) (by rw [hnn.out]; omega))
        have fin := Lib.hid (fun (W : World) (v : Value) (hb : Below w4.heap.size w4 W) (hn : v ≠ .slice none 0 0) (h : W.ownsRow w4.heap.size 48 11 v (k + (nn - (k + 1))) (flatA (alr L U 0 k) ++ flatA (alr L U (k + 1) (nn - (k + 1))))) => ans_two (hA.out.up hb (Nat.le_refl _)) (by rw [hnn.out]; omega) (by rw [hnn.out]; omega) h hn (by omega))
        have hck : ¬ cp = k := by omega
        have hck' : ¬ nn = k := by omega
        by_cases hcp : k + 1 = cp
        · have hcn : cp = nn := by omega
          subst hcn
          rw [show cp - (k + 1) = 0 by omega] at fin
          clear src2 one2
          go_region_law (first | (rw [if_pos (by rfl)]; refine wp_append_own _ _ _ 25 rfl w4.heap.size 48 j0 (.agg #[.int .i64 0, .bool false, .int .i64 0, .int .i64 0, .int .i64 0, .int .i64 0, .int .i64 0, .int .i64 0, .int .i64 0, .int .i64 0, .slice none 0 0]) 11 104 Try.underlying25 hj0 jz0 jz1 jz2 rfl (by decide) _ 0 [] rfl R0.out ⟨g, off, none⟩ k cp (flatA (alr L U 0 k)) rfl (by rw [flatA_len, alr_len]) (src1.out _ B0.out) (one1.out) (by unfold maxLen; omega) (by omega) (by have := Below.size B0.out; omega) ?_; intro v5 w5 hown5 hgrow5 hnil5; have B5 := Lib.hid (Below.trans B0.out (grown_of R0.out hgrow5 (Below.size B0.out))); have hn5 : v5 ≠ .slice none 0 0 := (fun e => nomatch (hnil5.1 e).1); have Y5 := Lib.hid (show w5.ownsRow w4.heap.size 48 11 v5 k (flatA (alr L U 0 k)) from by have h := hown5; rw [Nat.zero_add, List.nil_append] at h; exact h); clear hown5 hgrow5 hnil5 R0 B0) | (rw [if_pos (by rfl)]; refine wp_append_own _ _ _ 25 rfl w4.heap.size 48 j0 (.agg #[.int .i64 0, .bool false, .int .i64 0, .int .i64 0, .int .i64 0, .int .i64 0, .int .i64 0, .int .i64 0, .int .i64 0, .int .i64 0, .slice none 0 0]) 11 104 Try.underlying25 hj0 jz0 jz1 jz2 rfl (by decide) _ k (flatA (alr L U 0 k)) rfl Y5.out ⟨g, off, none⟩ 0 0 (flatA (alr L U (k + 1) 0)) rfl (by rw [flatA_len, alr_len]) (fun j u hj => by simp [alr, flatA] at hj) (by simp [alr, flatA]) (by unfold maxLen; omega) (by omega) (by have := Below.size B5.out; omega) ?_; intro v6 w6 hown6 hgrow6 hnil6; have B6 := Lib.hid (Below.trans B5.out (grown_of Y5.out hgrow6 (Below.size B5.out))); have hn6 : v6 ≠ .slice none 0 0 := (fun e => hn5 (hnil6.1 e).1); have Y6 := Lib.hid hown6; clear hown6 hgrow6 hnil6 Y5 B5))
          all_goals
            have hN6 := Lib.hid (fin.out w6 v6 B6.out hn6 Y6.out)
            go_wp2_with fail
            go_meet
            exact ⟨by rw [show cp - (k + 1) = 0 by omega]; exact hN6, B6⟩
        · have hcp2 : ¬ cp = k + 1 := fun e => hcp e.symm
          go_region_law (first | (rw [if_pos (by rfl)]; refine wp_append_own _ _ _ 25 rfl w4.heap.size 48 j0 (.agg #[.int .i64 0, .bool false, .int .i64 0, .int .i64 0, .int .i64 0, .int .i64 0, .int .i64 0, .int .i64 0, .int .i64 0, .int .i64 0, .slice none 0 0]) 11 104 Try.underlying25 hj0 jz0 jz1 jz2 rfl (by decide) _ 0 [] rfl R0.out ⟨g, off, none⟩ k cp (flatA (alr L U 0 k)) rfl (by rw [flatA_len, alr_len]) (src1.out _ B0.out) (one1.out) (by unfold maxLen; omega) (by omega) (by have := Below.size B0.out; omega) ?_; intro v5 w5 hown5 hgrow5 hnil5; have B5 := Lib.hid (Below.trans B0.out (grown_of R0.out hgrow5 (Below.size B0.out))); have hn5 : v5 ≠ .slice none 0 0 := (fun e => nomatch (hnil5.1 e).1); have Y5 := Lib.hid (show w5.ownsRow w4.heap.size 48 11 v5 k (flatA (alr L U 0 k)) from by have h := hown5; rw [Nat.zero_add, List.nil_append] at h; exact h); clear hown5 hgrow5 hnil5 R0 B0) | (rw [if_pos (by rfl)]; refine wp_append_own _ _ _ 25 rfl w4.heap.size 48 j0 (.agg #[.int .i64 0, .bool false, .int .i64 0, .int .i64 0, .int .i64 0, .int .i64 0, .int .i64 0, .int .i64 0, .int .i64 0, .int .i64 0, .slice none 0 0]) 11 104 Try.underlying25 hj0 jz0 jz1 jz2 rfl (by decide) _ k (flatA (alr L U 0 k)) rfl Y5.out ⟨g, off + (k + 1) * 11, none⟩ (nn - (k + 1)) (cp - (k + 1)) (flatA (alr L U (k + 1) (nn - (k + 1)))) rfl (by rw [flatA_len, alr_len]) (src2.out _ B5.out) (one2.out) (by unfold maxLen; omega) (by omega) (by have := Below.size B5.out; omega) ?_; intro v6 w6 hown6 hgrow6 hnil6; have B6 := Lib.hid (Below.trans B5.out (grown_of Y5.out hgrow6 (Below.size B5.out))); have hn6 : v6 ≠ .slice none 0 0 := (fun e => hn5 (hnil6.1 e).1); have Y6 := Lib.hid hown6; clear hown6 hgrow6 hnil6 Y5 B5))
          all_goals
            have hN6 := Lib.hid (fin.out w6 v6 B6.out hn6 Y6.out)
            go_wp2_with fail
            go_meet
            exact ⟨hN6, B6⟩
      case rest =>
        obtain ⟨hX, hB6⟩ := hcut
        replace hA := Lib.hid (hA.out.up hB6.out (Nat.le_refl _))
        replace D := Lib.hid (bstep D.out hB6.out)
        replace AI4 := Lib.hid (bblk hB6.out (lt_of_heap AI4.out) AI4.out)
        clear hB6
        have hlX := Lib.hid (show avB nI (ix, iy) ((L.drop 0).take k ++ (L.drop (k + 1)).take (nn - (k + 1))) = true from by have := avB_yes (av_cut (avB_of hlv.out) k); rw [hnn.out] at this; exact this)
        have hlY := Lib.hid (show avB nI (ix, iy) ((L.drop 0).take (k + 1) ++ (L.drop k).take (nn - k)) = false from by have := avB_no (n := nI) (a := (ix, iy)) (av_dup hkN); rw [hnn.out] at this; exact this)
        go_upto_region 10 with fail
        go_cut [12] from 65 to 74 (fun s9 wx => Hid (Ans wx s9 ((L.drop 0).take (k + 1) ++ (L.drop k).take (nn - k))) ∧ Hid (Below wc.heap.size wc wx))
        case first =>
          have k0 : (0 : Int) ≤ (k : Int) := by omega
          have k1 : (k : Int) ≤ (nn : Int) := by omega
          have k2 : (k : Int) ≤ (cp : Int) := by omega
          have k3 : (k : Int) + 1 ≤ (nn : Int) := by omega
          have k4 : (0 : Int) ≤ (k : Int) + 1 := by omega
          have k5 : (k : Int) + 1 ≤ (cp : Int) := by omega
          have w1 : IntKind.i64.wrap ((k : Int) + 1) = (k : Int) + 1 := IntWalk.i64_in _ (by omega)
          have k6 : ((k : Int) + 1).toNat = k + 1 := by omega
          have R0 : Hid (((wc.alloc (.cells #[] 48)).drew).ownsRow wc.heap.size 48 11 (.slice (some ⟨wc.heap.size, 0, none⟩) 0 0) 0 []) := Lib.hid (ar_new wc wc.heap.size (Nat.le_refl _)).row
          have B0 : Hid (Below wc.heap.size wc ((wc.alloc (.cells #[] 48)).drew)) := Lib.hid ((Below.refl _ _).alloc (Nat.le_refl _) _).drew
          have src1 := Lib.hid (fun W (hb : Below wc.heap.size wc W) => (by simpa using alr_src (hA.out.up hb (Nat.le_refl _)) 0 (k + 1) (by rw [hnn.out]; omega) : ∀ j u, (flatA (alr L U 0 (k + 1)))[j]? = some u → W.cell? ((⟨g, off, none⟩ : Addr).add j) = some u))
          have src2 := Lib.hid (fun W (hb : Below wc.heap.size wc W) => alr_src (hA.out.up hb (Nat.le_refl _)) k (nn - k) (by rw [hnn.out]; omega))
          have one1 := Lib.hid (alr_one hA.out 0 (k + 1) (by rw [hnn.out]; omega))
          have one2 := Lib.hid (alr_one hA.out k (nn - k) (by rw [hnn.out]; omega))
          have fin := Lib.hid (fun (W : World) (v : Value) (hb : Below wc.heap.size wc W) (hn : v ≠ .slice none 0 0) (h : W.ownsRow wc.heap.size 48 11 v ((k + 1) + (nn - k)) (flatA (alr L U 0 (k + 1)) ++ flatA (alr L U k (nn - k)))) => ans_two (hA.out.up hb (Nat.le_refl _)) (by rw [hnn.out]; omega) (by rw [hnn.out]; omega) h hn (by omega))
          have hck : ¬ cp = k := by omega
          have hck' : ¬ nn = k := by omega
          go_region_law (first | (rw [if_pos (by rfl)]; refine wp_append_own _ _ _ 25 rfl wc.heap.size 48 j0 (.agg #[.int .i64 0, .bool false, .int .i64 0, .int .i64 0, .int .i64 0, .int .i64 0, .int .i64 0, .int .i64 0, .int .i64 0, .int .i64 0, .slice none 0 0]) 11 104 Try.underlying25 hj0 jz0 jz1 jz2 rfl (by decide) _ 0 [] rfl R0.out ⟨g, off, none⟩ (k + 1) cp (flatA (alr L U 0 (k + 1))) rfl (by rw [flatA_len, alr_len]) (src1.out _ B0.out) (one1.out) (by unfold maxLen; omega) (by omega) (by have := Below.size B0.out; omega) ?_; intro v5 w5 hown5 hgrow5 hnil5; have B5 := Lib.hid (Below.trans B0.out (grown_of R0.out hgrow5 (Below.size B0.out))); have hn5 : v5 ≠ .slice none 0 0 := (fun e => nomatch (hnil5.1 e).1); have Y5 := Lib.hid (show w5.ownsRow wc.heap.size 48 11 v5 (k + 1) (flatA (alr L U 0 (k + 1))) from by have h := hown5; rw [Nat.zero_add, List.nil_append] at h; exact h); clear hown5 hgrow5 hnil5 R0 B0) | (rw [if_pos (by rfl)]; refine wp_append_own _ _ _ 25 rfl wc.heap.size 48 j0 (.agg #[.int .i64 0, .bool false, .int .i64 0, .int .i64 0, .int .i64 0, .int .i64 0, .int .i64 0, .int .i64 0, .int .i64 0, .int .i64 0, .slice none 0 0]) 11 104 Try.underlying25 hj0 jz0 jz1 jz2 rfl (by decide) _ (k + 1) (flatA (alr L U 0 (k + 1))) rfl Y5.out ⟨g, off + k * 11, none⟩ (nn - k) (cp - k) (flatA (alr L U k (nn - k))) rfl (by rw [flatA_len, alr_len]) (src2.out _ B5.out) (one2.out) (by unfold maxLen; omega) (by omega) (by have := Below.size B5.out; omega) ?_; intro v6 w6 hown6 hgrow6 hnil6; have B6 := Lib.hid (Below.trans B5.out (grown_of Y5.out hgrow6 (Below.size B5.out))); have hn6 : v6 ≠ .slice none 0 0 := (fun e => hn5 (hnil6.1 e).1); have Y6 := Lib.hid hown6; clear hown6 hgrow6 hnil6 Y5 B5))
          all_goals
            have hN6 := Lib.hid (fin.out w6 v6 B6.out hn6 Y6.out)
            go_wp2_with fail
            go_meet
            exact ⟨hN6, B6⟩
        case rest =>
          obtain ⟨hY, hB7⟩ := hcut
          replace hX := Lib.hid (hX.out.up hB7.out (Nat.le_refl _))
          replace D := Lib.hid (bstep D.out hB7.out)
          replace AI4 := Lib.hid (bblk hB7.out (lt_of_heap AI4.out) AI4.out)
          clear hB7
          have ix1 := iava_any _ nI (ix, iy) _ _ hX.out
          have iy1 := fun W hb => iava_any _ nI (ix, iy) _ W (hY.out.up hb (Nat.le_refl _))
          rw [hlX.out] at ix1
          rw [hlY.out] at iy1
          dsimp only at ix1 iy1
          obtain ⟨a0, a1, _, _⟩ := blk2 AI4.out
          have hal := lt_of_heap AI4.out
          go_wp2_with fail
          refine ix1.mono ?_
          rintro e w8 ⟨rfl, B⟩
          have AI8 := Lib.hid (bblk B hal AI4.out)
          have iy2 := iy1 _ B
          replace D := Lib.hid (bstep D.out B)
          clear B a0 a1 hal AI4 ix1 iy1
          obtain ⟨a0, a1, _, _⟩ := blk2 AI8.out
          have hal := lt_of_heap AI8.out
          go_wp2_with fail
          refine iy2.mono ?_
          rintro e w9 ⟨rfl, B⟩
          replace D := Lib.hid (bstep D.out B)
          clear B
          go_wp2_with fail
          go_ret
          exact ⟨rfl, D.out⟩
end Go.Proofs.Ytblkpkjgmjnimaa
