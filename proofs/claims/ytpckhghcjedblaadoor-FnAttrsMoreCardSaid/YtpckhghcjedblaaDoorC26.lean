/- Texts laid together. -/
import Derived.Test.YtpckhghcjedblaaDoorC19
import Derived.Deep.RegionWith
import Derived.Deep.DeepCutAuto
import Derived.IntWalk
import Derived.Test.YtpckhghcjedblaaDoorC25
import Derived.Deep.RegionLaw
/- The walk of FnAttrsMore. -/
namespace Go.Proofs.YtpckhghcjedblaaDoor
open Go.RowKit
set_option linter.unusedVariables false

theorem more_less {E : List En} {a : Pid} {k key v t : Int} {S : List Pid} (hR : lattR E a k key v = (t, S, true)) (m : Nat) :
    ∃ t2 S2, lattR ((E.drop 0).take m ++ (E.drop (m + 1)).take (E.length - (m + 1))) a k key v = (t2, S2, true) ∧ t2 ≤ t ∧ withinB S2 S = true := by
  obtain ⟨h1, h2, h3, h4, ht, hS⟩ := latt_true hR
  have hl := log_cut h1 m
  have hs : List.Sublist ((E.drop 0).take m ++ (E.drop (m + 1)).take (E.length - (m + 1))) E := by
    rw [List.drop_zero, List.take_of_length_le (l := E.drop (m + 1)) (by rw [List.length_drop]; exact Nat.le_refl _), ← List.eraseIdx_eq_take_drop_succ]
    exact List.eraseIdx_sublist E m
  generalize (E.drop 0).take m ++ (E.drop (m + 1)).take (E.length - (m + 1)) = F at hl hs ⊢
  have hc : List.Sublist (clsE F a k key) (clsE E a k key) := hs.filter _
  have htop : topE (clsE F a k key) ≤ topE (clsE E a k key) := by
    rw [topE_cls, topE_cls]
    rcases topF_is (f := clsF a k key) (v := fun z => z.seq) (E := F) with e | ⟨z, e1, e2, e3⟩
    · rw [e]; exact topF_nn _ _ _
    · rw [← e3]; exact topF_le (v := fun z => z.seq) (hs.subset e1) e2
  refine ⟨_, _, latt_good hl h2 h3 (by omega), by omega, ?_⟩
  unfold withinB
  rw [cls_srt hl a k key, hS, cls_srt h1 a k key, Bool.true_and, Bool.true_and, inP_iff]
  exact fun x hx => (hc.map En.id).subset hx

set_option maxRecDepth 100000 in
set_option maxHeartbeats 16000000 in
theorem fnAttrsMore_walk (a : Option Addr) (len cap : Nat) (a2 : Option Addr) (len2 cap2 : Nat) (w : World) (hc : CodeIn w a len cap) (hcap : cap ≤ maxLen) (hc2 : CodeIn w a2 len2 cap2) (hcap2 : cap2 ≤ maxLen) (hT : TabIn w) :
    Calls Tryd.prog 5 #[.slice a len cap, .slice a2 len2 cap2] w fun e w' => e = .returned (.bool true) ∧ Below w.heap.size w w' := by
  have hm : cap ≤ 9223372036854775807 := by simpa [maxLen] using hcap
  have hlc := hc.1
  have hm2 : cap2 ≤ 9223372036854775807 := by simpa [maxLen] using hcap2
  have hlc2 := hc2.1
  by_cases hl : 1048576 < len
  · clear hcap hc hT hc2 hcap2
    go_enter Tryd.func5, Tryd.ntmps5
    go_wp2_with fail
    go_ret
    exact ⟨rfl, Below.refl _ _⟩
  · by_cases hl2 : 1048576 < len2
    · clear hcap hc hT hc2 hcap2
      go_enter Tryd.func5, Tryd.ntmps5
      go_wp2_with fail
      go_ret
      exact ⟨rfl, Below.refl _ _⟩
    · have dl := dla_any a len cap w hc hcap
      clear hc2 hcap2
      clear hc hcap
      go_enter Tryd.func5, Tryd.ntmps5
      go_wp2_with fail
      refine dl.mono ?_
      rintro e w1 ⟨v, E, x, y, k, key, c, rfl, O, hE12, ha, B⟩
      have N1 := O.read
      obtain ⟨va, vc, hv⟩ : ∃ a cap, v = .slice a E.length cap := by obtain ⟨a, c, e, _⟩ := N1; exact ⟨a, c, e⟩
      subst hv
      have BA := ((Below.refl w1.heap.size w1).alloc (Nat.le_refl _) (.cells #[.int .i64 x, .int .i64 y] 25)).alloc (by simp) (.cells #[.int .i64 k, .int .i64 key, .int .i64 c] 27)
      have A1 : (((w1.alloc (.cells #[.int .i64 x, .int .i64 y] 25)).alloc (.cells #[.int .i64 k, .int .i64 key, .int .i64 c] 27))).heap[w1.heap.size]? = some (.cells #[.int .i64 x, .int .i64 y] 25 (0, 0)) := (Below.heap_alloc _ _ _ (by simp)).trans (heap_alloc_new w1 _)
      have C1 : (((w1.alloc (.cells #[.int .i64 x, .int .i64 y] 25)).alloc (.cells #[.int .i64 k, .int .i64 key, .int .i64 c] 27))).heap[w1.heap.size + 1]? = some (.cells #[.int .i64 k, .int .i64 key, .int .i64 c] 27 (0, 0)) := heap_alloc_at _ _ _ (by simp)
      have D1 := Lib.hid (bstep B BA)
      have T1 := Lib.hid (TabIn.up (TabIn.up hT B (Nat.le_refl _)) BA (Nat.le_refl _))
      have N1 := Lib.hid (N1.up BA (Nat.le_refl _))
      have A1 := Lib.hid A1
      have C1 := Lib.hid C1
      clear B BA O dl hT
      go_upto_region 4 with fail
      obtain ⟨ib, hib⟩ : ∃ c, Hid (w1.heap.size = c) := ⟨_, Lib.hid rfl⟩
      rw [hib.out] at A1 C1 ⊢
      generalize (w1.alloc (.cells #[.int .i64 x, .int .i64 y] 25)).alloc (.cells #[.int .i64 k, .int .i64 key, .int .i64 c] 27) = W1 at A1 C1 D1 T1 N1 ⊢
      clear hib
      have il := ilatt_any (.slice va E.length vc) E x y k key c W1 T1.out N1.out
      have sl := fun W (hb : Below W1.heap.size W1 W) => slatt_any (.slice va E.length vc) E x y k key c W (N1.out.up hb (Nat.le_refl _))
      unfold LatP at il sl
      obtain ⟨⟨t, S, q⟩, hR⟩ : ∃ r, Hid (lattR E (x, y) k key c = r) := ⟨_, Lib.hid rfl⟩
      rw [hR.out] at il sl
      dsimp only at il sl
      obtain ⟨a0, a1, _, _⟩ := blk2 A1.out
      obtain ⟨c0, c1, c2, _, _, _⟩ := blk3 C1.out
      have hal := lt_of_heap A1.out
      have hcl := lt_of_heap C1.out
      go_wp2_with fail
      refine il.mono ?_
      rintro e w2 ⟨⟨u2, rfl, b2, hb2, P2⟩, B⟩
      have A2 := Lib.hid (bblk B hal A1.out)
      have C2 := Lib.hid (bblk B hcl C1.out)
      have P2 := Lib.hid P2.read
      have F2 := Lib.hid B
      clear B il a0 a1 c0 c1 c2 hal hcl A1 C1 hb2
      obtain ⟨a0, a1, _, _⟩ := blk2 A2.out
      obtain ⟨c0, c1, c2, _, _, _⟩ := blk3 C2.out
      have hal := lt_of_heap A2.out
      have hcl := lt_of_heap C2.out
      obtain ⟨da, dc, hu⟩ : ∃ a cap, u2 = .slice a S.length cap := by obtain ⟨a, c, e, _⟩ := P2.out; exact ⟨a, c, e⟩
      subst hu
      go_wp2_with fail
      refine (sl _ F2.out).mono ?_
      rintro e w3 ⟨⟨u3, rfl, b3, hb3, P3⟩, B⟩
      have A3 := Lib.hid (bblk B hal A2.out)
      have C3 := Lib.hid (bblk B hcl C2.out)
      have P3 := Lib.hid P3.read
      replace P2 := Lib.hid (P2.out.up B (Nat.le_refl _))
      have F3 := Lib.hid (bstep F2.out B)
      clear B sl a0 a1 c0 c1 c2 hal hcl A2 C2 hb3 F2
      have sg := fun W (hb : Below w3.heap.size w3 W) => sameg_any _ _ S S W (P2.out.up hb (Nat.le_refl _)) (P3.out.up hb (Nat.le_refl _))
      simp only [decide_true] at sg
      cases q
      · go_wp2_with fail
        refine (sg _ (Below.refl _ _)).mono ?_
        rintro e w4 ⟨rfl, B⟩
        have F4 := Lib.hid B
        clear B
        go_wp2_with fail
        refine (sg _ F4.out).mono ?_
        rintro e w5 ⟨rfl, B⟩
        have D := Lib.hid (bstep D1.out (bstep F3.out (bstep F4.out B)))
        clear B
        go_wp2_with fail
        go_ret
        exact ⟨rfl, D.out⟩
      · obtain ⟨hlv, hok, hcv, htop, ht, hS⟩ := latt_true hR.out
        replace hlv := Lib.hid hlv
        replace hok := Lib.hid hok
        replace hcv := Lib.hid hcv
        replace hS := Lib.hid hS
        replace ht := Lib.hid ht
        replace htop := Lib.hid htop
        go_wp2_with fail
        refine (sg _ (Below.refl _ _)).mono ?_
        rintro e w4 ⟨rfl, B⟩
        have A4 := Lib.hid (bblk B (lt_of_heap A3.out) A3.out)
        have C4 := Lib.hid (bblk B (lt_of_heap C3.out) C3.out)
        have P4 := Lib.hid (P2.out.up B (Nat.le_refl _))
        have D4 := Lib.hid (bstep D1.out (bstep F3.out B))
        have N4 := Lib.hid (N1.out.up (bstep F3.out B) (Nat.le_refl _))
        have T4 := Lib.hid (TabIn.up T1.out (bstep F3.out B) (Nat.le_refl _))
        have F4 := Lib.hid B
        clear B A3 C3 F3 D1 N1 T1
        obtain ⟨nn, hnn⟩ : ∃ n, Hid (E.length = n) := ⟨_, Lib.hid rfl⟩
        rw [hnn.out] at N4 hE12 ⊢
        by_cases hn00 : nn = 0
        · subst hn00
          go_wp2_with fail
          refine (sg _ F4.out).mono ?_
          rintro e w5 ⟨rfl, B⟩
          have D5 := Lib.hid (bstep D4.out B)
          clear B
          go_wp2_with fail
          go_ret
          exact ⟨rfl, D5.out⟩
        · clear sg P2 P3 F4
          obtain ⟨a', c', e', h1, h2, h3⟩ := N4.out
          rw [hnn.out] at e' h1 h2 h3
          injection e' with e1 e2 e3
          rcases h3 with h3 | ⟨g, off, U, e4, hA⟩
          · exact absurd h3 hn00
          · have hva := e1.trans e4
            subst hva
            subst e3
            have hA := Lib.hid hA
            obtain ⟨j0, hj0, jz0, jz1, jz2⟩ := info_parts info_en
            have hn0 : ((nn : Int) == 0) = false := by simp; omega
            obtain ⟨m, hmd⟩ : ∃ m : Nat, m = len2 % nn := ⟨_, rfl⟩
            have hkn : m < nn := by rw [hmd]; exact Nat.mod_lt _ (by omega)
            have hmod : (len2 : Int).tmod (nn : Int) = (m : Int) := by rw [hmd, Int.tmod_eq_emod_of_nonneg (by omega)]; exact (Int.natCast_emod _ _).symm
            have hkN : m < E.length := by rw [hnn.out]; exact hkn
            obtain ⟨t2, S2, hR2, hle2, hw2⟩ := more_less hR.out m
            rw [hnn.out] at hR2
            have hw2 := Lib.hid hw2
            have il2 := fun u W (hT : TabIn W) (H : Ens W u ((E.drop 0).take m ++ (E.drop (m + 1)).take (nn - (m + 1)))) => ilatt_any u _ x y k key c W hT H
            unfold LatP at il2
            rw [hR2] at il2
            dsimp only at il2
            replace hle2 := Lib.hid hle2
            clear hmd N4 hR2 hR e1 e2 e4 hlv hok hcv hS ht htop
            obtain ⟨a0, a1, _, _⟩ := blk2 A4.out
            obtain ⟨c0, c1, c2, _, _, _⟩ := blk3 C4.out
            have hal4 := lt_of_heap A4.out
            have hcl4 := lt_of_heap C4.out
            go_upto_region 9 with fail
            go_cut [15, 16, 17] from 89 to 105 (fun s15 s16 s17 wx => s15 = .int .i64 t2 ∧ s17 = .bool true ∧ Hid (Ids wx s16 S2) ∧ Hid (Below w4.heap.size w4 wx))
            case first =>
              have k0 : (0 : Int) ≤ (m : Int) := by omega
              have k1 : (m : Int) ≤ (nn : Int) := by omega
              have k2 : (m : Int) ≤ (vc : Int) := by omega
              have k3 : (m : Int) + 1 ≤ (nn : Int) := by omega
              have k4 : (0 : Int) ≤ (m : Int) + 1 := by omega
              have k5 : (m : Int) + 1 ≤ (vc : Int) := by omega
              have w1 : IntKind.i64.wrap ((m : Int) + 1) = (m : Int) + 1 := IntWalk.i64_in _ (by omega)
              have k6 : ((m : Int) + 1).toNat = m + 1 := by omega
              have mkS := Lib.hid (fun W (hb : Below w4.heap.size w4 W) => (by
                obtain ⟨p0, p1, _, _⟩ := blk2 (bblk hb hal4 A4.out)
                obtain ⟨r0, r1, r2, _, _, _⟩ := blk3 (bblk hb hcl4 C4.out)
                exact ⟨⟨p0, p1, r0, r1, r2⟩, hb⟩ : (W.cell? ⟨ib, 0, none⟩ = some (.int .i64 x) ∧ W.cell? ⟨ib, 1, none⟩ = some (.int .i64 y) ∧ W.cell? ⟨ib + 1, 0, none⟩ = some (.int .i64 k) ∧ W.cell? ⟨ib + 1, 1, none⟩ = some (.int .i64 key) ∧ W.cell? ⟨ib + 1, 2, none⟩ = some (.int .i64 c)) ∧ Below w4.heap.size w4 W))
              have src1 := Lib.hid (fun W (hb : Below w4.heap.size w4 W) => (by simpa using elr_src (hA.out.up hb (Nat.le_refl _)) 0 m (by rw [hnn.out]; omega) : ∀ j u, (flatE (elr E U 0 m))[j]? = some u → W.cell? ((⟨g, off, none⟩ : Addr).add j) = some u))
              have src2 := Lib.hid (fun W (hb : Below w4.heap.size w4 W) => elr_src (hA.out.up hb (Nat.le_refl _)) (m + 1) (nn - (m + 1)) (by rw [hnn.out]; omega))
              have one1 := Lib.hid (elr_one hA.out 0 m (by rw [hnn.out]; omega))
              have one2 := Lib.hid (elr_one hA.out (m + 1) (nn - (m + 1)) (by rw [hnn.out]; omega))
              have fin := Lib.hid (fun (W : World) (v : Value) (hb : Below w4.heap.size w4 W) (hn : v ≠ .slice none 0 0) (h : W.ownsRow w4.heap.size 36 9 v (m + (nn - (m + 1))) (flatE (elr E U 0 m) ++ flatE (elr E U (m + 1) (nn - (m + 1))))) => ens_two (hA.out.up hb (Nat.le_refl _)) (by rw [hnn.out]; omega) (by rw [hnn.out]; omega) h hn (by omega))
              have hck : ¬ vc = m := by omega
              have hck' : ¬ nn = m := by omega
              by_cases hcp : m + 1 = vc
              · have hcn : vc = nn := by omega
                subst hcn
                rw [show vc - (m + 1) = 0 by omega] at fin il2
                clear src2 one2
                refine wp_region_held_drew (S := fun w' => (w'.cell? ⟨ib, 0, none⟩ = some (.int .i64 x) ∧ w'.cell? ⟨ib, 1, none⟩ = some (.int .i64 y) ∧ w'.cell? ⟨ib + 1, 0, none⟩ = some (.int .i64 k) ∧ w'.cell? ⟨ib + 1, 1, none⟩ = some (.int .i64 key) ∧ w'.cell? ⟨ib + 1, 2, none⟩ = some (.int .i64 c)) ∧ Below w4.heap.size w4 w') (by kernel_rfl) (mkS.out _ (Below.drew (Below.refl _ _))) (fun hHeld => ?_)
                have V0B := Lib.hid hHeld.2
                generalize w4.drew = V0 at hHeld V0B ⊢
                refine wpAnyH_take (i := 1) (oi := ⟨some 91, _, _, _, _, _⟩) (v := ?_) rfl (by kernel_rfl) (by kernel_rfl) (by kernel_rfl) (fun _ _ _ h => h) (Or.inl ⟨by rfl, ?_⟩) (by assumption) ?_
                rotate_left 1
                · intro w hSw; (try dsimp only at hSw); go_simp; try (with_reducible rfl)
                try simp only [Act.put, List.setIfInBounds_toArray, List.set_cons_zero, List.set_cons_succ]
                refine wpAnyH_take (i := 2) (oi := ⟨some 92, _, _, _, _, _⟩) (v := ?_) rfl (by kernel_rfl) (by kernel_rfl) (by kernel_rfl) (fun _ _ _ h => h) (Or.inl ⟨by rfl, ?_⟩) (by assumption) ?_
                rotate_left 1
                · intro w hSw; (try dsimp only at hSw); go_simp; try (with_reducible rfl)
                try simp only [Act.put, List.setIfInBounds_toArray, List.set_cons_zero, List.set_cons_succ]
                refine wpAnyH_take (i := 3) (oi := ⟨some 93, _, _, _, _, _⟩) (v := ?_) rfl (by kernel_rfl) (by kernel_rfl) (by kernel_rfl) (fun _ _ _ h => h) (Or.inl ⟨by rfl, ?_⟩) (by assumption) ?_
                rotate_left 1
                · intro w hSw; (try dsimp only at hSw); go_simp; try (with_reducible rfl)
                try simp only [Act.put, List.setIfInBounds_toArray, List.set_cons_zero, List.set_cons_succ]
                refine wpAnyH_take (i := 5) (oi := ⟨some 95, _, _, _, _, _⟩) (v := ?_) rfl (by kernel_rfl) (by kernel_rfl) (by kernel_rfl) (fun _ _ _ h => h) (Or.inl ⟨by rfl, ?_⟩) (by assumption) ?_
                rotate_left 1
                · intro w hSw; (try dsimp only at hSw); go_simp; try (with_reducible rfl)
                try simp only [Act.put, List.setIfInBounds_toArray, List.set_cons_zero, List.set_cons_succ]
                refine wpAnyH_take (i := 6) (oi := ⟨some 96, _, _, _, _, _⟩) (v := ?_) rfl (by kernel_rfl) (by kernel_rfl) (by kernel_rfl) (fun _ _ _ h => h) (Or.inl ⟨by rfl, ?_⟩) (by assumption) ?_
                rotate_left 1
                · intro w hSw; (try dsimp only at hSw); go_simp; try (with_reducible rfl)
                try simp only [Act.put, List.setIfInBounds_toArray, List.set_cons_zero, List.set_cons_succ]
                refine wpAnyH_take (i := 7) (oi := ⟨some 97, _, _, _, _, _⟩) (v := ?_) rfl (by kernel_rfl) (by kernel_rfl) (by kernel_rfl) (fun _ _ _ h => h) (Or.inl ⟨by rfl, ?_⟩) (by assumption) ?_
                rotate_left 1
                · intro w hSw; (try dsimp only at hSw); go_simp; try (with_reducible rfl)
                try simp only [Act.put, List.setIfInBounds_toArray, List.set_cons_zero, List.set_cons_succ]
                refine wpAnyH_take (i := 8) (oi := ⟨some 98, _, _, _, _, _⟩) (v := ?_) rfl (by kernel_rfl) (by kernel_rfl) (by kernel_rfl) (fun _ _ _ h => h) (Or.inl ⟨by rfl, ?_⟩) (by assumption) ?_
                rotate_left 1
                · intro w hSw; (try dsimp only at hSw); go_simp; try (with_reducible rfl)
                try simp only [Act.put, List.setIfInBounds_toArray, List.set_cons_zero, List.set_cons_succ]
                refine wpAnyH_take (i := 10) (oi := ⟨some 100, _, _, _, _, _⟩) (v := ?_) rfl (by kernel_rfl) (by kernel_rfl) (by kernel_rfl) (fun _ _ _ h => h) (Or.inl ⟨by rfl, ?_⟩) (by assumption) ?_
                rotate_left 1
                · intro w hSw; (try dsimp only at hSw); go_simp; try (with_reducible rfl)
                try simp only [Act.put, List.setIfInBounds_toArray, List.set_cons_zero, List.set_cons_succ]
                refine wpAnyH_take (i := 11) (oi := ⟨some 101, _, _, _, _, _⟩) (v := ?_) rfl (by kernel_rfl) (by kernel_rfl) (by kernel_rfl) (fun _ _ _ h => h) (Or.inl ⟨by rfl, ?_⟩) (by assumption) ?_
                rotate_left 1
                · intro w hSw; (try dsimp only at hSw); go_simp; try (with_reducible rfl)
                try simp only [Act.put, List.setIfInBounds_toArray, List.set_cons_zero, List.set_cons_succ]
                refine wpAnyH_ready (rs := [0]) (by kernel_rfl) (by simp) ?_
                refine AllReadyH.cons (o := ⟨some 90, _, _, _, _, _⟩) rfl (fun K hK => ?_) AllReadyH.nil
                have R0 : Hid ((V0.alloc (.cells #[] 36)).ownsRow w4.heap.size 36 9 (.slice (some ⟨V0.heap.size, 0, none⟩) 0 0) 0 []) := Lib.hid (er_new V0 w4.heap.size V0B.out.size).row
                have B0 : Hid (Below w4.heap.size w4 (V0.alloc (.cells #[] 36))) := Lib.hid (V0B.out.alloc V0B.out.size _)
                go_simp
                generalize V0.alloc (.cells #[] 36) = V1 at R0 B0 ⊢
                refine hK.out _ _ ?_ (fun hHeld2 => ?_)
                · exact mkS.out _ B0.out
                clear hK K hHeld
                have hHeld := hHeld2
                clear hHeld2
                try simp only [Act.put, List.setIfInBounds_toArray, List.set_cons_zero, List.set_cons_succ]
                refine wpAnyH_ready (rs := [4]) (by kernel_rfl) (by simp) ?_
                refine AllReadyH.cons (o := ⟨some 94, _, _, _, _, _⟩) rfl (fun K hK => ?_) AllReadyH.nil
                rw [if_pos (by rfl)]
                refine wp_append_own _ _ _ 23 rfl w4.heap.size 36 j0 (.agg #[.int .i64 0, .int .i64 0, .int .i64 0, .int .i64 0, .int .i64 0, .int .i64 0, .int .i64 0, .int .i64 0, .slice none 0 0]) 9 88 Tryd.underlying23 hj0 jz0 jz1 jz2 rfl (by decide) _ 0 [] rfl R0.out ⟨g, off, none⟩ m vc (flatE (elr E U 0 m)) rfl (by rw [flatE_len, elr_len]) (src1.out _ B0.out) (one1.out) (by unfold maxLen; omega) (by omega) (by have := Below.size B0.out; omega) ?_
                intro v5 w5 hown5 hgrow5 hnil5
                have B5 := Lib.hid (Below.trans B0.out (grown_of R0.out hgrow5 (Below.size B0.out)))
                have hn5 : v5 ≠ .slice none 0 0 := (fun e => nomatch (hnil5.1 e).1)
                have Y5 := Lib.hid (show w5.ownsRow w4.heap.size 36 9 v5 m (flatE (elr E U 0 m)) from by have h := hown5; rw [Nat.zero_add, List.nil_append] at h; exact h)
                clear hown5 hgrow5 hnil5 R0 B0
                refine hK.out _ _ ?_ (fun hHeld2 => ?_)
                · exact mkS.out _ B5.out
                clear hK K hHeld
                have hHeld := hHeld2
                clear hHeld2
                try simp only [Act.put, List.setIfInBounds_toArray, List.set_cons_zero, List.set_cons_succ]
                refine wpAnyH_ready (rs := [9]) (by kernel_rfl) (by simp) ?_
                refine AllReadyH.cons (o := ⟨some 99, _, _, _, _, _⟩) rfl (fun K hK => ?_) AllReadyH.nil
                rw [if_pos (by rfl)]
                refine wp_append_own _ _ _ 23 rfl w4.heap.size 36 j0 (.agg #[.int .i64 0, .int .i64 0, .int .i64 0, .int .i64 0, .int .i64 0, .int .i64 0, .int .i64 0, .int .i64 0, .slice none 0 0]) 9 88 Tryd.underlying23 hj0 jz0 jz1 jz2 rfl (by decide) _ m (flatE (elr E U 0 m)) rfl Y5.out ⟨g, off, none⟩ 0 0 (flatE (elr E U (m + 1) 0)) rfl (by rw [flatE_len, elr_len]) (fun j u hj => by simp [elr, flatE] at hj) (by simp [elr, flatE]) (by unfold maxLen; omega) (by omega) (by have := Below.size B5.out; omega) ?_
                intro v6 w6 hown6 hgrow6 hnil6
                have B6 := Lib.hid (Below.trans B5.out (grown_of Y5.out hgrow6 (Below.size B5.out)))
                have hn6 : v6 ≠ .slice none 0 0 := (fun e => hn5 (hnil6.1 e).1)
                have Y6 := Lib.hid hown6
                clear hown6 hgrow6 hnil6 Y5 B5
                refine hK.out _ _ ?_ (fun hHeld2 => ?_)
                · exact mkS.out _ B6.out
                clear hK K hHeld
                have hHeld := hHeld2
                clear hHeld2
                try simp only [Act.put, List.setIfInBounds_toArray, List.set_cons_zero, List.set_cons_succ]
                refine wpAnyH_ready (rs := [12]) (by kernel_rfl) (by simp) ?_
                refine AllReadyH.cons (o := ⟨some 102, _, _, _, _, _⟩) rfl (fun K hK => ?_) AllReadyH.nil
                go_simp
                with_reducible refine (il2 _ _ (TabIn.up T4.out B6.out (Nat.le_refl _)) (fin.out w6 v6 B6.out hn6 Y6.out)).mono ?_
                rintro e w7 ⟨⟨u7, rfl, b7, hb7, P7⟩, B⟩
                have P7 := Lib.hid P7.read
                have B7 := Lib.hid (bstep B6.out B)
                clear B hb7
                go_wp2_with fail
                refine hK.out _ _ ?_ (fun hHeld2 => ?_)
                · exact mkS.out _ B7.out
                clear hK K hHeld
                have hHeld := hHeld2
                clear hHeld2
                try simp only [Act.put, List.setIfInBounds_toArray, List.set_cons_zero, List.set_cons_succ]
                refine wpAnyH_take (i := 13) (oi := ⟨some 89, _, _, _, _, _⟩) (v := ?_) rfl (by kernel_rfl) (by kernel_rfl) (by kernel_rfl) (fun _ _ _ h => h) (Or.inl ⟨by rfl, ?_⟩) (by assumption) ?_
                rotate_left 1
                · intro w hSw; (try dsimp only at hSw); go_simp; try (with_reducible rfl)
                try simp only [Act.put, List.setIfInBounds_toArray, List.set_cons_zero, List.set_cons_succ]
                refine wpAnyH_take (i := 14) (oi := ⟨some 103, _, _, _, _, _⟩) (v := ?_) rfl (by kernel_rfl) (by kernel_rfl) (by kernel_rfl) (fun _ _ _ h => h) (Or.inl ⟨by rfl, ?_⟩) (by assumption) ?_
                rotate_left 1
                · intro w hSw; (try dsimp only at hSw); go_simp; try (with_reducible rfl)
                try simp only [Act.put, List.setIfInBounds_toArray, List.set_cons_zero, List.set_cons_succ]
                refine wpAnyH_take (i := 15) (oi := ⟨some 104, _, _, _, _, _⟩) (v := ?_) rfl (by kernel_rfl) (by kernel_rfl) (by kernel_rfl) (fun _ _ _ h => h) (Or.inl ⟨by rfl, ?_⟩) (by assumption) ?_
                rotate_left 1
                · intro w hSw; (try dsimp only at hSw); go_simp; try (with_reducible rfl)
                try simp only [Act.put, List.setIfInBounds_toArray, List.set_cons_zero, List.set_cons_succ]
                refine wpAnyH_take (i := 16) (oi := ⟨some 105, _, _, _, _, _⟩) (v := ?_) rfl (by kernel_rfl) (by kernel_rfl) (by kernel_rfl) (fun _ _ _ h => h) (Or.inl ⟨by rfl, ?_⟩) (by assumption) ?_
                rotate_left 1
                · intro w hSw; (try dsimp only at hSw); go_simp; try (with_reducible rfl)
                try simp only [Act.put, List.setIfInBounds_toArray, List.set_cons_zero, List.set_cons_succ]
                refine wpAnyH_take (i := 17) (oi := ⟨some 15, _, _, _, _, _⟩) (v := ?_) rfl (by kernel_rfl) (by kernel_rfl) (by kernel_rfl) (fun _ _ _ h => h) (Or.inl ⟨by rfl, ?_⟩) (by assumption) ?_
                rotate_left 1
                · intro w hSw; (try dsimp only at hSw); go_simp; try (with_reducible rfl)
                try simp only [Act.put, List.setIfInBounds_toArray, List.set_cons_zero, List.set_cons_succ]
                refine wpAnyH_take (i := 18) (oi := ⟨some 16, _, _, _, _, _⟩) (v := ?_) rfl (by kernel_rfl) (by kernel_rfl) (by kernel_rfl) (fun _ _ _ h => h) (Or.inl ⟨by rfl, ?_⟩) (by assumption) ?_
                rotate_left 1
                · intro w hSw; (try dsimp only at hSw); go_simp; try (with_reducible rfl)
                try simp only [Act.put, List.setIfInBounds_toArray, List.set_cons_zero, List.set_cons_succ]
                refine wpAnyH_take (i := 19) (oi := ⟨some 17, _, _, _, _, _⟩) (v := ?_) rfl (by kernel_rfl) (by kernel_rfl) (by kernel_rfl) (fun _ _ _ h => h) (Or.inl ⟨by rfl, ?_⟩) (by assumption) ?_
                rotate_left 1
                · intro w hSw; (try dsimp only at hSw); go_simp; try (with_reducible rfl)
                try simp only [Act.put, List.setIfInBounds_toArray, List.set_cons_zero, List.set_cons_succ]
                refine wpAnyH_done (by kernel_rfl) ?_ _
                try simp only [Act.put, List.setIfInBounds_toArray, List.set_cons_zero, List.set_cons_succ]
                go_wp2_with fail
                go_meet
                exact ⟨rfl, rfl, P7, B7⟩
              · have hcp2 : ¬ vc = m + 1 := fun e => hcp e.symm
                refine wp_region_held_drew (S := fun w' => (w'.cell? ⟨ib, 0, none⟩ = some (.int .i64 x) ∧ w'.cell? ⟨ib, 1, none⟩ = some (.int .i64 y) ∧ w'.cell? ⟨ib + 1, 0, none⟩ = some (.int .i64 k) ∧ w'.cell? ⟨ib + 1, 1, none⟩ = some (.int .i64 key) ∧ w'.cell? ⟨ib + 1, 2, none⟩ = some (.int .i64 c)) ∧ Below w4.heap.size w4 w') (by kernel_rfl) (mkS.out _ (Below.drew (Below.refl _ _))) (fun hHeld => ?_)
                have V0B := Lib.hid hHeld.2
                generalize w4.drew = V0 at hHeld V0B ⊢
                refine wpAnyH_take (i := 1) (oi := ⟨some 91, _, _, _, _, _⟩) (v := ?_) rfl (by kernel_rfl) (by kernel_rfl) (by kernel_rfl) (fun _ _ _ h => h) (Or.inl ⟨by rfl, ?_⟩) (by assumption) ?_
                rotate_left 1
                · intro w hSw; (try dsimp only at hSw); go_simp; try (with_reducible rfl)
                try simp only [Act.put, List.setIfInBounds_toArray, List.set_cons_zero, List.set_cons_succ]
                refine wpAnyH_take (i := 2) (oi := ⟨some 92, _, _, _, _, _⟩) (v := ?_) rfl (by kernel_rfl) (by kernel_rfl) (by kernel_rfl) (fun _ _ _ h => h) (Or.inl ⟨by rfl, ?_⟩) (by assumption) ?_
                rotate_left 1
                · intro w hSw; (try dsimp only at hSw); go_simp; try (with_reducible rfl)
                try simp only [Act.put, List.setIfInBounds_toArray, List.set_cons_zero, List.set_cons_succ]
                refine wpAnyH_take (i := 3) (oi := ⟨some 93, _, _, _, _, _⟩) (v := ?_) rfl (by kernel_rfl) (by kernel_rfl) (by kernel_rfl) (fun _ _ _ h => h) (Or.inl ⟨by rfl, ?_⟩) (by assumption) ?_
                rotate_left 1
                · intro w hSw; (try dsimp only at hSw); go_simp; try (with_reducible rfl)
                try simp only [Act.put, List.setIfInBounds_toArray, List.set_cons_zero, List.set_cons_succ]
                refine wpAnyH_take (i := 5) (oi := ⟨some 95, _, _, _, _, _⟩) (v := ?_) rfl (by kernel_rfl) (by kernel_rfl) (by kernel_rfl) (fun _ _ _ h => h) (Or.inl ⟨by rfl, ?_⟩) (by assumption) ?_
                rotate_left 1
                · intro w hSw; (try dsimp only at hSw); go_simp; try (with_reducible rfl)
                try simp only [Act.put, List.setIfInBounds_toArray, List.set_cons_zero, List.set_cons_succ]
                refine wpAnyH_take (i := 6) (oi := ⟨some 96, _, _, _, _, _⟩) (v := ?_) rfl (by kernel_rfl) (by kernel_rfl) (by kernel_rfl) (fun _ _ _ h => h) (Or.inl ⟨by rfl, ?_⟩) (by assumption) ?_
                rotate_left 1
                · intro w hSw; (try dsimp only at hSw); go_simp; try (with_reducible rfl)
                try simp only [Act.put, List.setIfInBounds_toArray, List.set_cons_zero, List.set_cons_succ]
                refine wpAnyH_take (i := 7) (oi := ⟨some 97, _, _, _, _, _⟩) (v := ?_) rfl (by kernel_rfl) (by kernel_rfl) (by kernel_rfl) (fun _ _ _ h => h) (Or.inl ⟨by rfl, ?_⟩) (by assumption) ?_
                rotate_left 1
                · intro w hSw; (try dsimp only at hSw); go_simp; try (with_reducible rfl)
                try simp only [Act.put, List.setIfInBounds_toArray, List.set_cons_zero, List.set_cons_succ]
                refine wpAnyH_take (i := 8) (oi := ⟨some 98, _, _, _, _, _⟩) (v := ?_) rfl (by kernel_rfl) (by kernel_rfl) (by kernel_rfl) (fun _ _ _ h => h) (Or.inl ⟨by rfl, ?_⟩) (by assumption) ?_
                rotate_left 1
                · intro w hSw; (try dsimp only at hSw); go_simp; try (with_reducible rfl)
                try simp only [Act.put, List.setIfInBounds_toArray, List.set_cons_zero, List.set_cons_succ]
                refine wpAnyH_take (i := 10) (oi := ⟨some 100, _, _, _, _, _⟩) (v := ?_) rfl (by kernel_rfl) (by kernel_rfl) (by kernel_rfl) (fun _ _ _ h => h) (Or.inl ⟨by rfl, ?_⟩) (by assumption) ?_
                rotate_left 1
                · intro w hSw; (try dsimp only at hSw); go_simp; try (with_reducible rfl)
                try simp only [Act.put, List.setIfInBounds_toArray, List.set_cons_zero, List.set_cons_succ]
                refine wpAnyH_take (i := 11) (oi := ⟨some 101, _, _, _, _, _⟩) (v := ?_) rfl (by kernel_rfl) (by kernel_rfl) (by kernel_rfl) (fun _ _ _ h => h) (Or.inl ⟨by rfl, ?_⟩) (by assumption) ?_
                rotate_left 1
                · intro w hSw; (try dsimp only at hSw); go_simp; try (with_reducible rfl)
                try simp only [Act.put, List.setIfInBounds_toArray, List.set_cons_zero, List.set_cons_succ]
                refine wpAnyH_ready (rs := [0]) (by kernel_rfl) (by simp) ?_
                refine AllReadyH.cons (o := ⟨some 90, _, _, _, _, _⟩) rfl (fun K hK => ?_) AllReadyH.nil
                have R0 : Hid ((V0.alloc (.cells #[] 36)).ownsRow w4.heap.size 36 9 (.slice (some ⟨V0.heap.size, 0, none⟩) 0 0) 0 []) := Lib.hid (er_new V0 w4.heap.size V0B.out.size).row
                have B0 : Hid (Below w4.heap.size w4 (V0.alloc (.cells #[] 36))) := Lib.hid (V0B.out.alloc V0B.out.size _)
                go_simp
                generalize V0.alloc (.cells #[] 36) = V1 at R0 B0 ⊢
                refine hK.out _ _ ?_ (fun hHeld2 => ?_)
                · exact mkS.out _ B0.out
                clear hK K hHeld
                have hHeld := hHeld2
                clear hHeld2
                try simp only [Act.put, List.setIfInBounds_toArray, List.set_cons_zero, List.set_cons_succ]
                refine wpAnyH_ready (rs := [4]) (by kernel_rfl) (by simp) ?_
                refine AllReadyH.cons (o := ⟨some 94, _, _, _, _, _⟩) rfl (fun K hK => ?_) AllReadyH.nil
                rw [if_pos (by rfl)]
                refine wp_append_own _ _ _ 23 rfl w4.heap.size 36 j0 (.agg #[.int .i64 0, .int .i64 0, .int .i64 0, .int .i64 0, .int .i64 0, .int .i64 0, .int .i64 0, .int .i64 0, .slice none 0 0]) 9 88 Tryd.underlying23 hj0 jz0 jz1 jz2 rfl (by decide) _ 0 [] rfl R0.out ⟨g, off, none⟩ m vc (flatE (elr E U 0 m)) rfl (by rw [flatE_len, elr_len]) (src1.out _ B0.out) (one1.out) (by unfold maxLen; omega) (by omega) (by have := Below.size B0.out; omega) ?_
                intro v5 w5 hown5 hgrow5 hnil5
                have B5 := Lib.hid (Below.trans B0.out (grown_of R0.out hgrow5 (Below.size B0.out)))
                have hn5 : v5 ≠ .slice none 0 0 := (fun e => nomatch (hnil5.1 e).1)
                have Y5 := Lib.hid (show w5.ownsRow w4.heap.size 36 9 v5 m (flatE (elr E U 0 m)) from by have h := hown5; rw [Nat.zero_add, List.nil_append] at h; exact h)
                clear hown5 hgrow5 hnil5 R0 B0
                refine hK.out _ _ ?_ (fun hHeld2 => ?_)
                · exact mkS.out _ B5.out
                clear hK K hHeld
                have hHeld := hHeld2
                clear hHeld2
                try simp only [Act.put, List.setIfInBounds_toArray, List.set_cons_zero, List.set_cons_succ]
                refine wpAnyH_ready (rs := [9]) (by kernel_rfl) (by simp) ?_
                refine AllReadyH.cons (o := ⟨some 99, _, _, _, _, _⟩) rfl (fun K hK => ?_) AllReadyH.nil
                rw [if_pos (by rfl)]
                refine wp_append_own _ _ _ 23 rfl w4.heap.size 36 j0 (.agg #[.int .i64 0, .int .i64 0, .int .i64 0, .int .i64 0, .int .i64 0, .int .i64 0, .int .i64 0, .int .i64 0, .slice none 0 0]) 9 88 Tryd.underlying23 hj0 jz0 jz1 jz2 rfl (by decide) _ m (flatE (elr E U 0 m)) rfl Y5.out ⟨g, off + (m + 1) * 9, none⟩ (nn - (m + 1)) (vc - (m + 1)) (flatE (elr E U (m + 1) (nn - (m + 1)))) rfl (by rw [flatE_len, elr_len]) (src2.out _ B5.out) (one2.out) (by unfold maxLen; omega) (by omega) (by have := Below.size B5.out; omega) ?_
                intro v6 w6 hown6 hgrow6 hnil6
                have B6 := Lib.hid (Below.trans B5.out (grown_of Y5.out hgrow6 (Below.size B5.out)))
                have hn6 : v6 ≠ .slice none 0 0 := (fun e => hn5 (hnil6.1 e).1)
                have Y6 := Lib.hid hown6
                clear hown6 hgrow6 hnil6 Y5 B5
                refine hK.out _ _ ?_ (fun hHeld2 => ?_)
                · exact mkS.out _ B6.out
                clear hK K hHeld
                have hHeld := hHeld2
                clear hHeld2
                try simp only [Act.put, List.setIfInBounds_toArray, List.set_cons_zero, List.set_cons_succ]
                refine wpAnyH_ready (rs := [12]) (by kernel_rfl) (by simp) ?_
                refine AllReadyH.cons (o := ⟨some 102, _, _, _, _, _⟩) rfl (fun K hK => ?_) AllReadyH.nil
                go_simp
                with_reducible refine (il2 _ _ (TabIn.up T4.out B6.out (Nat.le_refl _)) (fin.out w6 v6 B6.out hn6 Y6.out)).mono ?_
                rintro e w7 ⟨⟨u7, rfl, b7, hb7, P7⟩, B⟩
                have P7 := Lib.hid P7.read
                have B7 := Lib.hid (bstep B6.out B)
                clear B hb7
                go_wp2_with fail
                refine hK.out _ _ ?_ (fun hHeld2 => ?_)
                · exact mkS.out _ B7.out
                clear hK K hHeld
                have hHeld := hHeld2
                clear hHeld2
                try simp only [Act.put, List.setIfInBounds_toArray, List.set_cons_zero, List.set_cons_succ]
                refine wpAnyH_take (i := 13) (oi := ⟨some 89, _, _, _, _, _⟩) (v := ?_) rfl (by kernel_rfl) (by kernel_rfl) (by kernel_rfl) (fun _ _ _ h => h) (Or.inl ⟨by rfl, ?_⟩) (by assumption) ?_
                rotate_left 1
                · intro w hSw; (try dsimp only at hSw); go_simp; try (with_reducible rfl)
                try simp only [Act.put, List.setIfInBounds_toArray, List.set_cons_zero, List.set_cons_succ]
                refine wpAnyH_take (i := 14) (oi := ⟨some 103, _, _, _, _, _⟩) (v := ?_) rfl (by kernel_rfl) (by kernel_rfl) (by kernel_rfl) (fun _ _ _ h => h) (Or.inl ⟨by rfl, ?_⟩) (by assumption) ?_
                rotate_left 1
                · intro w hSw; (try dsimp only at hSw); go_simp; try (with_reducible rfl)
                try simp only [Act.put, List.setIfInBounds_toArray, List.set_cons_zero, List.set_cons_succ]
                refine wpAnyH_take (i := 15) (oi := ⟨some 104, _, _, _, _, _⟩) (v := ?_) rfl (by kernel_rfl) (by kernel_rfl) (by kernel_rfl) (fun _ _ _ h => h) (Or.inl ⟨by rfl, ?_⟩) (by assumption) ?_
                rotate_left 1
                · intro w hSw; (try dsimp only at hSw); go_simp; try (with_reducible rfl)
                try simp only [Act.put, List.setIfInBounds_toArray, List.set_cons_zero, List.set_cons_succ]
                refine wpAnyH_take (i := 16) (oi := ⟨some 105, _, _, _, _, _⟩) (v := ?_) rfl (by kernel_rfl) (by kernel_rfl) (by kernel_rfl) (fun _ _ _ h => h) (Or.inl ⟨by rfl, ?_⟩) (by assumption) ?_
                rotate_left 1
                · intro w hSw; (try dsimp only at hSw); go_simp; try (with_reducible rfl)
                try simp only [Act.put, List.setIfInBounds_toArray, List.set_cons_zero, List.set_cons_succ]
                refine wpAnyH_take (i := 17) (oi := ⟨some 15, _, _, _, _, _⟩) (v := ?_) rfl (by kernel_rfl) (by kernel_rfl) (by kernel_rfl) (fun _ _ _ h => h) (Or.inl ⟨by rfl, ?_⟩) (by assumption) ?_
                rotate_left 1
                · intro w hSw; (try dsimp only at hSw); go_simp; try (with_reducible rfl)
                try simp only [Act.put, List.setIfInBounds_toArray, List.set_cons_zero, List.set_cons_succ]
                refine wpAnyH_take (i := 18) (oi := ⟨some 16, _, _, _, _, _⟩) (v := ?_) rfl (by kernel_rfl) (by kernel_rfl) (by kernel_rfl) (fun _ _ _ h => h) (Or.inl ⟨by rfl, ?_⟩) (by assumption) ?_
                rotate_left 1
                · intro w hSw; (try dsimp only at hSw); go_simp; try (with_reducible rfl)
                try simp only [Act.put, List.setIfInBounds_toArray, List.set_cons_zero, List.set_cons_succ]
                refine wpAnyH_take (i := 19) (oi := ⟨some 17, _, _, _, _, _⟩) (v := ?_) rfl (by kernel_rfl) (by kernel_rfl) (by kernel_rfl) (fun _ _ _ h => h) (Or.inl ⟨by rfl, ?_⟩) (by assumption) ?_
                rotate_left 1
                · intro w hSw; (try dsimp only at hSw); go_simp; try (with_reducible rfl)
                try simp only [Act.put, List.setIfInBounds_toArray, List.set_cons_zero, List.set_cons_succ]
                refine wpAnyH_done (by kernel_rfl) ?_ _
                try simp only [Act.put, List.setIfInBounds_toArray, List.set_cons_zero, List.set_cons_succ]
                go_wp2_with fail
                go_meet
                exact ⟨rfl, rfl, P7, B7⟩
            case rest =>
              obtain ⟨rfl, rfl, P7, B7⟩ := hcut
              have iw := iwin_any _ _ S2 S wc P7.out (P4.out.up B7.out (Nat.le_refl _))
              rw [hw2.out] at iw
              have hle3 := hle2.out
              have D5 := Lib.hid (bstep D4.out B7.out)
              clear il2 a0 a1 c0 c1 c2 hle2
              go_wp2_with fail
              refine iw.mono ?_
              rintro e w8 ⟨rfl, B⟩
              have D6 := Lib.hid (bstep D5.out B)
              clear B iw
              go_wp2_with fail
              go_ret
              exact ⟨rfl, D6.out⟩
end Go.Proofs.YtpckhghcjedblaaDoor
