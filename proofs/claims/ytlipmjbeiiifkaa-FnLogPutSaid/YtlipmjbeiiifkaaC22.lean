/- Texts laid together. -/
import Derived.Test.YtlipmjbeiiifkaaC05
import Derived.Test.YtlipmjbeiiifkaaC17
import Derived.Test.YtlipmjbeiiifkaaC21
/- The walk of FnLogPut. -/
namespace Go.Proofs.Ytlipmjbeiiifkaa
open Go.RowKit
set_option linter.unusedVariables false

set_option maxRecDepth 100000 in
set_option maxHeartbeats 8000000 in
theorem fnLogPut_walk (a : Option Addr) (len cap : Nat) (w : World) (hc : CodeIn w a len cap) (hcap : cap ≤ maxLen) :
    Calls Try.prog 3 #[.slice a len cap] w fun e w' => e = .returned (.bool true) ∧ Below w.heap.size w w' := by
  have dn := dlp_any a len cap w hc hcap
  by_cases hlen : 1048576 < len
  · go_enter Try.func3, Try.ntmps3
    go_wp2_with fail
    go_ret
    exact ⟨rfl, Below.refl _ _⟩
  · go_enter Try.func3, Try.ntmps3
    go_wp2_with fail
    refine dn.mono ?_
    rintro e w1 ⟨v, E, X, u, b, rfl, O, hl, hin, _, hO, hd, B⟩
    obtain ⟨xa, xn, xc, rfl⟩ : ∃ ua un uc, u = .slice ua un uc := by obtain ⟨c, e, _⟩ := hO.shape; exact ⟨_, _, _, e⟩
    obtain ⟨g, cp, hv⟩ := O.len
    subst hv
    have BA := (Below.refl w1.heap.size w1).alloc (Nat.le_refl _) (.cells #[.int .i64 X.id.1, .int .i64 X.id.2, .int .i64 X.bal, .int .i64 X.st, .int .i64 X.k, .int .i64 X.key, .int .i64 X.v, .int .i64 X.seq, .slice xa xn xc] 30)
    have G2 := Lib.hid (show BxE (w1.alloc (.cells #[.int .i64 X.id.1, .int .i64 X.id.2, .int .i64 X.bal, .int .i64 X.st, .int .i64 X.k, .int .i64 X.key, .int .i64 X.v, .int .i64 X.seq, .slice xa xn xc] 30)) w1.heap.size X (.slice xa xn xc) from heap_alloc_new _ _)
    have O2 := Lib.hid (O.up BA)
    have I2 := Lib.hid ((hO.up BA hO.lt).read)
    have D := Lib.hid (bstep B BA)
    clear BA B O dn hO
    unfold env
    go_upto_region 4 with fail
    obtain ⟨eb, hx2⟩ : ∃ c, Hid (w1.heap.size = c) := ⟨_, Lib.hid rfl⟩
    rw [hx2.out] at G2 ⊢
    generalize w1.alloc (.cells #[.int .i64 X.id.1, .int .i64 X.id.2, .int .i64 X.bal, .int .i64 X.st, .int .i64 X.k, .int .i64 X.key, .int .i64 X.v, .int .i64 X.seq, .slice xa xn xc] 30) = w2 at G2 O2 I2 D ⊢
    clear hx2
    have iv := ilput_any _ E X (.slice xa xn xc) w2 O2.out.read I2.out
    have sv := fun W (hb : Below w2.heap.size w2 W) => slput_any _ E X (.slice xa xn xc) W (O2.out.read.up hb (Nat.le_refl _)) (I2.out.up hb (Nat.le_refl _))
    obtain ⟨⟨N, q⟩, hR⟩ : ∃ r, Hid (lputR E X = r) := ⟨_, Lib.hid rfl⟩
    unfold LpZ at iv
    unfold LpP at sv
    rw [hR.out] at iv sv
    dsimp only at iv sv
    unfold env at iv sv
    obtain ⟨n, hn⟩ : ∃ n, Hid (E.length = n) := ⟨_, Lib.hid rfl⟩
    rw [hn.out] at iv sv O2 hl ⊢
    obtain ⟨⟨y0, y1, y2, y3, y4, y5, y6, y7, y8⟩, ys⟩ := G2.out.cells
    go_wp2_with fail
    refine iv.mono ?_
    rintro e w3 ⟨⟨v5, rfl, O5⟩, F3⟩
    obtain ⟨g5, c5, hv5, _⟩ := O5.shape
    subst hv5
    have O5 := Lib.hid O5.read
    have F3 := Lib.hid F3
    have G3 := Lib.hid (G2.out.up F3.out)
    clear iv y0 y1 y2 y3 y4 y5 y6 y7 y8 ys
    obtain ⟨⟨y0, y1, y2, y3, y4, y5, y6, y7, y8⟩, ys⟩ := G3.out.cells
    go_wp2_with fail
    refine (sv _ F3.out).mono ?_
    rintro e w4 ⟨⟨v7, rfl, O7⟩, B⟩
    obtain ⟨g7, c7, hv7⟩ := O7.len
    subst hv7
    have O7 := Lib.hid O7.read
    replace O5 := Lib.hid (O5.out.up B (Nat.le_refl _))
    have F4 := Lib.hid (bstep F3.out B)
    have G4 := Lib.hid (G3.out.up B)
    clear sv B G3 F3 y0 y1 y2 y3 y4 y5 y6 y7 y8 ys
    have sm := fun W (hb : Below w4.heap.size w4 W) => smL_any _ _ N W (O5.out.up hb (Nat.le_refl _)) (O7.out.up hb (Nat.le_refl _))
    obtain ⟨m, hm⟩ : ∃ m, Hid (N.length = m) := ⟨_, Lib.hid rfl⟩
    have hm12 : m ≤ 12 := by have := lputR_len E X; rw [hR.out] at this; rw [← hm.out]; exact this
    rw [hm.out] at sm O5 O7 ⊢
    go_wp2_with fail
    refine (sm _ (Below.refl _ _)).mono ?_
    rintro e w5 ⟨rfl, B⟩
    have B5 := Lib.hid B
    have F5 := Lib.hid (bstep F4.out B)
    clear B
    cases q
    · go_wp2_with fail
      refine (sm _ B5.out).mono ?_
      rintro e w6 ⟨rfl, B⟩
      replace D := Lib.hid (bstep D.out (bstep F5.out B))
      clear B sm
      go_wp2_with fail
      go_ret
      exact ⟨rfl, D.out⟩
    · clear sm O7
      have hP := lputR_is (E := E) (X := X) (by rw [hR.out])
      rw [hR.out] at hP
      obtain ⟨hNp, hlog, henB, hN12⟩ := hP
      dsimp only at hNp
      have hasc := (log_of hlog).2.2
      have hlogN := Lib.hid (putE_valid hlog henB hN12)
      have hfi := Lib.hid (put_find hlogN.out)
      have hoth := Lib.hid (oth_put (X := X) hasc)
      rw [← hNp] at hlogN hfi hoth
      have hNp := Lib.hid hNp
      clear hlog henB hN12 hasc
      replace O5 := Lib.hid (O5.out.up B5.out (Nat.le_refl _))
      have G5 := Lib.hid (G4.out.up B5.out)
      clear G4 B5 F4
      obtain ⟨⟨y0, y1, y2, y3, y4, y5, y6, y7, y8⟩, ys⟩ := G5.out.cells
      have lf := ilfind_any _ N X.id.1 X.id.2 w5 O5.out hin
      unfold LfP at lf
      rw [show lfindR N (X.id.1, X.id.2) = (X, true) from hfi.out] at lf
      dsimp only at lf
      unfold env at lf
      go_wp2_with fail
      refine lf.mono ?_
      rintro e w6 ⟨u9, rfl, O9, B⟩
      obtain ⟨va9, vn9, vc9, rfl⟩ : ∃ ua un uc, u9 = .slice ua un uc := by obtain ⟨a, c, e, _⟩ := O9.read; exact ⟨a, _, c, e⟩
      have BA := (Below.refl w6.heap.size w6).alloc (Nat.le_refl _) (.cells #[.int .i64 X.id.1, .int .i64 X.id.2, .int .i64 X.bal, .int .i64 X.st, .int .i64 X.k, .int .i64 X.key, .int .i64 X.v, .int .i64 X.seq, .slice va9 vn9 vc9] 30)
      have H8 := Lib.hid (show BxE (w6.alloc (.cells #[.int .i64 X.id.1, .int .i64 X.id.2, .int .i64 X.bal, .int .i64 X.st, .int .i64 X.k, .int .i64 X.key, .int .i64 X.v, .int .i64 X.seq, .slice va9 vn9 vc9] 30)) w6.heap.size X (.slice va9 vn9 vc9) from heap_alloc_new _ _)
      have I8 := Lib.hid ((O9.up BA).read)
      have F8 := Lib.hid (bstep (bstep F5.out B) BA)
      have G8 := Lib.hid ((G5.out.up B).up BA)
      have O8 := Lib.hid ((O5.out.up B (Nat.le_refl _)).up BA (Nat.le_refl _))
      clear lf B BA O9 G5 O5 F5 y0 y1 y2 y3 y4 y5 y6 y7 y8 ys hfi
      go_upto_region 9 with fail
      obtain ⟨xb, hxb⟩ : ∃ c, Hid (w6.heap.size = c) := ⟨_, Lib.hid rfl⟩
      rw [hxb.out] at H8 ⊢
      generalize w6.alloc (.cells #[.int .i64 X.id.1, .int .i64 X.id.2, .int .i64 X.bal, .int .i64 X.st, .int .i64 X.k, .int .i64 X.key, .int .i64 X.v, .int .i64 X.seq, .slice va9 vn9 vc9] 30) = w8 at H8 I8 F8 G8 O8 ⊢
      clear hxb
      obtain ⟨UE, hAE⟩ : ∃ U, n = 0 ∨ EnsAt w2 g 0 E U := by
        obtain ⟨a', c', e, _, _, h3⟩ := O2.out.read
        injection e with e _ _
        rcases h3 with h3 | ⟨b, off, U, e2, h4⟩
        · exact ⟨fun _ => .slice none 0 0, .inl (hn.out.symm.trans h3)⟩
        · rw [e2] at e; obtain ⟨rfl, rfl⟩ : g = b ∧ 0 = off := (by simpa using e); exact ⟨U, .inr h4⟩
      have at_E : ∀ W k, k < n → Below w2.heap.size w2 W → EnAt W g (k * 9) (E.getD k en0) (UE k) ∧ g < W.heap.size := fun W k hk hb => by
        have h := (hAE.resolve_left (by omega)).up hb (Nat.le_refl _)
        have h2 := h.at_ k (by rw [hn.out]; exact hk)
        rw [Nat.zero_add] at h2
        exact ⟨h2, h.lt⟩
      obtain ⟨UN, hAN⟩ : ∃ U, m = 0 ∨ EnsAt w8 g5 0 N U := by
        obtain ⟨a', c', e, _, _, h3⟩ := O8.out
        injection e with e _ _
        rcases h3 with h3 | ⟨b, off, U, e2, h4⟩
        · exact ⟨fun _ => .slice none 0 0, .inl (hm.out.symm.trans h3)⟩
        · rw [e2] at e; obtain ⟨rfl, rfl⟩ : g5 = b ∧ 0 = off := (by simpa using e); exact ⟨U, .inr h4⟩
      have at_N : ∀ W k, k < m → Below w8.heap.size w8 W → EnAt W g5 (k * 9) (N.getD k en0) (UN k) ∧ g5 < W.heap.size := fun W k hk hb => by
        have h := (hAN.resolve_left (by omega)).up hb (Nat.le_refl _)
        have h2 := h.at_ k (by rw [hm.out]; exact hk)
        rw [Nat.zero_add] at h2
        exact ⟨h2, h.lt⟩
      replace at_E := Lib.hid at_E
      replace at_N := Lib.hid at_N
      have IX8 := Lib.hid (I2.out.up F8.out (Nat.le_refl _))
      clear hAE hAN O2 I2 G2
      obtain ⟨i0, hi, hz0, hz1, hz2⟩ := info_parts info_en
      have PE := Lib.hid (Rw2.start w8)
      go_wp2_with fail
      generalize (w8.alloc (.cells #[] 30)).alloc (.cells #[] 30) = wS at PE ⊢
      go_loopw [11, 13] (fun v i wr => ∃ (k : Nat) (L : EL), k ≤ n ∧ i = .int .i64 k ∧ Hid (L.map Prod.fst = oth X.id (E.take k)) ∧ Hid (Rw2 w8 wr v (.slice (some ⟨w8.heap.size + 1, 0, none⟩) 0 0) L [])) (fun _ i _ => n - (intOf i).toNat)
      case atStart => exact ⟨0, [], Nat.zero_le _, rfl, Lib.hid rfl, PE⟩
      case round =>
        clear PE
        obtain ⟨k, L, hk, rfl, hM, P⟩ := hrel
        by_cases hlt : k < n
        · have hkE : k < E.length := by rw [hn.out]; exact hlt
          have FW := bstep F8.out P.out.kp
          obtain ⟨x, hx⟩ : ∃ x, Hid (E.getD k en0 = x) := ⟨_, Lib.hid rfl⟩
          obtain ⟨⟨q0, q1, q2, q3, q4, q5, q6, q7, q8, qi⟩, qb⟩ := at_E.out _ k hlt FW
          obtain ⟨ua, un, uc, hu⟩ : ∃ ua un uc, UE k = .slice ua un uc := by obtain ⟨a, c, e, _⟩ := qi; exact ⟨a, _, c, e⟩
          rw [hx.out] at q0 q1 q2 q3 q4 q5 q6 q7 qi
          rw [hu] at q8 qi
          have hu := Lib.hid hu
          obtain ⟨⟨y0, y1, y2, y3, y4, y5, y6, y7, y8⟩, ys⟩ := (G8.out.up P.out.kp).cells
          by_cases hid : x.id = X.id
          · rw [hid] at q0 q1
            have hM5 := Lib.hid (show L.map Prod.fst = oth X.id (E.take (k + 1)) from by rw [oth_next _ hkE, hx.out, if_pos hid, List.append_nil]; exact hM.out)
            go_wp2_with fail
            go_quiet (fail)
            replace P := Lib.hid (P.out.up (w' := wr.drewN nq) (bdrewN (Below.refl _ _) _))
            generalize wr.drewN nq = wz at P ⊢
            clear y0 y1 y2 y3 y4 y5 y6 y7 y8 ys
            clear q0 q1 q2 q3 q4 q5 q6 q7 q8 qi qb
            go_wp2_with fail
            go_roundw
            case rel => exact ⟨k + 1, L, by omega, by go_num, hM5, P⟩
            case measure => simp [intOf]; omega
          · rcases pid_ne hid with hne | ⟨hne0, hne⟩
            · replace hu := hu.out
              go_wp2_with fail
              go_quiet (fail)
              replace P := Lib.hid (P.out.up (w' := wr.drewN nq) (bdrewN (Below.refl _ _) _))
              generalize wr.drewN nq = wz at P ⊢
              clear y0 y1 y2 y3 y4 y5 y6 y7 y8 ys
              clear q0 q1 q2 q3 q4 q5 q6 q7 q8 qi qb
              clear hne
              have bw := bstep F8.out P.out.kp
              obtain ⟨q0, q1, q2, q3, q4, q5, q6, q7, q8, qi⟩ := (at_E.out _ k hlt bw).1
              have qb := (at_E.out _ k hlt bw).2
              rw [hx.out, hu] at qi
              rw [hx.out] at q0 q1 q2 q3 q4 q5 q6 q7
              rw [hu] at q8
              have hPr := Lib.hid P.out.ra
              have hI8 := Lib.hid (show Ids w8 (.slice ua un uc) x.deps from by have h := (at_E.out w8 k hlt F8.out).1.ids; rw [hx.out, hu] at h; exact h)
              obtain ⟨m, hm'⟩ : ∃ m, Hid (L.length = m) := ⟨_, Lib.hid rfl⟩
              have hmk : m ≤ 30 := by
                have e := congrArg List.length hM.out
                rw [List.length_map, hm'.out] at e
                have e2 := oth_len X.id (E.take k)
                rw [List.length_take] at e2
                omega
              rw [hm'.out] at hPr
              have hPs := P.out.kp.size
              clear qi bw
              go_wp2_with (at_builtin; refine wpList_append_own_at _ rfl _ _ 23 rfl w8.heap.size 30 i0 (.agg #[.int .i64 0, .int .i64 0, .int .i64 0, .int .i64 0, .int .i64 0, .int .i64 0, .int .i64 0, .int .i64 0, .slice none 0 0]) 9 88 Try.underlying23 hi hz0 hz1 hz2 rfl (by decide) _ m (flatE L) rfl (hPr.out.alloc _) ⟨wz.heap.size, 0, none⟩ 1 1 [.int .i64 x.id.1, .int .i64 x.id.2, .int .i64 x.bal, .int .i64 x.st, .int .i64 x.k, .int .i64 x.key, .int .i64 x.v, .int .i64 x.seq, .slice ua un uc] rfl rfl ?fEa1 ?fEa2 ?fEa3 ?fEa4 ?fEa5 ?_)
              case fEa1 => exact nine_srcE _ _ _ _ _ _ _ _ _ _ _ _ (by simp)
              case fEa2 => exact nine_oneE _ _ _ _ _ _ _ _ _ _ _
              case fEa3 => unfold maxLen; omega
              case fEa4 => omega
              case fEa5 => first | omega | (simp; omega)
              intro v' w' hown' hgrow hnil hat
              have P5 := Lib.hid (P.out.next (x := (x, .slice ua un uc)) (by rw [hm'.out]; exact hown') hgrow (fun e => hnil e) (hat.imp (fun h => h) (fun h => by simpa using h)) hI8.out)
              have hM5 := Lib.hid (show (L ++ [(x, Value.slice ua un uc)]).map Prod.fst = oth X.id (E.take (k + 1)) from by
                rw [oth_next _ hkE, hx.out, if_neg hid, List.map_append, hM.out]; rfl)
              clear hown' hgrow hnil hat hPr hm' hmk hPs P hM hI8 q0 q1 q2 q3 q4 q5 q6 q7 q8 qb
              go_wp2_with fail
              go_roundw
              case rel => exact ⟨k + 1, _, by omega, by go_num, hM5, P5⟩
              case measure => simp [intOf]; omega
            · replace hu := hu.out
              go_wp2_with fail
              go_quiet (fail)
              replace P := Lib.hid (P.out.up (w' := wr.drewN nq) (bdrewN (Below.refl _ _) _))
              generalize wr.drewN nq = wz at P ⊢
              clear y0 y1 y2 y3 y4 y5 y6 y7 y8 ys
              clear q0 q1 q2 q3 q4 q5 q6 q7 q8 qi qb
              clear hne hne0
              have bw := bstep F8.out P.out.kp
              obtain ⟨q0, q1, q2, q3, q4, q5, q6, q7, q8, qi⟩ := (at_E.out _ k hlt bw).1
              have qb := (at_E.out _ k hlt bw).2
              rw [hx.out, hu] at qi
              rw [hx.out] at q0 q1 q2 q3 q4 q5 q6 q7
              rw [hu] at q8
              have hPr := Lib.hid P.out.ra
              have hI8 := Lib.hid (show Ids w8 (.slice ua un uc) x.deps from by have h := (at_E.out w8 k hlt F8.out).1.ids; rw [hx.out, hu] at h; exact h)
              obtain ⟨m, hm'⟩ : ∃ m, Hid (L.length = m) := ⟨_, Lib.hid rfl⟩
              have hmk : m ≤ 30 := by
                have e := congrArg List.length hM.out
                rw [List.length_map, hm'.out] at e
                have e2 := oth_len X.id (E.take k)
                rw [List.length_take] at e2
                omega
              rw [hm'.out] at hPr
              have hPs := P.out.kp.size
              clear qi bw
              go_wp2_with (at_builtin; refine wpList_append_own_at _ rfl _ _ 23 rfl w8.heap.size 30 i0 (.agg #[.int .i64 0, .int .i64 0, .int .i64 0, .int .i64 0, .int .i64 0, .int .i64 0, .int .i64 0, .int .i64 0, .slice none 0 0]) 9 88 Try.underlying23 hi hz0 hz1 hz2 rfl (by decide) _ m (flatE L) rfl (hPr.out.alloc _) ⟨wz.heap.size, 0, none⟩ 1 1 [.int .i64 x.id.1, .int .i64 x.id.2, .int .i64 x.bal, .int .i64 x.st, .int .i64 x.k, .int .i64 x.key, .int .i64 x.v, .int .i64 x.seq, .slice ua un uc] rfl rfl ?fEb1 ?fEb2 ?fEb3 ?fEb4 ?fEb5 ?_)
              case fEb1 => exact nine_srcE _ _ _ _ _ _ _ _ _ _ _ _ (by simp)
              case fEb2 => exact nine_oneE _ _ _ _ _ _ _ _ _ _ _
              case fEb3 => unfold maxLen; omega
              case fEb4 => omega
              case fEb5 => first | omega | (simp; omega)
              intro v' w' hown' hgrow hnil hat
              have P5 := Lib.hid (P.out.next (x := (x, .slice ua un uc)) (by rw [hm'.out]; exact hown') hgrow (fun e => hnil e) (hat.imp (fun h => h) (fun h => by simpa using h)) hI8.out)
              have hM5 := Lib.hid (show (L ++ [(x, Value.slice ua un uc)]).map Prod.fst = oth X.id (E.take (k + 1)) from by
                rw [oth_next _ hkE, hx.out, if_neg hid, List.map_append, hM.out]; rfl)
              clear hown' hgrow hnil hat hPr hm' hmk hPs P hM hI8 q0 q1 q2 q3 q4 q5 q6 q7 q8 qb
              go_wp2_with fail
              go_roundw
              case rel => exact ⟨k + 1, _, by omega, by go_num, hM5, P5⟩
              case measure => simp [intOf]; omega
        · obtain rfl : k = n := by omega
          have PN := Lib.hid P.out.swap
          have hMA := Lib.hid (show L.map Prod.fst = oth X.id E from by rw [hM.out, List.take_of_length_le (by rw [hn.out]; exact Nat.le_refl _)])
          obtain ⟨LA, hLA⟩ : ∃ x, x = L := ⟨_, rfl⟩
          rw [← hLA] at PN hMA
          clear P hM hLA
          go_wp2_with fail
          go_loopw [12, 14] (fun v i wr => ∃ (k : Nat) (L : EL), k ≤ m ∧ i = .int .i64 k ∧ Hid (L.map Prod.fst = oth X.id (N.take k)) ∧ Hid (Rw2 w8 wr v u11 L LA)) (fun _ i _ => m - (intOf i).toNat)
          case atStart => exact ⟨0, [], Nat.zero_le _, rfl, Lib.hid rfl, PN⟩
          case round =>
            clear PN
            obtain ⟨k, L, hk, rfl, hM, P⟩ := hrel
            by_cases hlt : k < m
            · have hkE : k < N.length := by rw [hm.out]; exact hlt
              have FW := P.out.kp
              obtain ⟨x, hx⟩ : ∃ x, Hid (N.getD k en0 = x) := ⟨_, Lib.hid rfl⟩
              obtain ⟨⟨q0, q1, q2, q3, q4, q5, q6, q7, q8, qi⟩, qb⟩ := at_N.out _ k hlt FW
              obtain ⟨ua, un, uc, hu⟩ : ∃ ua un uc, UN k = .slice ua un uc := by obtain ⟨a, c, e, _⟩ := qi; exact ⟨a, _, c, e⟩
              rw [hx.out] at q0 q1 q2 q3 q4 q5 q6 q7 qi
              rw [hu] at q8 qi
              have hu := Lib.hid hu
              obtain ⟨⟨y0, y1, y2, y3, y4, y5, y6, y7, y8⟩, ys⟩ := (G8.out.up P.out.kp).cells
              by_cases hid : x.id = X.id
              · rw [hid] at q0 q1
                have hM5 := Lib.hid (show L.map Prod.fst = oth X.id (N.take (k + 1)) from by rw [oth_next _ hkE, hx.out, if_pos hid, List.append_nil]; exact hM.out)
                go_wp2_with fail
                go_quiet (fail)
                replace P := Lib.hid (P.out.up (w' := wr.drewN nq) (bdrewN (Below.refl _ _) _))
                generalize wr.drewN nq = wz at P ⊢
                clear y0 y1 y2 y3 y4 y5 y6 y7 y8 ys
                clear q0 q1 q2 q3 q4 q5 q6 q7 q8 qi qb
                go_wp2_with fail
                go_roundw
                case rel => exact ⟨k + 1, L, by omega, by go_num, hM5, P⟩
                case measure => simp [intOf]; omega
              · rcases pid_ne hid with hne | ⟨hne0, hne⟩
                · replace hu := hu.out
                  go_wp2_with fail
                  go_quiet (fail)
                  replace P := Lib.hid (P.out.up (w' := wr.drewN nq) (bdrewN (Below.refl _ _) _))
                  generalize wr.drewN nq = wz at P ⊢
                  clear y0 y1 y2 y3 y4 y5 y6 y7 y8 ys
                  clear q0 q1 q2 q3 q4 q5 q6 q7 q8 qi qb
                  clear hne
                  have bw := P.out.kp
                  obtain ⟨q0, q1, q2, q3, q4, q5, q6, q7, q8, qi⟩ := (at_N.out _ k hlt bw).1
                  have qb := (at_N.out _ k hlt bw).2
                  rw [hx.out, hu] at qi
                  rw [hx.out] at q0 q1 q2 q3 q4 q5 q6 q7
                  rw [hu] at q8
                  have hPr := Lib.hid P.out.ra
                  have hI8 := Lib.hid (show Ids w8 (.slice ua un uc) x.deps from by have h := (at_N.out w8 k hlt (Below.refl _ _)).1.ids; rw [hx.out, hu] at h; exact h)
                  obtain ⟨m, hm'⟩ : ∃ m, Hid (L.length = m) := ⟨_, Lib.hid rfl⟩
                  have hmk : m ≤ 30 := by
                    have e := congrArg List.length hM.out
                    rw [List.length_map, hm'.out] at e
                    have e2 := oth_len X.id (N.take k)
                    rw [List.length_take] at e2
                    omega
                  rw [hm'.out] at hPr
                  have hPs := P.out.kp.size
                  clear qi bw
                  go_wp2_with (at_builtin; refine wpList_append_own_at _ rfl _ _ 23 rfl w8.heap.size 30 i0 (.agg #[.int .i64 0, .int .i64 0, .int .i64 0, .int .i64 0, .int .i64 0, .int .i64 0, .int .i64 0, .int .i64 0, .slice none 0 0]) 9 88 Try.underlying23 hi hz0 hz1 hz2 rfl (by decide) _ m (flatE L) rfl (hPr.out.alloc _) ⟨wz.heap.size, 0, none⟩ 1 1 [.int .i64 x.id.1, .int .i64 x.id.2, .int .i64 x.bal, .int .i64 x.st, .int .i64 x.k, .int .i64 x.key, .int .i64 x.v, .int .i64 x.seq, .slice ua un uc] rfl rfl ?fNa1 ?fNa2 ?fNa3 ?fNa4 ?fNa5 ?_)
                  case fNa1 => exact nine_srcE _ _ _ _ _ _ _ _ _ _ _ _ (by simp)
                  case fNa2 => exact nine_oneE _ _ _ _ _ _ _ _ _ _ _
                  case fNa3 => unfold maxLen; omega
                  case fNa4 => omega
                  case fNa5 => first | omega | (simp; omega)
                  intro v' w' hown' hgrow hnil hat
                  have P5 := Lib.hid (P.out.next (x := (x, .slice ua un uc)) (by rw [hm'.out]; exact hown') hgrow (fun e => hnil e) (hat.imp (fun h => h) (fun h => by simpa using h)) hI8.out)
                  have hM5 := Lib.hid (show (L ++ [(x, Value.slice ua un uc)]).map Prod.fst = oth X.id (N.take (k + 1)) from by
                    rw [oth_next _ hkE, hx.out, if_neg hid, List.map_append, hM.out]; rfl)
                  clear hown' hgrow hnil hat hPr hm' hmk hPs P hM hI8 q0 q1 q2 q3 q4 q5 q6 q7 q8 qb
                  go_wp2_with fail
                  go_roundw
                  case rel => exact ⟨k + 1, _, by omega, by go_num, hM5, P5⟩
                  case measure => simp [intOf]; omega
                · replace hu := hu.out
                  go_wp2_with fail
                  go_quiet (fail)
                  replace P := Lib.hid (P.out.up (w' := wr.drewN nq) (bdrewN (Below.refl _ _) _))
                  generalize wr.drewN nq = wz at P ⊢
                  clear y0 y1 y2 y3 y4 y5 y6 y7 y8 ys
                  clear q0 q1 q2 q3 q4 q5 q6 q7 q8 qi qb
                  clear hne hne0
                  have bw := P.out.kp
                  obtain ⟨q0, q1, q2, q3, q4, q5, q6, q7, q8, qi⟩ := (at_N.out _ k hlt bw).1
                  have qb := (at_N.out _ k hlt bw).2
                  rw [hx.out, hu] at qi
                  rw [hx.out] at q0 q1 q2 q3 q4 q5 q6 q7
                  rw [hu] at q8
                  have hPr := Lib.hid P.out.ra
                  have hI8 := Lib.hid (show Ids w8 (.slice ua un uc) x.deps from by have h := (at_N.out w8 k hlt (Below.refl _ _)).1.ids; rw [hx.out, hu] at h; exact h)
                  obtain ⟨m, hm'⟩ : ∃ m, Hid (L.length = m) := ⟨_, Lib.hid rfl⟩
                  have hmk : m ≤ 30 := by
                    have e := congrArg List.length hM.out
                    rw [List.length_map, hm'.out] at e
                    have e2 := oth_len X.id (N.take k)
                    rw [List.length_take] at e2
                    omega
                  rw [hm'.out] at hPr
                  have hPs := P.out.kp.size
                  clear qi bw
                  go_wp2_with (at_builtin; refine wpList_append_own_at _ rfl _ _ 23 rfl w8.heap.size 30 i0 (.agg #[.int .i64 0, .int .i64 0, .int .i64 0, .int .i64 0, .int .i64 0, .int .i64 0, .int .i64 0, .int .i64 0, .slice none 0 0]) 9 88 Try.underlying23 hi hz0 hz1 hz2 rfl (by decide) _ m (flatE L) rfl (hPr.out.alloc _) ⟨wz.heap.size, 0, none⟩ 1 1 [.int .i64 x.id.1, .int .i64 x.id.2, .int .i64 x.bal, .int .i64 x.st, .int .i64 x.k, .int .i64 x.key, .int .i64 x.v, .int .i64 x.seq, .slice ua un uc] rfl rfl ?fNb1 ?fNb2 ?fNb3 ?fNb4 ?fNb5 ?_)
                  case fNb1 => exact nine_srcE _ _ _ _ _ _ _ _ _ _ _ _ (by simp)
                  case fNb2 => exact nine_oneE _ _ _ _ _ _ _ _ _ _ _
                  case fNb3 => unfold maxLen; omega
                  case fNb4 => omega
                  case fNb5 => first | omega | (simp; omega)
                  intro v' w' hown' hgrow hnil hat
                  have P5 := Lib.hid (P.out.next (x := (x, .slice ua un uc)) (by rw [hm'.out]; exact hown') hgrow (fun e => hnil e) (hat.imp (fun h => h) (fun h => by simpa using h)) hI8.out)
                  have hM5 := Lib.hid (show (L ++ [(x, Value.slice ua un uc)]).map Prod.fst = oth X.id (N.take (k + 1)) from by
                    rw [oth_next _ hkE, hx.out, if_neg hid, List.map_append, hM.out]; rfl)
                  clear hown' hgrow hnil hat hPr hm' hmk hPs P hM hI8 q0 q1 q2 q3 q4 q5 q6 q7 q8 qb
                  go_wp2_with fail
                  go_roundw
                  case rel => exact ⟨k + 1, _, by omega, by go_num, hM5, P5⟩
                  case measure => simp [intOf]; omega
            · obtain rfl : k = m := by omega
              have hL1 : (L.map Prod.fst).length ≤ 12 := by rw [hM.out]; have e2 := oth_len X.id (N.take k); rw [List.length_take] at e2; omega
              rw [List.length_map] at hL1
              have hB := Lib.hid (P.out.ensA (by omega))
              have hL2 : LA.length ≤ 12 := by have e := congrArg List.length hMA.out; rw [List.length_map] at e; have := oth_len X.id E; rw [hn.out] at this; omega
              have hA := Lib.hid (P.out.ensB (by omega))
              rw [hMA.out] at hA
              rw [hM.out] at hB
              rw [show N.take k = N from List.take_of_length_le (by rw [hm.out]; exact Nat.le_refl _)] at hB
              rw [show oth X.id (N) = oth X.id E from hoth.out] at hB
              have K9 := Lib.hid P.out.kp
              obtain ⟨gB, cB, hvB⟩ := P.out.shapeA
              obtain ⟨gA, cA, hvA⟩ := P.out.swap.shapeA
              subst hvA hvB
              have H9 := Lib.hid (H8.out.up K9.out)
              have I9 := Lib.hid (I8.out.up K9.out (Nat.le_refl _))
              have G9 := Lib.hid (G8.out.up K9.out)
              have J9 := Lib.hid (IX8.out.up K9.out (Nat.le_refl _))
              have O9 := Lib.hid (O8.out.up K9.out (Nat.le_refl _))
              replace D := Lib.hid (bstep D.out (bstep F8.out K9.out))
              clear K9 H8 I8 G8 IX8 O8 F8 P hM hMA
              go_wp2_with fail
              refine (ilogv_any _ N _ O9.out).mono ?_
              rintro e w10 ⟨rfl, B⟩
              rw [hlogN.out]
              replace H9 := Lib.hid (H9.out.up B)
              replace I9 := Lib.hid (I9.out.up B (Nat.le_refl _))
              replace G9 := Lib.hid (G9.out.up B)
              replace J9 := Lib.hid (J9.out.up B (Nat.le_refl _))
              replace hA := Lib.hid (hA.out.up B (Nat.le_refl _))
              replace hB := Lib.hid (hB.out.up B (Nat.le_refl _))
              replace D := Lib.hid (bstep D.out B)
              clear B O9
              obtain ⟨⟨p0, p1, p2, p3, p4, p5, p6, p7, p8⟩, pl⟩ := H9.out.cells
              obtain ⟨⟨r0, r1, r2, r3, r4, r5, r6, r7, r8⟩, rl⟩ := G9.out.cells
              have se := sameE_self X _ _ _ I9.out J9.out
              unfold env at se
              go_wp2_with fail
              refine se.mono ?_
              rintro e w11 ⟨rfl, B⟩
              replace hA := Lib.hid (hA.out.up B (Nat.le_refl _))
              replace hB := Lib.hid (hB.out.up B (Nat.le_refl _))
              replace D := Lib.hid (bstep D.out B)
              clear B se H9 G9 I9 J9 p0 p1 p2 p3 p4 p5 p6 p7 p8 pl r0 r1 r2 r3 r4 r5 r6 r7 r8 rl
              go_wp2_with fail
              refine (smL_any _ _ _ _ hA.out hB.out).mono ?_
              rintro e w12 ⟨rfl, B⟩
              replace D := Lib.hid (bstep D.out B)
              clear B
              go_wp2_with fail
              go_ret
              exact ⟨rfl, D.out⟩
end Go.Proofs.Ytlipmjbeiiifkaa
