/- Texts laid together. -/
import Derived.Test.YtfcjhojkfchccaaDoorC31
import Derived.Test.YtfcjhojkfchccaaDoorC27
import Derived.Test.YtfcjhojkfchccaaDoorC23
import Derived.Test.YtfcjhojkfchccaaDoorC30
import Derived.Test.YtfcjhojkfchccaaDoorC41
import Derived.Test.YtfcjhojkfchccaaDoorC42
import Derived.Deep.DeepCutAuto
/- The walk of FnAnswersJoinNone. -/
namespace Go.Proofs.YtfcjhojkfchccaaDoor
open Go.RowKit
set_option linter.unusedVariables false

theorem pl_dhN {w : World} {b : Nat} {o : Obj} (h : w.heap[b]? = some o) : w.drew.heap[b]? = some o := h
set_option maxRecDepth 100000 in
set_option maxHeartbeats 16000000 in
theorem answersJoinNone_any (a : Option Addr) (len cap : Nat) (w : World) (hc : CodeIn w a len cap) (hcap : cap ≤ maxLen) (hT : TabIn w) :
    Calls Tryd.prog 5 #[.slice a len cap] w fun e w' => e = .returned (.bool true) ∧ Below w.heap.size w w' := by
  have dn := dajz_any a len cap w hc hcap
  by_cases hlen : 1048576 < len
  · go_enter Tryd.func5, Tryd.ntmps5
    go_wp2_with fail
    go_ret
    exact ⟨rfl, Below.refl _ _⟩
  · replace hT := Lib.hid hT
    go_enter Tryd.func5, Tryd.ntmps5
    go_wp2_with fail
    refine dn.mono ?_
    rintro e w1 ⟨X, u, E, g, vc, U, rfl, hI, hvc, hEA, hl4, B⟩
    have hE : Ens w1 (.slice (some ⟨g, 0, none⟩) E.length vc) E := ⟨_, _, rfl, hvc, by omega, .inr ⟨g, 0, U, rfl, hEA⟩⟩
    obtain ⟨ua, un, uc, rfl⟩ : ∃ ua un uc, u = .slice ua un uc := by obtain ⟨a, c, e, _⟩ := hI; exact ⟨a, _, c, e⟩
    obtain ⟨l, hl⟩ : ∃ l, Hid (E.length = l) := ⟨_, Lib.hid rfl⟩
    have BA := (Below.refl w1.heap.size w1).alloc (Nat.le_refl _) (.cells #[.int .i64 X.id.1, .int .i64 X.id.2, .int .i64 X.bal, .int .i64 X.st, .int .i64 X.k, .int .i64 X.key, .int .i64 X.v, .int .i64 X.seq, .slice ua un uc] 29)
    have A := Lib.hid (heap_alloc_new w1 (.cells #[.int .i64 X.id.1, .int .i64 X.id.2, .int .i64 X.bal, .int .i64 X.st, .int .i64 X.k, .int .i64 X.key, .int .i64 X.v, .int .i64 X.seq, .slice ua un uc] 29))
    have D := Lib.hid (bstep B BA)
    have I2 := Lib.hid (hI.up BA (Nat.le_refl _))
    have E2 := Lib.hid (hE.up BA (Nat.le_refl _))
    have EA2 := Lib.hid (hEA.up BA (Nat.le_refl _))
    have T2 := Lib.hid (TabIn.up hT.out D.out (Nat.le_refl _))
    clear B BA hI hE hEA dn hT
    rw [hl.out] at E2 hl4 hvc ⊢
    unfold env
    go_upto_region 4 with fail
    generalize w1.heap.size = ob at A ⊢
    generalize w1.alloc (.cells #[.int .i64 X.id.1, .int .i64 X.id.2, .int .i64 X.bal, .int .i64 X.st, .int .i64 X.k, .int .i64 X.key, .int .i64 X.v, .int .i64 X.seq, .slice ua un uc] 29) = w2 at A D I2 E2 EA2 T2 ⊢
    have ia := iaj_any X (.slice ua un uc) (.slice (some ⟨g, 0, none⟩) l vc) E w2 T2.out I2.out E2.out
    have sa := fun W (hb : Below w2.heap.size w2 W) => saj_any X (.slice ua un uc) (.slice (some ⟨g, 0, none⟩) l vc) E W (I2.out.up hb (Nat.le_refl _)) (E2.out.up hb (Nat.le_refl _))
    unfold AjP at ia
    unfold SjP at sa
    obtain ⟨⟨Y, q⟩, hR⟩ : ∃ r, Hid (ansR X E = r) := ⟨_, Lib.hid rfl⟩
    simp only [hR.out] at sa
    rw [hR.out] at ia
    dsimp only at ia sa
    unfold env at ia sa
    obtain ⟨⟨y0, y1, y2, y3, y4, y5, y6, y7, y8⟩, _, yl⟩ := nine_all A.out
    go_wp2_with fail
    refine ia.mono ?_
    rintro e w3 ⟨u5, rfl, O5, B⟩
    obtain ⟨va5, vn5, vc5, rfl⟩ : ∃ ua un uc, u5 = .slice ua un uc := by obtain ⟨a, c, e, _⟩ := O5.read; exact ⟨a, _, c, e⟩
    have BA := (Below.refl w3.heap.size w3).alloc (Nat.le_refl _) (.cells #[.int .i64 Y.id.1, .int .i64 Y.id.2, .int .i64 Y.bal, .int .i64 Y.st, .int .i64 Y.k, .int .i64 Y.key, .int .i64 Y.v, .int .i64 Y.seq, .slice va5 vn5 vc5] 29)
    have G5 := Lib.hid (heap_alloc_new w3 (.cells #[.int .i64 Y.id.1, .int .i64 Y.id.2, .int .i64 Y.bal, .int .i64 Y.st, .int .i64 Y.k, .int .i64 Y.key, .int .i64 Y.v, .int .i64 Y.seq, .slice va5 vn5 vc5] 29))
    have F := Lib.hid (bstep B BA)
    have A4 := Lib.hid (bblk F.out (lt_of_heap A.out) A.out)
    have I5 := Lib.hid (O5.read.up BA (Nat.le_refl _))
    clear ia B BA O5 y0 y1 y2 y3 y4 y5 y6 y7 y8 yl
    go_upto_region 5 with fail
    generalize w3.heap.size = xb5 at G5 ⊢
    generalize w3.alloc (.cells #[.int .i64 Y.id.1, .int .i64 Y.id.2, .int .i64 Y.bal, .int .i64 Y.st, .int .i64 Y.k, .int .i64 Y.key, .int .i64 Y.v, .int .i64 Y.seq, .slice va5 vn5 vc5] 29) = w4 at G5 F A4 I5 ⊢
    obtain ⟨⟨y0, y1, y2, y3, y4, y5, y6, y7, y8⟩, _, yl⟩ := nine_all A4.out
    go_wp2_with fail
    refine (sa _ F.out).mono ?_
    rintro e w5 ⟨u6, rfl, O6, B⟩
    obtain ⟨va6, vn6, vc6, rfl⟩ : ∃ ua un uc, u6 = .slice ua un uc := by obtain ⟨a, c, e, _⟩ := O6; exact ⟨a, _, c, e⟩
    have BA := (Below.refl w5.heap.size w5).alloc (Nat.le_refl _) (.cells #[.int .i64 Y.id.1, .int .i64 Y.id.2, .int .i64 Y.bal, .int .i64 Y.st, .int .i64 Y.k, .int .i64 Y.key, .int .i64 Y.v, .int .i64 Y.seq, .slice va6 vn6 vc6] 29)
    have G6 := Lib.hid (heap_alloc_new w5 (.cells #[.int .i64 Y.id.1, .int .i64 Y.id.2, .int .i64 Y.bal, .int .i64 Y.st, .int .i64 Y.k, .int .i64 Y.key, .int .i64 Y.v, .int .i64 Y.seq, .slice va6 vn6 vc6] 29))
    have B2 := bstep B BA
    replace F := Lib.hid (bstep F.out B2)
    replace A4 := Lib.hid (bblk B2 (lt_of_heap A4.out) A4.out)
    replace G5 := Lib.hid (bblk B2 (lt_of_heap G5.out) G5.out)
    replace I5 := Lib.hid (I5.out.up B2 (Nat.le_refl _))
    have I6 := Lib.hid (O6.up BA (Nat.le_refl _))
    clear sa B BA B2 O6 y0 y1 y2 y3 y4 y5 y6 y7 y8 yl A
    go_upto_region 6 with fail
    generalize w5.heap.size = xb6 at G6 ⊢
    generalize w5.alloc (.cells #[.int .i64 Y.id.1, .int .i64 Y.id.2, .int .i64 Y.bal, .int .i64 Y.st, .int .i64 Y.k, .int .i64 Y.key, .int .i64 Y.v, .int .i64 Y.seq, .slice va6 vn6 vc6] 29) = w6 at G5 G6 F A4 I5 I6 ⊢
    have se := fun W (hb : Below w6.heap.size w6 W) => sameE_one Y (.slice va5 vn5 vc5) (.slice va6 vn6 vc6) W (I5.out.up hb (Nat.le_refl _)) (I6.out.up hb (Nat.le_refl _))
    unfold env at se
    obtain ⟨⟨p0, p1, p2, p3, p4, p5, p6, p7, p8⟩, _, pl⟩ := nine_all G5.out
    obtain ⟨⟨r0, r1, r2, r3, r4, r5, r6, r7, r8⟩, _, rl⟩ := nine_all G6.out
    go_wp2_with fail
    refine (se _ (Below.refl _ _)).mono ?_
    rintro e w7 ⟨rfl, B⟩
    have K7 := Lib.hid B
    clear B p0 p1 p2 p3 p4 p5 p6 p7 p8 pl r0 r1 r2 r3 r4 r5 r6 r7 r8 rl
    cases q
    · have G5b := bblk K7.out (lt_of_heap G5.out) G5.out
      have G6b := bblk K7.out (lt_of_heap G6.out) G6.out
      obtain ⟨⟨p0, p1, p2, p3, p4, p5, p6, p7, p8⟩, _, pl⟩ := nine_all G5b
      obtain ⟨⟨r0, r1, r2, r3, r4, r5, r6, r7, r8⟩, _, rl⟩ := nine_all G6b
      clear G5b G6b
      go_wp2_with fail
      refine (se _ K7.out).mono ?_
      rintro e w8 ⟨rfl, B⟩
      have D9 := Lib.hid (bstep D.out (bstep F.out (bstep K7.out B)))
      clear B
      go_wp2_with fail
      go_ret
      exact ⟨rfl, D9.out⟩
    · clear se
      have hP := ans_is (own := X) (A := E) (by rw [hR.out])
      rw [hR.out] at hP
      obtain ⟨hAw, hEn, hYe⟩ := hP
      have hY : Y = ansE X E := congrArg Prod.fst hYe
      have hW := ans_within (own := X) (A := E) (by rw [hR.out])
      rw [← hY] at hEn hW
      replace F := Lib.hid (bstep F.out K7.out)
      replace A4 := Lib.hid (bblk K7.out (lt_of_heap A4.out) A4.out)
      replace G5 := Lib.hid (bblk K7.out (lt_of_heap G5.out) G5.out)
      replace I5 := Lib.hid (I5.out.up K7.out (Nat.le_refl _))
      have I4 := Lib.hid (I2.out.up F.out (Nat.le_refl _))
      have E4 := Lib.hid (E2.out.up F.out (Nat.le_refl _))
      have EA4 := Lib.hid (EA2.out.up F.out (Nat.le_refl _))
      have T4 := Lib.hid (TabIn.up T2.out F.out (Nat.le_refl _))
      have D4 := Lib.hid (bstep D.out F.out)
      clear I2 E2 EA2 T2 D F G6 I6 K7 hYe
      replace hAw := Lib.hid hAw
      replace hEn := Lib.hid hEn
      replace hY := Lib.hid hY
      replace hW := Lib.hid hW
      have hno := ans_none (own := X) (A := E) (by rw [hR.out])
      have hmo : E.length + 1 < 5 → ansR X (E ++ [Y]) = (Y, true) := fun h5 => by
        have := ans_more (own := X) (A := E) (by rw [hR.out]) h5
        rw [hR.out] at this; exact this
      replace hno := Lib.hid hno
      replace hmo := Lib.hid hmo
      clear hAw hEn hY hW hR E4
      have i0 := iaj_any X (.slice ua un uc) (.slice (some ⟨w7.heap.size, 0, none⟩) 0 0) [] (w7.alloc (.cells #[] 29)) (TabIn.up T4.out ((Below.refl w7.heap.size w7).alloc (Nat.le_refl _) _) (Nat.le_refl _)) (I4.out.up ((Below.refl w7.heap.size w7).alloc (Nat.le_refl _) _) (Nat.le_refl _)) ⟨_, _, rfl, Nat.le_refl _, Nat.zero_le _, .inl rfl⟩
      unfold AjP at i0
      rw [hno.out] at i0
      dsimp only at i0
      unfold env at i0
      obtain ⟨⟨y0, y1, y2, y3, y4, y5, y6, y7, y8⟩, _, yl⟩ := nine_all A4.out
      go_wp2_with fail
      refine i0.mono ?_
      rintro e w8 ⟨u9, rfl, O9, B⟩
      obtain ⟨va9, vn9, vc9, rfl⟩ : ∃ ua un uc, u9 = .slice ua un uc := by obtain ⟨a, c, e, _⟩ := O9.read; exact ⟨a, _, c, e⟩
      have BA := (Below.refl w8.heap.size w8).alloc (Nat.le_refl _) (.cells #[.int .i64 X.id.1, .int .i64 X.id.2, .int .i64 X.bal, .int .i64 X.st, .int .i64 X.k, .int .i64 X.key, .int .i64 X.v, .int .i64 X.seq, .slice va9 vn9 vc9] 29)
      have G9 := Lib.hid (heap_alloc_new w8 (.cells #[.int .i64 X.id.1, .int .i64 X.id.2, .int .i64 X.bal, .int .i64 X.st, .int .i64 X.k, .int .i64 X.key, .int .i64 X.v, .int .i64 X.seq, .slice va9 vn9 vc9] 29))
      have B2 := ((Below.refl w7.heap.size w7).alloc (Nat.le_refl _) (.cells #[] 29)).trans ((bstep B BA).mono (by simp))
      have J9 := Lib.hid (O9.read.up BA (Nat.le_refl _))
      have D9 := Lib.hid (bstep D4.out B2)
      have A9 := Lib.hid (bblk B2 (lt_of_heap A4.out) A4.out)
      have G5b := Lib.hid (bblk B2 (lt_of_heap G5.out) G5.out)
      have I4b := Lib.hid (I4.out.up B2 (Nat.le_refl _))
      have I5b := Lib.hid (I5.out.up B2 (Nat.le_refl _))
      have EAb := Lib.hid (EA4.out.up B2 (Nat.le_refl _))
      have T9 := Lib.hid (TabIn.up T4.out B2 (Nat.le_refl _))
      clear B BA B2 O9 i0 hno y0 y1 y2 y3 y4 y5 y6 y7 y8 yl A4 G5 I4 I5 EA4 T4 D4
      go_upto_region 9 with fail
      generalize w8.heap.size = xb9 at G9 ⊢
      generalize w8.alloc (.cells #[.int .i64 X.id.1, .int .i64 X.id.2, .int .i64 X.bal, .int .i64 X.st, .int .i64 X.k, .int .i64 X.key, .int .i64 X.v, .int .i64 X.seq, .slice va9 vn9 vc9] 29) = w9 at G9 J9 D9 A9 G5b I4b I5b EAb T9 ⊢
      have so := fun W (hb : Below w9.heap.size w9 W) => sameE_one X (.slice va9 vn9 vc9) (.slice ua un uc) W (J9.out.up hb (Nat.le_refl _)) (I4b.out.up hb (Nat.le_refl _))
      unfold env at so
      by_cases h5 : (5 : Int) ≤ (l : Int) + 1
      · have h5' : ¬ (l : Int) + 1 < 5 := by omega
        obtain ⟨⟨y0, y1, y2, y3, y4, y5, y6, y7, y8⟩, _, yl⟩ := nine_all A9.out
        obtain ⟨⟨z0, z1, z2, z3, z4, z5, z6, z7, z8⟩, _, zl⟩ := nine_all G9.out
        go_wp2_with fail
        refine (so _ (Below.refl _ _)).mono ?_
        rintro e w10 ⟨rfl, B⟩
        have D10 := Lib.hid (bstep D9.out B)
        clear B
        go_wp2_with fail
        go_ret
        exact ⟨rfl, D10.out⟩
      · have hl3 : l + 1 < 5 := by omega
        have hmo2 := Lib.hid (hmo.out (by rw [hl.out]; exact hl3))
        clear hmo
        go_upto_region 11 with fail
        go_cut [11, 12] from 70 to 80 (fun s11 s12 wx => ∃ x a b c, s11 = .pointer (some ⟨x, 0, none⟩) ∧ s12 = .bool true ∧ Hid (wx.heap[x]? = some (.cells #[.int .i64 Y.id.1, .int .i64 Y.id.2, .int .i64 Y.bal, .int .i64 Y.st, .int .i64 Y.k, .int .i64 Y.key, .int .i64 Y.v, .int .i64 Y.seq, .slice a b c] 29 (0, 0))) ∧ Hid (Ids wx (.slice a b c) Y.deps) ∧ Hid (Below w9.heap.size w9 wx))
        case first =>
          clear so
          obtain ⟨j0, hj0, jz0, jz1, jz2⟩ := info_parts info_en
          have hl0 : E.length = l := hl.out
          have hl1 : ([] ++ elr E U 0 l).length = l := by rw [List.nil_append, elr_len]
          have hl2 : (([] ++ elr E U 0 l) ++ [((Y, .slice va5 vn5 vc5) : En × Value)]).length = l + 1 := by rw [List.length_append, hl1]; rfl
          have hv0 := Lib.hid (fun W (h : Below w9.drew.heap.size w9.drew W) => (Below.drew (Below.refl w9.heap.size w9)).trans h)
          have N := Lib.hid (NnS.start w9.drew Y (.slice va5 vn5 vc5))
          have hA := Lib.hid (show EnsAt w9.drew g 0 E U from EAb.out.up (Below.drew (Below.refl _ _)) (Nat.le_refl _))
          have I5 := Lib.hid (show Ids w9.drew (.slice va5 vn5 vc5) Y.deps from I5b.out.up (Below.drew (Below.refl _ _)) (Nat.le_refl _))
          have I4 := Lib.hid (show Ids w9.drew (.slice ua un uc) X.deps from I4b.out.up (Below.drew (Below.refl _ _)) (Nat.le_refl _))
          have TT := Lib.hid (TabIn.up T9.out (Below.drew (Below.refl w9.heap.size w9)) (Nat.le_refl _))
          have AA := nine_cells (pl_dhN A9.out)
          have GG := nine_cells (pl_dhN G5b.out)
          clear A9 G5b I4b I5b EAb T9 G9 J9 D9
          go_upto_region 11 with fail
          refine wp_region_held_drew (S := fun w' => w'.cell? ⟨ob, 0, none⟩ = some (.int .i64 X.id.1) ∧ w'.cell? ⟨ob, 1, none⟩ = some (.int .i64 X.id.2) ∧ w'.cell? ⟨ob, 2, none⟩ = some (.int .i64 X.bal) ∧ w'.cell? ⟨ob, 3, none⟩ = some (.int .i64 X.st) ∧ w'.cell? ⟨ob, 4, none⟩ = some (.int .i64 X.k) ∧ w'.cell? ⟨ob, 5, none⟩ = some (.int .i64 X.key) ∧ w'.cell? ⟨ob, 6, none⟩ = some (.int .i64 X.v) ∧ w'.cell? ⟨ob, 7, none⟩ = some (.int .i64 X.seq) ∧ w'.cell? ⟨ob, 8, none⟩ = some (.slice ua un uc) ∧ w'.cell? ⟨xb5, 0, none⟩ = some (.int .i64 Y.id.1) ∧ w'.cell? ⟨xb5, 1, none⟩ = some (.int .i64 Y.id.2) ∧ w'.cell? ⟨xb5, 2, none⟩ = some (.int .i64 Y.bal) ∧ w'.cell? ⟨xb5, 3, none⟩ = some (.int .i64 Y.st) ∧ w'.cell? ⟨xb5, 4, none⟩ = some (.int .i64 Y.k) ∧ w'.cell? ⟨xb5, 5, none⟩ = some (.int .i64 Y.key) ∧ w'.cell? ⟨xb5, 6, none⟩ = some (.int .i64 Y.v) ∧ w'.cell? ⟨xb5, 7, none⟩ = some (.int .i64 Y.seq) ∧ w'.cell? ⟨xb5, 8, none⟩ = some (.slice va5 vn5 vc5) ∧ Below w9.drew.heap.size w9.drew w') (by kernel_rfl) ⟨AA.1, AA.2.1, AA.2.2.1, AA.2.2.2.1, AA.2.2.2.2.1, AA.2.2.2.2.2.1, AA.2.2.2.2.2.2.1, AA.2.2.2.2.2.2.2.1, AA.2.2.2.2.2.2.2.2, GG.1, GG.2.1, GG.2.2.1, GG.2.2.2.1, GG.2.2.2.2.1, GG.2.2.2.2.2.1, GG.2.2.2.2.2.2.1, GG.2.2.2.2.2.2.2.1, GG.2.2.2.2.2.2.2.2, Below.refl _ _⟩ (fun hHeld => ?_)
          have mkS := Lib.hid (fun W (hb : Below w9.drew.heap.size w9.drew W) => (⟨cell_later hb AA.1, cell_later hb AA.2.1, cell_later hb AA.2.2.1, cell_later hb AA.2.2.2.1, cell_later hb AA.2.2.2.2.1, cell_later hb AA.2.2.2.2.2.1, cell_later hb AA.2.2.2.2.2.2.1, cell_later hb AA.2.2.2.2.2.2.2.1, cell_later hb AA.2.2.2.2.2.2.2.2, cell_later hb GG.1, cell_later hb GG.2.1, cell_later hb GG.2.2.1, cell_later hb GG.2.2.2.1, cell_later hb GG.2.2.2.2.1, cell_later hb GG.2.2.2.2.2.1, cell_later hb GG.2.2.2.2.2.2.1, cell_later hb GG.2.2.2.2.2.2.2.1, cell_later hb GG.2.2.2.2.2.2.2.2, hb⟩ : W.cell? ⟨ob, 0, none⟩ = some (.int .i64 X.id.1) ∧ W.cell? ⟨ob, 1, none⟩ = some (.int .i64 X.id.2) ∧ W.cell? ⟨ob, 2, none⟩ = some (.int .i64 X.bal) ∧ W.cell? ⟨ob, 3, none⟩ = some (.int .i64 X.st) ∧ W.cell? ⟨ob, 4, none⟩ = some (.int .i64 X.k) ∧ W.cell? ⟨ob, 5, none⟩ = some (.int .i64 X.key) ∧ W.cell? ⟨ob, 6, none⟩ = some (.int .i64 X.v) ∧ W.cell? ⟨ob, 7, none⟩ = some (.int .i64 X.seq) ∧ W.cell? ⟨ob, 8, none⟩ = some (.slice ua un uc) ∧ W.cell? ⟨xb5, 0, none⟩ = some (.int .i64 Y.id.1) ∧ W.cell? ⟨xb5, 1, none⟩ = some (.int .i64 Y.id.2) ∧ W.cell? ⟨xb5, 2, none⟩ = some (.int .i64 Y.bal) ∧ W.cell? ⟨xb5, 3, none⟩ = some (.int .i64 Y.st) ∧ W.cell? ⟨xb5, 4, none⟩ = some (.int .i64 Y.k) ∧ W.cell? ⟨xb5, 5, none⟩ = some (.int .i64 Y.key) ∧ W.cell? ⟨xb5, 6, none⟩ = some (.int .i64 Y.v) ∧ W.cell? ⟨xb5, 7, none⟩ = some (.int .i64 Y.seq) ∧ W.cell? ⟨xb5, 8, none⟩ = some (.slice va5 vn5 vc5) ∧ Below w9.drew.heap.size w9.drew W))
          clear AA GG
          generalize w9.drew = v0 at hv0 N hA I5 I4 TT hHeld mkS ⊢
          have one1 := Lib.hid (elr_one hA.out 0 l (by omega))
          have src1 := Lib.hid (fun W (hb : Below v0.heap.size v0 W) => (by simpa using elr_src (hA.out.up hb (Nat.le_refl _)) 0 l (by omega) : ∀ j u, (flatE (elr E U 0 l))[j]? = some u → W.cell? ((⟨g, 0, none⟩ : Addr).add j) = some u))
          have ia : ∀ v W, Below v0.heap.size v0 W → Ens W v (E ++ [Y]) → Calls Tryd.prog 9 #[.agg #[.int .i64 X.id.1, .int .i64 X.id.2, .int .i64 X.bal, .int .i64 X.st, .int .i64 X.k, .int .i64 X.key, .int .i64 X.v, .int .i64 X.seq, .slice ua un uc], v] W (fun e w' => ∃ u, e = .returned (.tuple #[.agg #[.int .i64 Y.id.1, .int .i64 Y.id.2, .int .i64 Y.bal, .int .i64 Y.st, .int .i64 Y.k, .int .i64 Y.key, .int .i64 Y.v, .int .i64 Y.seq, u], .bool true]) ∧ OwZ w' W.heap.size w'.heap.size u Y.deps ∧ Below W.heap.size W w') := fun v W hb H => by
            have h := iaj_any X (.slice ua un uc) v (E ++ [Y]) W (TabIn.up TT.out hb (Nat.le_refl _)) (I4.out.up hb (Nat.le_refl _)) H
            unfold AjP at h
            rw [hmo2.out] at h
            exact h
          refine wpAnyH_take (i := 0) (oi := ⟨some 71, _, _, _, _, _⟩) (v := ?_) rfl (by kernel_rfl) (by kernel_rfl) (by kernel_rfl) (fun _ _ _ h => h) (Or.inl ⟨by rfl, ?_⟩) (by assumption) ?_
          rotate_left 1
          · intro w hSw; (try dsimp only at hSw); go_simp; try (with_reducible rfl)
          try simp only [Act.put, List.setIfInBounds_toArray, List.set_cons_zero, List.set_cons_succ]
          refine wpAnyH_take (i := 2) (oi := ⟨some 73, _, _, _, _, _⟩) (v := ?_) rfl (by kernel_rfl) (by kernel_rfl) (by kernel_rfl) (fun _ _ _ h => h) (Or.inl ⟨by rfl, ?_⟩) (by assumption) ?_
          rotate_left 1
          · intro w hSw; (try dsimp only at hSw); go_simp; try (with_reducible rfl)
          try simp only [Act.put, List.setIfInBounds_toArray, List.set_cons_zero, List.set_cons_succ]
          refine wpAnyH_take (i := 4) (oi := ⟨some 75, _, _, _, _, _⟩) (v := ?_) rfl (by kernel_rfl) (by kernel_rfl) (by kernel_rfl) (fun _ _ _ h => h) (Or.inl ⟨by rfl, ?_⟩) (by assumption) ?_
          rotate_left 1
          · intro w hSw; (try dsimp only at hSw); go_simp; try (with_reducible rfl)
          try simp only [Act.put, List.setIfInBounds_toArray, List.set_cons_zero, List.set_cons_succ]
          refine wpAnyH_ready (rs := [1, 5, 11]) (by kernel_rfl) (by simp) ?_
          refine AllReadyH.cons (o := ⟨some 72, _, _, _, _, _⟩) rfl (fun K hK => ?_) ?_
          · go_simp
            replace N := Lib.hid N.out.list
            generalize v0.alloc (.cells #[] 29) = V1 at N ⊢
            refine hK.out _ _ (mkS.out _ N.out.kp) (fun hHeld2 => ?_)
            clear hK K hHeld
            have hHeld := hHeld2
            clear hHeld2
            try simp only [Act.put, List.setIfInBounds_toArray, List.set_cons_zero, List.set_cons_succ]
            refine wpAnyH_ready (rs := [3, 5, 11]) (by kernel_rfl) (by simp) ?_
            refine AllReadyH.cons (o := ⟨some 74, _, _, _, _, _⟩) rfl (fun K hK => ?_) ?_
            · rw [if_pos (by rfl)]
              refine wp_append_atJ _ _ 30 rfl v0.heap.size 29 j0 (.agg #[.int .i64 0, .int .i64 0, .int .i64 0, .int .i64 0, .int .i64 0, .int .i64 0, .int .i64 0, .int .i64 0, .slice none 0 0]) 9 88 Tryd.underlying30 hj0 jz0 jz1 jz2 rfl (by decide) _ 0 [] rfl (N.out.row _ _ rfl).1 ⟨g, 0, none⟩ l vc (flatE (elr E U 0 l)) rfl (by rw [flatE_len, elr_len]) (src1.out _ N.out.kp) one1.out (by unfold maxLen; omega) (by omega) N.out.kp.size ?_
              intro v5 V2 hown5 hgrow5 hnil5 hat5
              replace N := Lib.hid (NnS.app (L2 := elr E U 0 l) N.out (elr_len E U 0 l) hown5 hgrow5 hnil5 hat5)
              clear hown5 hgrow5 hnil5 hat5
              refine hK.out _ _ (mkS.out _ N.out.kp) (fun hHeld2 => ?_)
              clear hK K hHeld
              have hHeld := hHeld2
              clear hHeld2
              try simp only [Act.put, List.setIfInBounds_toArray, List.set_cons_zero, List.set_cons_succ]
              refine wpAnyH_ready (rs := [5, 11]) (by kernel_rfl) (by simp) ?_
              refine AllReadyH.cons (o := ⟨some 76, _, _, _, _, _⟩) rfl (fun K hK => ?_) ?_
              · go_simp
                replace N := Lib.hid N.out.copy
                generalize V2.alloc (.cells #[.int .i64 Y.id.1, .int .i64 Y.id.2, .int .i64 Y.bal, .int .i64 Y.st, .int .i64 Y.k, .int .i64 Y.key, .int .i64 Y.v, .int .i64 Y.seq, .slice va5 vn5 vc5] 29) = V3 at N ⊢
                refine hK.out _ _ (mkS.out _ N.out.kp) (fun hHeld2 => ?_)
                clear hK K hHeld
                have hHeld := hHeld2
                clear hHeld2
                try simp only [Act.put, List.setIfInBounds_toArray, List.set_cons_zero, List.set_cons_succ]
                refine wpAnyH_ready (rs := [6, 11]) (by kernel_rfl) (by simp) ?_
                refine AllReadyH.cons (o := ⟨some 77, _, _, _, _, _⟩) rfl (fun K hK => ?_) ?_
                · rw [if_pos (by rfl)]
                  refine wp_append_atJ _ _ 30 rfl v0.heap.size 29 j0 (.agg #[.int .i64 0, .int .i64 0, .int .i64 0, .int .i64 0, .int .i64 0, .int .i64 0, .int .i64 0, .int .i64 0, .slice none 0 0]) 9 88 Tryd.underlying30 hj0 jz0 jz1 jz2 rfl (by decide) v5 ([] ++ elr E U 0 l).length (flatE ([] ++ elr E U 0 l)) rfl (N.out.row _ _ rfl).1 ⟨_, 0, none⟩ 1 1 (flatE [(Y, .slice va5 vn5 vc5)]) rfl rfl (nn_src (N.out.five _ rfl).1) (nine_oneE _ _ _ _ _ _ _ _ _ _ _) (by rw [hl1]; unfold maxLen; omega) (by rw [hl1]; omega) N.out.kp.size ?_
                  intro v6 V4 hown5 hgrow5 hnil5 hat5
                  replace N := Lib.hid (NnS.app (L2 := [(Y, .slice va5 vn5 vc5)]) N.out rfl hown5 hgrow5 hnil5 hat5)
                  clear hown5 hgrow5 hnil5 hat5
                  refine hK.out _ _ (mkS.out _ N.out.kp) (fun hHeld2 => ?_)
                  clear hK K hHeld
                  have hHeld := hHeld2
                  clear hHeld2
                  try simp only [Act.put, List.setIfInBounds_toArray, List.set_cons_zero, List.set_cons_succ]
                  refine wpAnyH_ready (rs := [7, 11]) (by kernel_rfl) (by simp) ?_
                  refine AllReadyH.cons (o := ⟨some 78, _, _, _, _, _⟩) rfl (fun K hK => ?_) ?_
                  · obtain ⟨v6g, v6c, hv6⟩ := nn_slice (N.out.row _ _ rfl).1 (N.out.row _ _ rfl).2.1
                    rw [hl2] at hv6
                    subst hv6
                    go_simp
                    have jx := ia _ _ N.out.kp (nn_ens hA.out (I5.out) N.out (by omega) (by omega))
                    with_reducible refine jx.mono ?_
                    rintro e V5 ⟨u12, rfl, O12, hb⟩
                    obtain ⟨va12, vn12, vc12, rfl⟩ : ∃ ua un uc, u12 = .slice ua un uc := by obtain ⟨a, c, e, _⟩ := O12.read; exact ⟨a, _, c, e⟩
                    go_wp2_with fail
                    replace N := Lib.hid (N.out.low hb)
                    have J12 := Lib.hid O12
                    clear O12 jx hb
                    refine hK.out _ _ (mkS.out _ N.out.kp) (fun hHeld2 => ?_)
                    clear hK K hHeld
                    have hHeld := hHeld2
                    clear hHeld2
                    try simp only [Act.put, List.setIfInBounds_toArray, List.set_cons_zero, List.set_cons_succ]
                    refine wpAnyH_take (i := 8) (oi := ⟨some 70, _, _, _, _, _⟩) (v := ?_) rfl (by kernel_rfl) (by kernel_rfl) (by kernel_rfl) (fun _ _ _ h => h) (Or.inl ⟨by rfl, ?_⟩) (by assumption) ?_
                    rotate_left 1
                    · intro w hSw; (try dsimp only at hSw); go_simp; try (with_reducible rfl)
                    try simp only [Act.put, List.setIfInBounds_toArray, List.set_cons_zero, List.set_cons_succ]
                    refine wpAnyH_take (i := 9) (oi := ⟨some 79, _, _, _, _, _⟩) (v := ?_) rfl (by kernel_rfl) (by kernel_rfl) (by kernel_rfl) (fun _ _ _ h => h) (Or.inl ⟨by rfl, ?_⟩) (by assumption) ?_
                    rotate_left 1
                    · intro w hSw; (try dsimp only at hSw); go_simp; try (with_reducible rfl)
                    try simp only [Act.put, List.setIfInBounds_toArray, List.set_cons_zero, List.set_cons_succ]
                    refine wpAnyH_take (i := 10) (oi := ⟨some 80, _, _, _, _, _⟩) (v := ?_) rfl (by kernel_rfl) (by kernel_rfl) (by kernel_rfl) (fun _ _ _ h => h) (Or.inl ⟨by rfl, ?_⟩) (by assumption) ?_
                    rotate_left 1
                    · intro w hSw; (try dsimp only at hSw); go_simp; try (with_reducible rfl)
                    try simp only [Act.put, List.setIfInBounds_toArray, List.set_cons_zero, List.set_cons_succ]
                    refine wpAnyH_ready (rs := [11]) (by kernel_rfl) (by simp) ?_
                    refine AllReadyH.cons (o := ⟨some 11, _, _, _, _, _⟩) rfl (fun K hK => ?_) AllReadyH.nil
                    go_simp
                    replace N := Lib.hid N.out.box
                    have hx11 := Nat.le_refl V5.heap.size
                    replace J12 := Lib.hid (J12.out.up ((Below.refl _ _).alloc (Nat.le_refl _) (.cells #[.int .i64 0, .int .i64 0, .int .i64 0, .int .i64 0, .int .i64 0, .int .i64 0, .int .i64 0, .int .i64 0, .slice none 0 0] 29)))
                    generalize V5.alloc (.cells #[.int .i64 0, .int .i64 0, .int .i64 0, .int .i64 0, .int .i64 0, .int .i64 0, .int .i64 0, .int .i64 0, .slice none 0 0] 29) = V6 at N J12 ⊢
                    refine hK.out _ _ (mkS.out _ N.out.kp) (fun hHeld2 => ?_)
                    clear hK K hHeld
                    have hHeld := hHeld2
                    clear hHeld2
                    try simp only [Act.put, List.setIfInBounds_toArray, List.set_cons_zero, List.set_cons_succ]
                    refine wpAnyH_ready (rs := [12]) (by kernel_rfl) (by simp) ?_
                    refine AllReadyH.cons (o := ⟨none, _, _, _, _, _⟩) rfl (fun K hK => ?_) AllReadyH.nil
                    obtain ⟨⟨z0, z1, z2, z3, z4, z5, z6, z7, z8⟩, ⟨f0, f1, f2, f3, f4, f5, f6, f7, f8⟩, zl⟩ := nine_all (N.out.elev _ rfl).1
                    go_simp
                    have F12 := Lib.hid (put9_at (.int .i64 Y.id.1) (.int .i64 Y.id.2) (.int .i64 Y.bal) (.int .i64 Y.st) (.int .i64 Y.k) (.int .i64 Y.key) (.int .i64 Y.v) (.int .i64 Y.seq) (.slice va12 vn12 vc12) (N.out.elev _ rfl).1)
                    have J13 := Lib.hid (nn_put9 (.int .i64 Y.id.1) (.int .i64 Y.id.2) (.int .i64 Y.bal) (.int .i64 Y.st) (.int .i64 Y.k) (.int .i64 Y.key) (.int .i64 Y.v) (.int .i64 Y.seq) (.slice va12 vn12 vc12) J12.out (xb := V5.heap.size) (fun hh => absurd hh (by omega)))
                    replace J12 := J13
                    clear J13
                    have B12 := N.out.kp.trans (put9_below (.int .i64 Y.id.1) (.int .i64 Y.id.2) (.int .i64 Y.bal) (.int .i64 Y.st) (.int .i64 Y.k) (.int .i64 Y.key) (.int .i64 Y.v) (.int .i64 Y.seq) (.slice va12 vn12 vc12) (N.out.elev _ rfl).2)
                    have F13 := Lib.hid (hv0.out _ B12)
                    refine hK.out _ _ (mkS.out _ B12) (fun hHeld2 => ?_)
                    clear hK K hHeld B12
                    have hHeld := hHeld2
                    clear hHeld2
                    try simp only [Act.put, List.setIfInBounds_toArray, List.set_cons_zero, List.set_cons_succ]
                    refine wpAnyH_take (i := 13) (oi := ⟨some 12, _, _, _, _, _⟩) (v := ?_) rfl (by kernel_rfl) (by kernel_rfl) (by kernel_rfl) (fun _ _ _ h => h) (Or.inl ⟨by rfl, ?_⟩) (by assumption) ?_
                    rotate_left 1
                    · intro w hSw; (try dsimp only at hSw); go_simp; try (with_reducible rfl)
                    try simp only [Act.put, List.setIfInBounds_toArray, List.set_cons_zero, List.set_cons_succ]
                    refine wpAnyH_done (by kernel_rfl) ?_ _
                    try simp only [Act.put, List.setIfInBounds_toArray, List.set_cons_zero, List.set_cons_succ]
                    go_wp2_with fail
                    go_meet
                    exact ⟨V5.heap.size, va12, vn12, vc12, rfl, rfl, F12, J12, F13⟩
                  refine AllReadyH.cons (o := ⟨some 11, _, _, _, _, _⟩) rfl (fun K hK => ?_) AllReadyH.nil
                  go_simp
                  replace N := Lib.hid N.out.box
                  generalize V4.alloc (.cells #[.int .i64 0, .int .i64 0, .int .i64 0, .int .i64 0, .int .i64 0, .int .i64 0, .int .i64 0, .int .i64 0, .slice none 0 0] 29) = V8 at N ⊢
                  refine hK.out _ _ (mkS.out _ N.out.kp) (fun hHeld2 => ?_)
                  clear hK K hHeld
                  have hHeld := hHeld2
                  clear hHeld2
                  try simp only [Act.put, List.setIfInBounds_toArray, List.set_cons_zero, List.set_cons_succ]
                  refine wpAnyH_ready (rs := [7]) (by kernel_rfl) (by simp) ?_
                  refine AllReadyH.cons (o := ⟨some 78, _, _, _, _, _⟩) rfl (fun K hK => ?_) AllReadyH.nil
                  have hx11 := lt_of_heap (N.out.elev _ rfl).1
                  obtain ⟨v6g, v6c, hv6⟩ := nn_slice (N.out.row _ _ rfl).1 (N.out.row _ _ rfl).2.1
                  rw [hl2] at hv6
                  subst hv6
                  go_simp
                  have jx := ia _ _ N.out.kp (nn_ens hA.out (I5.out) N.out (by omega) (by omega))
                  with_reducible refine jx.mono ?_
                  rintro e V9 ⟨u12, rfl, O12, hb⟩
                  obtain ⟨va12, vn12, vc12, rfl⟩ : ∃ ua un uc, u12 = .slice ua un uc := by obtain ⟨a, c, e, _⟩ := O12.read; exact ⟨a, _, c, e⟩
                  go_wp2_with fail
                  replace N := Lib.hid (N.out.low hb)
                  have J12 := Lib.hid O12
                  clear O12 jx hb
                  refine hK.out _ _ (mkS.out _ N.out.kp) (fun hHeld2 => ?_)
                  clear hK K hHeld
                  have hHeld := hHeld2
                  clear hHeld2
                  try simp only [Act.put, List.setIfInBounds_toArray, List.set_cons_zero, List.set_cons_succ]
                  refine wpAnyH_take (i := 8) (oi := ⟨some 70, _, _, _, _, _⟩) (v := ?_) rfl (by kernel_rfl) (by kernel_rfl) (by kernel_rfl) (fun _ _ _ h => h) (Or.inl ⟨by rfl, ?_⟩) (by assumption) ?_
                  rotate_left 1
                  · intro w hSw; (try dsimp only at hSw); go_simp; try (with_reducible rfl)
                  try simp only [Act.put, List.setIfInBounds_toArray, List.set_cons_zero, List.set_cons_succ]
                  refine wpAnyH_take (i := 9) (oi := ⟨some 79, _, _, _, _, _⟩) (v := ?_) rfl (by kernel_rfl) (by kernel_rfl) (by kernel_rfl) (fun _ _ _ h => h) (Or.inl ⟨by rfl, ?_⟩) (by assumption) ?_
                  rotate_left 1
                  · intro w hSw; (try dsimp only at hSw); go_simp; try (with_reducible rfl)
                  try simp only [Act.put, List.setIfInBounds_toArray, List.set_cons_zero, List.set_cons_succ]
                  refine wpAnyH_take (i := 10) (oi := ⟨some 80, _, _, _, _, _⟩) (v := ?_) rfl (by kernel_rfl) (by kernel_rfl) (by kernel_rfl) (fun _ _ _ h => h) (Or.inl ⟨by rfl, ?_⟩) (by assumption) ?_
                  rotate_left 1
                  · intro w hSw; (try dsimp only at hSw); go_simp; try (with_reducible rfl)
                  try simp only [Act.put, List.setIfInBounds_toArray, List.set_cons_zero, List.set_cons_succ]
                  refine wpAnyH_ready (rs := [12]) (by kernel_rfl) (by simp) ?_
                  refine AllReadyH.cons (o := ⟨none, _, _, _, _, _⟩) rfl (fun K hK => ?_) AllReadyH.nil
                  obtain ⟨⟨z0, z1, z2, z3, z4, z5, z6, z7, z8⟩, ⟨f0, f1, f2, f3, f4, f5, f6, f7, f8⟩, zl⟩ := nine_all (N.out.elev _ rfl).1
                  go_simp
                  have F12 := Lib.hid (put9_at (.int .i64 Y.id.1) (.int .i64 Y.id.2) (.int .i64 Y.bal) (.int .i64 Y.st) (.int .i64 Y.k) (.int .i64 Y.key) (.int .i64 Y.v) (.int .i64 Y.seq) (.slice va12 vn12 vc12) (N.out.elev _ rfl).1)
                  have J13 := Lib.hid (nn_put9 (.int .i64 Y.id.1) (.int .i64 Y.id.2) (.int .i64 Y.bal) (.int .i64 Y.st) (.int .i64 Y.k) (.int .i64 Y.key) (.int .i64 Y.v) (.int .i64 Y.seq) (.slice va12 vn12 vc12) J12.out (xb := V4.heap.size) (fun hh => absurd hh (by omega)))
                  replace J12 := J13
                  clear J13
                  have B12 := N.out.kp.trans (put9_below (.int .i64 Y.id.1) (.int .i64 Y.id.2) (.int .i64 Y.bal) (.int .i64 Y.st) (.int .i64 Y.k) (.int .i64 Y.key) (.int .i64 Y.v) (.int .i64 Y.seq) (.slice va12 vn12 vc12) (N.out.elev _ rfl).2)
                  have F13 := Lib.hid (hv0.out _ B12)
                  refine hK.out _ _ (mkS.out _ B12) (fun hHeld2 => ?_)
                  clear hK K hHeld B12
                  have hHeld := hHeld2
                  clear hHeld2
                  try simp only [Act.put, List.setIfInBounds_toArray, List.set_cons_zero, List.set_cons_succ]
                  refine wpAnyH_take (i := 13) (oi := ⟨some 12, _, _, _, _, _⟩) (v := ?_) rfl (by kernel_rfl) (by kernel_rfl) (by kernel_rfl) (fun _ _ _ h => h) (Or.inl ⟨by rfl, ?_⟩) (by assumption) ?_
                  rotate_left 1
                  · intro w hSw; (try dsimp only at hSw); go_simp; try (with_reducible rfl)
                  try simp only [Act.put, List.setIfInBounds_toArray, List.set_cons_zero, List.set_cons_succ]
                  refine wpAnyH_done (by kernel_rfl) ?_ _
                  try simp only [Act.put, List.setIfInBounds_toArray, List.set_cons_zero, List.set_cons_succ]
                  go_wp2_with fail
                  go_meet
                  exact ⟨V4.heap.size, va12, vn12, vc12, rfl, rfl, F12, J12, F13⟩
                refine AllReadyH.cons (o := ⟨some 11, _, _, _, _, _⟩) rfl (fun K hK => ?_) AllReadyH.nil
                go_simp
                replace N := Lib.hid N.out.box
                generalize V3.alloc (.cells #[.int .i64 0, .int .i64 0, .int .i64 0, .int .i64 0, .int .i64 0, .int .i64 0, .int .i64 0, .int .i64 0, .slice none 0 0] 29) = V11 at N ⊢
                refine hK.out _ _ (mkS.out _ N.out.kp) (fun hHeld2 => ?_)
                clear hK K hHeld
                have hHeld := hHeld2
                clear hHeld2
                try simp only [Act.put, List.setIfInBounds_toArray, List.set_cons_zero, List.set_cons_succ]
                refine wpAnyH_ready (rs := [6]) (by kernel_rfl) (by simp) ?_
                refine AllReadyH.cons (o := ⟨some 77, _, _, _, _, _⟩) rfl (fun K hK => ?_) AllReadyH.nil
                rw [if_pos (by rfl)]
                refine wp_append_atJ _ _ 30 rfl v0.heap.size 29 j0 (.agg #[.int .i64 0, .int .i64 0, .int .i64 0, .int .i64 0, .int .i64 0, .int .i64 0, .int .i64 0, .int .i64 0, .slice none 0 0]) 9 88 Tryd.underlying30 hj0 jz0 jz1 jz2 rfl (by decide) v5 ([] ++ elr E U 0 l).length (flatE ([] ++ elr E U 0 l)) rfl (N.out.row _ _ rfl).1 ⟨_, 0, none⟩ 1 1 (flatE [(Y, .slice va5 vn5 vc5)]) rfl rfl (nn_src (N.out.five _ rfl).1) (nine_oneE _ _ _ _ _ _ _ _ _ _ _) (by rw [hl1]; unfold maxLen; omega) (by rw [hl1]; omega) N.out.kp.size ?_
                intro v6 V12 hown5 hgrow5 hnil5 hat5
                replace N := Lib.hid (NnS.app (L2 := [(Y, .slice va5 vn5 vc5)]) N.out rfl hown5 hgrow5 hnil5 hat5)
                clear hown5 hgrow5 hnil5 hat5
                refine hK.out _ _ (mkS.out _ N.out.kp) (fun hHeld2 => ?_)
                clear hK K hHeld
                have hHeld := hHeld2
                clear hHeld2
                try simp only [Act.put, List.setIfInBounds_toArray, List.set_cons_zero, List.set_cons_succ]
                refine wpAnyH_ready (rs := [7]) (by kernel_rfl) (by simp) ?_
                refine AllReadyH.cons (o := ⟨some 78, _, _, _, _, _⟩) rfl (fun K hK => ?_) AllReadyH.nil
                have hx11 := lt_of_heap (N.out.elev _ rfl).1
                obtain ⟨v6g, v6c, hv6⟩ := nn_slice (N.out.row _ _ rfl).1 (N.out.row _ _ rfl).2.1
                rw [hl2] at hv6
                subst hv6
                go_simp
                have jx := ia _ _ N.out.kp (nn_ens hA.out (I5.out) N.out (by omega) (by omega))
                with_reducible refine jx.mono ?_
                rintro e V13 ⟨u12, rfl, O12, hb⟩
                obtain ⟨va12, vn12, vc12, rfl⟩ : ∃ ua un uc, u12 = .slice ua un uc := by obtain ⟨a, c, e, _⟩ := O12.read; exact ⟨a, _, c, e⟩
                go_wp2_with fail
                replace N := Lib.hid (N.out.low hb)
                have J12 := Lib.hid O12
                clear O12 jx hb
                refine hK.out _ _ (mkS.out _ N.out.kp) (fun hHeld2 => ?_)
                clear hK K hHeld
                have hHeld := hHeld2
                clear hHeld2
                try simp only [Act.put, List.setIfInBounds_toArray, List.set_cons_zero, List.set_cons_succ]
                refine wpAnyH_take (i := 8) (oi := ⟨some 70, _, _, _, _, _⟩) (v := ?_) rfl (by kernel_rfl) (by kernel_rfl) (by kernel_rfl) (fun _ _ _ h => h) (Or.inl ⟨by rfl, ?_⟩) (by assumption) ?_
                rotate_left 1
                · intro w hSw; (try dsimp only at hSw); go_simp; try (with_reducible rfl)
                try simp only [Act.put, List.setIfInBounds_toArray, List.set_cons_zero, List.set_cons_succ]
                refine wpAnyH_take (i := 9) (oi := ⟨some 79, _, _, _, _, _⟩) (v := ?_) rfl (by kernel_rfl) (by kernel_rfl) (by kernel_rfl) (fun _ _ _ h => h) (Or.inl ⟨by rfl, ?_⟩) (by assumption) ?_
                rotate_left 1
                · intro w hSw; (try dsimp only at hSw); go_simp; try (with_reducible rfl)
                try simp only [Act.put, List.setIfInBounds_toArray, List.set_cons_zero, List.set_cons_succ]
                refine wpAnyH_take (i := 10) (oi := ⟨some 80, _, _, _, _, _⟩) (v := ?_) rfl (by kernel_rfl) (by kernel_rfl) (by kernel_rfl) (fun _ _ _ h => h) (Or.inl ⟨by rfl, ?_⟩) (by assumption) ?_
                rotate_left 1
                · intro w hSw; (try dsimp only at hSw); go_simp; try (with_reducible rfl)
                try simp only [Act.put, List.setIfInBounds_toArray, List.set_cons_zero, List.set_cons_succ]
                refine wpAnyH_ready (rs := [12]) (by kernel_rfl) (by simp) ?_
                refine AllReadyH.cons (o := ⟨none, _, _, _, _, _⟩) rfl (fun K hK => ?_) AllReadyH.nil
                obtain ⟨⟨z0, z1, z2, z3, z4, z5, z6, z7, z8⟩, ⟨f0, f1, f2, f3, f4, f5, f6, f7, f8⟩, zl⟩ := nine_all (N.out.elev _ rfl).1
                go_simp
                have F12 := Lib.hid (put9_at (.int .i64 Y.id.1) (.int .i64 Y.id.2) (.int .i64 Y.bal) (.int .i64 Y.st) (.int .i64 Y.k) (.int .i64 Y.key) (.int .i64 Y.v) (.int .i64 Y.seq) (.slice va12 vn12 vc12) (N.out.elev _ rfl).1)
                have J13 := Lib.hid (nn_put9 (.int .i64 Y.id.1) (.int .i64 Y.id.2) (.int .i64 Y.bal) (.int .i64 Y.st) (.int .i64 Y.k) (.int .i64 Y.key) (.int .i64 Y.v) (.int .i64 Y.seq) (.slice va12 vn12 vc12) J12.out (xb := V3.heap.size) (fun hh => absurd hh (by omega)))
                replace J12 := J13
                clear J13
                have B12 := N.out.kp.trans (put9_below (.int .i64 Y.id.1) (.int .i64 Y.id.2) (.int .i64 Y.bal) (.int .i64 Y.st) (.int .i64 Y.k) (.int .i64 Y.key) (.int .i64 Y.v) (.int .i64 Y.seq) (.slice va12 vn12 vc12) (N.out.elev _ rfl).2)
                have F13 := Lib.hid (hv0.out _ B12)
                refine hK.out _ _ (mkS.out _ B12) (fun hHeld2 => ?_)
                clear hK K hHeld B12
                have hHeld := hHeld2
                clear hHeld2
                try simp only [Act.put, List.setIfInBounds_toArray, List.set_cons_zero, List.set_cons_succ]
                refine wpAnyH_take (i := 13) (oi := ⟨some 12, _, _, _, _, _⟩) (v := ?_) rfl (by kernel_rfl) (by kernel_rfl) (by kernel_rfl) (fun _ _ _ h => h) (Or.inl ⟨by rfl, ?_⟩) (by assumption) ?_
                rotate_left 1
                · intro w hSw; (try dsimp only at hSw); go_simp; try (with_reducible rfl)
                try simp only [Act.put, List.setIfInBounds_toArray, List.set_cons_zero, List.set_cons_succ]
                refine wpAnyH_done (by kernel_rfl) ?_ _
                try simp only [Act.put, List.setIfInBounds_toArray, List.set_cons_zero, List.set_cons_succ]
                go_wp2_with fail
                go_meet
                exact ⟨V3.heap.size, va12, vn12, vc12, rfl, rfl, F12, J12, F13⟩
              refine AllReadyH.cons (o := ⟨some 11, _, _, _, _, _⟩) rfl (fun K hK => ?_) AllReadyH.nil
              go_simp
              replace N := Lib.hid N.out.box
              generalize V2.alloc (.cells #[.int .i64 0, .int .i64 0, .int .i64 0, .int .i64 0, .int .i64 0, .int .i64 0, .int .i64 0, .int .i64 0, .slice none 0 0] 29) = V15 at N ⊢
              refine hK.out _ _ (mkS.out _ N.out.kp) (fun hHeld2 => ?_)
              clear hK K hHeld
              have hHeld := hHeld2
              clear hHeld2
              try simp only [Act.put, List.setIfInBounds_toArray, List.set_cons_zero, List.set_cons_succ]
              refine wpAnyH_ready (rs := [5]) (by kernel_rfl) (by simp) ?_
              refine AllReadyH.cons (o := ⟨some 76, _, _, _, _, _⟩) rfl (fun K hK => ?_) AllReadyH.nil
              go_simp
              replace N := Lib.hid N.out.copy
              generalize V15.alloc (.cells #[.int .i64 Y.id.1, .int .i64 Y.id.2, .int .i64 Y.bal, .int .i64 Y.st, .int .i64 Y.k, .int .i64 Y.key, .int .i64 Y.v, .int .i64 Y.seq, .slice va5 vn5 vc5] 29) = V16 at N ⊢
              refine hK.out _ _ (mkS.out _ N.out.kp) (fun hHeld2 => ?_)
              clear hK K hHeld
              have hHeld := hHeld2
              clear hHeld2
              try simp only [Act.put, List.setIfInBounds_toArray, List.set_cons_zero, List.set_cons_succ]
              refine wpAnyH_ready (rs := [6]) (by kernel_rfl) (by simp) ?_
              refine AllReadyH.cons (o := ⟨some 77, _, _, _, _, _⟩) rfl (fun K hK => ?_) AllReadyH.nil
              rw [if_pos (by rfl)]
              refine wp_append_atJ _ _ 30 rfl v0.heap.size 29 j0 (.agg #[.int .i64 0, .int .i64 0, .int .i64 0, .int .i64 0, .int .i64 0, .int .i64 0, .int .i64 0, .int .i64 0, .slice none 0 0]) 9 88 Tryd.underlying30 hj0 jz0 jz1 jz2 rfl (by decide) v5 ([] ++ elr E U 0 l).length (flatE ([] ++ elr E U 0 l)) rfl (N.out.row _ _ rfl).1 ⟨_, 0, none⟩ 1 1 (flatE [(Y, .slice va5 vn5 vc5)]) rfl rfl (nn_src (N.out.five _ rfl).1) (nine_oneE _ _ _ _ _ _ _ _ _ _ _) (by rw [hl1]; unfold maxLen; omega) (by rw [hl1]; omega) N.out.kp.size ?_
              intro v6 V17 hown5 hgrow5 hnil5 hat5
              replace N := Lib.hid (NnS.app (L2 := [(Y, .slice va5 vn5 vc5)]) N.out rfl hown5 hgrow5 hnil5 hat5)
              clear hown5 hgrow5 hnil5 hat5
              refine hK.out _ _ (mkS.out _ N.out.kp) (fun hHeld2 => ?_)
              clear hK K hHeld
              have hHeld := hHeld2
              clear hHeld2
              try simp only [Act.put, List.setIfInBounds_toArray, List.set_cons_zero, List.set_cons_succ]
              refine wpAnyH_ready (rs := [7]) (by kernel_rfl) (by simp) ?_
              refine AllReadyH.cons (o := ⟨some 78, _, _, _, _, _⟩) rfl (fun K hK => ?_) AllReadyH.nil
              have hx11 := lt_of_heap (N.out.elev _ rfl).1
              obtain ⟨v6g, v6c, hv6⟩ := nn_slice (N.out.row _ _ rfl).1 (N.out.row _ _ rfl).2.1
              rw [hl2] at hv6
              subst hv6
              go_simp
              have jx := ia _ _ N.out.kp (nn_ens hA.out (I5.out) N.out (by omega) (by omega))
              with_reducible refine jx.mono ?_
              rintro e V18 ⟨u12, rfl, O12, hb⟩
              obtain ⟨va12, vn12, vc12, rfl⟩ : ∃ ua un uc, u12 = .slice ua un uc := by obtain ⟨a, c, e, _⟩ := O12.read; exact ⟨a, _, c, e⟩
              go_wp2_with fail
              replace N := Lib.hid (N.out.low hb)
              have J12 := Lib.hid O12
              clear O12 jx hb
              refine hK.out _ _ (mkS.out _ N.out.kp) (fun hHeld2 => ?_)
              clear hK K hHeld
              have hHeld := hHeld2
              clear hHeld2
              try simp only [Act.put, List.setIfInBounds_toArray, List.set_cons_zero, List.set_cons_succ]
              refine wpAnyH_take (i := 8) (oi := ⟨some 70, _, _, _, _, _⟩) (v := ?_) rfl (by kernel_rfl) (by kernel_rfl) (by kernel_rfl) (fun _ _ _ h => h) (Or.inl ⟨by rfl, ?_⟩) (by assumption) ?_
              rotate_left 1
              · intro w hSw; (try dsimp only at hSw); go_simp; try (with_reducible rfl)
              try simp only [Act.put, List.setIfInBounds_toArray, List.set_cons_zero, List.set_cons_succ]
              refine wpAnyH_take (i := 9) (oi := ⟨some 79, _, _, _, _, _⟩) (v := ?_) rfl (by kernel_rfl) (by kernel_rfl) (by kernel_rfl) (fun _ _ _ h => h) (Or.inl ⟨by rfl, ?_⟩) (by assumption) ?_
              rotate_left 1
              · intro w hSw; (try dsimp only at hSw); go_simp; try (with_reducible rfl)
              try simp only [Act.put, List.setIfInBounds_toArray, List.set_cons_zero, List.set_cons_succ]
              refine wpAnyH_take (i := 10) (oi := ⟨some 80, _, _, _, _, _⟩) (v := ?_) rfl (by kernel_rfl) (by kernel_rfl) (by kernel_rfl) (fun _ _ _ h => h) (Or.inl ⟨by rfl, ?_⟩) (by assumption) ?_
              rotate_left 1
              · intro w hSw; (try dsimp only at hSw); go_simp; try (with_reducible rfl)
              try simp only [Act.put, List.setIfInBounds_toArray, List.set_cons_zero, List.set_cons_succ]
              refine wpAnyH_ready (rs := [12]) (by kernel_rfl) (by simp) ?_
              refine AllReadyH.cons (o := ⟨none, _, _, _, _, _⟩) rfl (fun K hK => ?_) AllReadyH.nil
              obtain ⟨⟨z0, z1, z2, z3, z4, z5, z6, z7, z8⟩, ⟨f0, f1, f2, f3, f4, f5, f6, f7, f8⟩, zl⟩ := nine_all (N.out.elev _ rfl).1
              go_simp
              have F12 := Lib.hid (put9_at (.int .i64 Y.id.1) (.int .i64 Y.id.2) (.int .i64 Y.bal) (.int .i64 Y.st) (.int .i64 Y.k) (.int .i64 Y.key) (.int .i64 Y.v) (.int .i64 Y.seq) (.slice va12 vn12 vc12) (N.out.elev _ rfl).1)
              have J13 := Lib.hid (nn_put9 (.int .i64 Y.id.1) (.int .i64 Y.id.2) (.int .i64 Y.bal) (.int .i64 Y.st) (.int .i64 Y.k) (.int .i64 Y.key) (.int .i64 Y.v) (.int .i64 Y.seq) (.slice va12 vn12 vc12) J12.out (xb := V2.heap.size) (fun hh => absurd hh (by omega)))
              replace J12 := J13
              clear J13
              have B12 := N.out.kp.trans (put9_below (.int .i64 Y.id.1) (.int .i64 Y.id.2) (.int .i64 Y.bal) (.int .i64 Y.st) (.int .i64 Y.k) (.int .i64 Y.key) (.int .i64 Y.v) (.int .i64 Y.seq) (.slice va12 vn12 vc12) (N.out.elev _ rfl).2)
              have F13 := Lib.hid (hv0.out _ B12)
              refine hK.out _ _ (mkS.out _ B12) (fun hHeld2 => ?_)
              clear hK K hHeld B12
              have hHeld := hHeld2
              clear hHeld2
              try simp only [Act.put, List.setIfInBounds_toArray, List.set_cons_zero, List.set_cons_succ]
              refine wpAnyH_take (i := 13) (oi := ⟨some 12, _, _, _, _, _⟩) (v := ?_) rfl (by kernel_rfl) (by kernel_rfl) (by kernel_rfl) (fun _ _ _ h => h) (Or.inl ⟨by rfl, ?_⟩) (by assumption) ?_
              rotate_left 1
              · intro w hSw; (try dsimp only at hSw); go_simp; try (with_reducible rfl)
              try simp only [Act.put, List.setIfInBounds_toArray, List.set_cons_zero, List.set_cons_succ]
              refine wpAnyH_done (by kernel_rfl) ?_ _
              try simp only [Act.put, List.setIfInBounds_toArray, List.set_cons_zero, List.set_cons_succ]
              go_wp2_with fail
              go_meet
              exact ⟨V2.heap.size, va12, vn12, vc12, rfl, rfl, F12, J12, F13⟩
            refine AllReadyH.cons (o := ⟨some 76, _, _, _, _, _⟩) rfl (fun K hK => ?_) ?_
            · go_simp
              replace N := Lib.hid N.out.copy
              generalize V1.alloc (.cells #[.int .i64 Y.id.1, .int .i64 Y.id.2, .int .i64 Y.bal, .int .i64 Y.st, .int .i64 Y.k, .int .i64 Y.key, .int .i64 Y.v, .int .i64 Y.seq, .slice va5 vn5 vc5] 29) = V20 at N ⊢
              refine hK.out _ _ (mkS.out _ N.out.kp) (fun hHeld2 => ?_)
              clear hK K hHeld
              have hHeld := hHeld2
              clear hHeld2
              try simp only [Act.put, List.setIfInBounds_toArray, List.set_cons_zero, List.set_cons_succ]
              refine wpAnyH_ready (rs := [3, 11]) (by kernel_rfl) (by simp) ?_
              refine AllReadyH.cons (o := ⟨some 74, _, _, _, _, _⟩) rfl (fun K hK => ?_) ?_
              · rw [if_pos (by rfl)]
                refine wp_append_atJ _ _ 30 rfl v0.heap.size 29 j0 (.agg #[.int .i64 0, .int .i64 0, .int .i64 0, .int .i64 0, .int .i64 0, .int .i64 0, .int .i64 0, .int .i64 0, .slice none 0 0]) 9 88 Tryd.underlying30 hj0 jz0 jz1 jz2 rfl (by decide) _ 0 [] rfl (N.out.row _ _ rfl).1 ⟨g, 0, none⟩ l vc (flatE (elr E U 0 l)) rfl (by rw [flatE_len, elr_len]) (src1.out _ N.out.kp) one1.out (by unfold maxLen; omega) (by omega) N.out.kp.size ?_
                intro v5 V21 hown5 hgrow5 hnil5 hat5
                replace N := Lib.hid (NnS.app (L2 := elr E U 0 l) N.out (elr_len E U 0 l) hown5 hgrow5 hnil5 hat5)
                clear hown5 hgrow5 hnil5 hat5
                refine hK.out _ _ (mkS.out _ N.out.kp) (fun hHeld2 => ?_)
                clear hK K hHeld
                have hHeld := hHeld2
                clear hHeld2
                try simp only [Act.put, List.setIfInBounds_toArray, List.set_cons_zero, List.set_cons_succ]
                refine wpAnyH_ready (rs := [6, 11]) (by kernel_rfl) (by simp) ?_
                refine AllReadyH.cons (o := ⟨some 77, _, _, _, _, _⟩) rfl (fun K hK => ?_) ?_
                · rw [if_pos (by rfl)]
                  refine wp_append_atJ _ _ 30 rfl v0.heap.size 29 j0 (.agg #[.int .i64 0, .int .i64 0, .int .i64 0, .int .i64 0, .int .i64 0, .int .i64 0, .int .i64 0, .int .i64 0, .slice none 0 0]) 9 88 Tryd.underlying30 hj0 jz0 jz1 jz2 rfl (by decide) v5 ([] ++ elr E U 0 l).length (flatE ([] ++ elr E U 0 l)) rfl (N.out.row _ _ rfl).1 ⟨_, 0, none⟩ 1 1 (flatE [(Y, .slice va5 vn5 vc5)]) rfl rfl (nn_src (N.out.five _ rfl).1) (nine_oneE _ _ _ _ _ _ _ _ _ _ _) (by rw [hl1]; unfold maxLen; omega) (by rw [hl1]; omega) N.out.kp.size ?_
                  intro v6 V22 hown5 hgrow5 hnil5 hat5
                  replace N := Lib.hid (NnS.app (L2 := [(Y, .slice va5 vn5 vc5)]) N.out rfl hown5 hgrow5 hnil5 hat5)
                  clear hown5 hgrow5 hnil5 hat5
                  refine hK.out _ _ (mkS.out _ N.out.kp) (fun hHeld2 => ?_)
                  clear hK K hHeld
                  have hHeld := hHeld2
                  clear hHeld2
                  try simp only [Act.put, List.setIfInBounds_toArray, List.set_cons_zero, List.set_cons_succ]
                  refine wpAnyH_ready (rs := [7, 11]) (by kernel_rfl) (by simp) ?_
                  refine AllReadyH.cons (o := ⟨some 78, _, _, _, _, _⟩) rfl (fun K hK => ?_) ?_
                  · obtain ⟨v6g, v6c, hv6⟩ := nn_slice (N.out.row _ _ rfl).1 (N.out.row _ _ rfl).2.1
                    rw [hl2] at hv6
                    subst hv6
                    go_simp
                    have jx := ia _ _ N.out.kp (nn_ens hA.out (I5.out) N.out (by omega) (by omega))
                    with_reducible refine jx.mono ?_
                    rintro e V23 ⟨u12, rfl, O12, hb⟩
                    obtain ⟨va12, vn12, vc12, rfl⟩ : ∃ ua un uc, u12 = .slice ua un uc := by obtain ⟨a, c, e, _⟩ := O12.read; exact ⟨a, _, c, e⟩
                    go_wp2_with fail
                    replace N := Lib.hid (N.out.low hb)
                    have J12 := Lib.hid O12
                    clear O12 jx hb
                    refine hK.out _ _ (mkS.out _ N.out.kp) (fun hHeld2 => ?_)
                    clear hK K hHeld
                    have hHeld := hHeld2
                    clear hHeld2
                    try simp only [Act.put, List.setIfInBounds_toArray, List.set_cons_zero, List.set_cons_succ]
                    refine wpAnyH_take (i := 8) (oi := ⟨some 70, _, _, _, _, _⟩) (v := ?_) rfl (by kernel_rfl) (by kernel_rfl) (by kernel_rfl) (fun _ _ _ h => h) (Or.inl ⟨by rfl, ?_⟩) (by assumption) ?_
                    rotate_left 1
                    · intro w hSw; (try dsimp only at hSw); go_simp; try (with_reducible rfl)
                    try simp only [Act.put, List.setIfInBounds_toArray, List.set_cons_zero, List.set_cons_succ]
                    refine wpAnyH_take (i := 9) (oi := ⟨some 79, _, _, _, _, _⟩) (v := ?_) rfl (by kernel_rfl) (by kernel_rfl) (by kernel_rfl) (fun _ _ _ h => h) (Or.inl ⟨by rfl, ?_⟩) (by assumption) ?_
                    rotate_left 1
                    · intro w hSw; (try dsimp only at hSw); go_simp; try (with_reducible rfl)
                    try simp only [Act.put, List.setIfInBounds_toArray, List.set_cons_zero, List.set_cons_succ]
                    refine wpAnyH_take (i := 10) (oi := ⟨some 80, _, _, _, _, _⟩) (v := ?_) rfl (by kernel_rfl) (by kernel_rfl) (by kernel_rfl) (fun _ _ _ h => h) (Or.inl ⟨by rfl, ?_⟩) (by assumption) ?_
                    rotate_left 1
                    · intro w hSw; (try dsimp only at hSw); go_simp; try (with_reducible rfl)
                    try simp only [Act.put, List.setIfInBounds_toArray, List.set_cons_zero, List.set_cons_succ]
                    refine wpAnyH_ready (rs := [11]) (by kernel_rfl) (by simp) ?_
                    refine AllReadyH.cons (o := ⟨some 11, _, _, _, _, _⟩) rfl (fun K hK => ?_) AllReadyH.nil
                    go_simp
                    replace N := Lib.hid N.out.box
                    have hx11 := Nat.le_refl V23.heap.size
                    replace J12 := Lib.hid (J12.out.up ((Below.refl _ _).alloc (Nat.le_refl _) (.cells #[.int .i64 0, .int .i64 0, .int .i64 0, .int .i64 0, .int .i64 0, .int .i64 0, .int .i64 0, .int .i64 0, .slice none 0 0] 29)))
                    generalize V23.alloc (.cells #[.int .i64 0, .int .i64 0, .int .i64 0, .int .i64 0, .int .i64 0, .int .i64 0, .int .i64 0, .int .i64 0, .slice none 0 0] 29) = V24 at N J12 ⊢
                    refine hK.out _ _ (mkS.out _ N.out.kp) (fun hHeld2 => ?_)
                    clear hK K hHeld
                    have hHeld := hHeld2
                    clear hHeld2
                    try simp only [Act.put, List.setIfInBounds_toArray, List.set_cons_zero, List.set_cons_succ]
                    refine wpAnyH_ready (rs := [12]) (by kernel_rfl) (by simp) ?_
                    refine AllReadyH.cons (o := ⟨none, _, _, _, _, _⟩) rfl (fun K hK => ?_) AllReadyH.nil
                    obtain ⟨⟨z0, z1, z2, z3, z4, z5, z6, z7, z8⟩, ⟨f0, f1, f2, f3, f4, f5, f6, f7, f8⟩, zl⟩ := nine_all (N.out.elev _ rfl).1
                    go_simp
                    have F12 := Lib.hid (put9_at (.int .i64 Y.id.1) (.int .i64 Y.id.2) (.int .i64 Y.bal) (.int .i64 Y.st) (.int .i64 Y.k) (.int .i64 Y.key) (.int .i64 Y.v) (.int .i64 Y.seq) (.slice va12 vn12 vc12) (N.out.elev _ rfl).1)
                    have J13 := Lib.hid (nn_put9 (.int .i64 Y.id.1) (.int .i64 Y.id.2) (.int .i64 Y.bal) (.int .i64 Y.st) (.int .i64 Y.k) (.int .i64 Y.key) (.int .i64 Y.v) (.int .i64 Y.seq) (.slice va12 vn12 vc12) J12.out (xb := V23.heap.size) (fun hh => absurd hh (by omega)))
                    replace J12 := J13
                    clear J13
                    have B12 := N.out.kp.trans (put9_below (.int .i64 Y.id.1) (.int .i64 Y.id.2) (.int .i64 Y.bal) (.int .i64 Y.st) (.int .i64 Y.k) (.int .i64 Y.key) (.int .i64 Y.v) (.int .i64 Y.seq) (.slice va12 vn12 vc12) (N.out.elev _ rfl).2)
                    have F13 := Lib.hid (hv0.out _ B12)
                    refine hK.out _ _ (mkS.out _ B12) (fun hHeld2 => ?_)
                    clear hK K hHeld B12
                    have hHeld := hHeld2
                    clear hHeld2
                    try simp only [Act.put, List.setIfInBounds_toArray, List.set_cons_zero, List.set_cons_succ]
                    refine wpAnyH_take (i := 13) (oi := ⟨some 12, _, _, _, _, _⟩) (v := ?_) rfl (by kernel_rfl) (by kernel_rfl) (by kernel_rfl) (fun _ _ _ h => h) (Or.inl ⟨by rfl, ?_⟩) (by assumption) ?_
                    rotate_left 1
                    · intro w hSw; (try dsimp only at hSw); go_simp; try (with_reducible rfl)
                    try simp only [Act.put, List.setIfInBounds_toArray, List.set_cons_zero, List.set_cons_succ]
                    refine wpAnyH_done (by kernel_rfl) ?_ _
                    try simp only [Act.put, List.setIfInBounds_toArray, List.set_cons_zero, List.set_cons_succ]
                    go_wp2_with fail
                    go_meet
                    exact ⟨V23.heap.size, va12, vn12, vc12, rfl, rfl, F12, J12, F13⟩
                  refine AllReadyH.cons (o := ⟨some 11, _, _, _, _, _⟩) rfl (fun K hK => ?_) AllReadyH.nil
                  go_simp
                  replace N := Lib.hid N.out.box
                  generalize V22.alloc (.cells #[.int .i64 0, .int .i64 0, .int .i64 0, .int .i64 0, .int .i64 0, .int .i64 0, .int .i64 0, .int .i64 0, .slice none 0 0] 29) = V26 at N ⊢
                  refine hK.out _ _ (mkS.out _ N.out.kp) (fun hHeld2 => ?_)
                  clear hK K hHeld
                  have hHeld := hHeld2
                  clear hHeld2
                  try simp only [Act.put, List.setIfInBounds_toArray, List.set_cons_zero, List.set_cons_succ]
                  refine wpAnyH_ready (rs := [7]) (by kernel_rfl) (by simp) ?_
                  refine AllReadyH.cons (o := ⟨some 78, _, _, _, _, _⟩) rfl (fun K hK => ?_) AllReadyH.nil
                  have hx11 := lt_of_heap (N.out.elev _ rfl).1
                  obtain ⟨v6g, v6c, hv6⟩ := nn_slice (N.out.row _ _ rfl).1 (N.out.row _ _ rfl).2.1
                  rw [hl2] at hv6
                  subst hv6
                  go_simp
                  have jx := ia _ _ N.out.kp (nn_ens hA.out (I5.out) N.out (by omega) (by omega))
                  with_reducible refine jx.mono ?_
                  rintro e V27 ⟨u12, rfl, O12, hb⟩
                  obtain ⟨va12, vn12, vc12, rfl⟩ : ∃ ua un uc, u12 = .slice ua un uc := by obtain ⟨a, c, e, _⟩ := O12.read; exact ⟨a, _, c, e⟩
                  go_wp2_with fail
                  replace N := Lib.hid (N.out.low hb)
                  have J12 := Lib.hid O12
                  clear O12 jx hb
                  refine hK.out _ _ (mkS.out _ N.out.kp) (fun hHeld2 => ?_)
                  clear hK K hHeld
                  have hHeld := hHeld2
                  clear hHeld2
                  try simp only [Act.put, List.setIfInBounds_toArray, List.set_cons_zero, List.set_cons_succ]
                  refine wpAnyH_take (i := 8) (oi := ⟨some 70, _, _, _, _, _⟩) (v := ?_) rfl (by kernel_rfl) (by kernel_rfl) (by kernel_rfl) (fun _ _ _ h => h) (Or.inl ⟨by rfl, ?_⟩) (by assumption) ?_
                  rotate_left 1
                  · intro w hSw; (try dsimp only at hSw); go_simp; try (with_reducible rfl)
                  try simp only [Act.put, List.setIfInBounds_toArray, List.set_cons_zero, List.set_cons_succ]
                  refine wpAnyH_take (i := 9) (oi := ⟨some 79, _, _, _, _, _⟩) (v := ?_) rfl (by kernel_rfl) (by kernel_rfl) (by kernel_rfl) (fun _ _ _ h => h) (Or.inl ⟨by rfl, ?_⟩) (by assumption) ?_
                  rotate_left 1
                  · intro w hSw; (try dsimp only at hSw); go_simp; try (with_reducible rfl)
                  try simp only [Act.put, List.setIfInBounds_toArray, List.set_cons_zero, List.set_cons_succ]
                  refine wpAnyH_take (i := 10) (oi := ⟨some 80, _, _, _, _, _⟩) (v := ?_) rfl (by kernel_rfl) (by kernel_rfl) (by kernel_rfl) (fun _ _ _ h => h) (Or.inl ⟨by rfl, ?_⟩) (by assumption) ?_
                  rotate_left 1
                  · intro w hSw; (try dsimp only at hSw); go_simp; try (with_reducible rfl)
                  try simp only [Act.put, List.setIfInBounds_toArray, List.set_cons_zero, List.set_cons_succ]
                  refine wpAnyH_ready (rs := [12]) (by kernel_rfl) (by simp) ?_
                  refine AllReadyH.cons (o := ⟨none, _, _, _, _, _⟩) rfl (fun K hK => ?_) AllReadyH.nil
                  obtain ⟨⟨z0, z1, z2, z3, z4, z5, z6, z7, z8⟩, ⟨f0, f1, f2, f3, f4, f5, f6, f7, f8⟩, zl⟩ := nine_all (N.out.elev _ rfl).1
                  go_simp
                  have F12 := Lib.hid (put9_at (.int .i64 Y.id.1) (.int .i64 Y.id.2) (.int .i64 Y.bal) (.int .i64 Y.st) (.int .i64 Y.k) (.int .i64 Y.key) (.int .i64 Y.v) (.int .i64 Y.seq) (.slice va12 vn12 vc12) (N.out.elev _ rfl).1)
                  have J13 := Lib.hid (nn_put9 (.int .i64 Y.id.1) (.int .i64 Y.id.2) (.int .i64 Y.bal) (.int .i64 Y.st) (.int .i64 Y.k) (.int .i64 Y.key) (.int .i64 Y.v) (.int .i64 Y.seq) (.slice va12 vn12 vc12) J12.out (xb := V22.heap.size) (fun hh => absurd hh (by omega)))
                  replace J12 := J13
                  clear J13
                  have B12 := N.out.kp.trans (put9_below (.int .i64 Y.id.1) (.int .i64 Y.id.2) (.int .i64 Y.bal) (.int .i64 Y.st) (.int .i64 Y.k) (.int .i64 Y.key) (.int .i64 Y.v) (.int .i64 Y.seq) (.slice va12 vn12 vc12) (N.out.elev _ rfl).2)
                  have F13 := Lib.hid (hv0.out _ B12)
                  refine hK.out _ _ (mkS.out _ B12) (fun hHeld2 => ?_)
                  clear hK K hHeld B12
                  have hHeld := hHeld2
                  clear hHeld2
                  try simp only [Act.put, List.setIfInBounds_toArray, List.set_cons_zero, List.set_cons_succ]
                  refine wpAnyH_take (i := 13) (oi := ⟨some 12, _, _, _, _, _⟩) (v := ?_) rfl (by kernel_rfl) (by kernel_rfl) (by kernel_rfl) (fun _ _ _ h => h) (Or.inl ⟨by rfl, ?_⟩) (by assumption) ?_
                  rotate_left 1
                  · intro w hSw; (try dsimp only at hSw); go_simp; try (with_reducible rfl)
                  try simp only [Act.put, List.setIfInBounds_toArray, List.set_cons_zero, List.set_cons_succ]
                  refine wpAnyH_done (by kernel_rfl) ?_ _
                  try simp only [Act.put, List.setIfInBounds_toArray, List.set_cons_zero, List.set_cons_succ]
                  go_wp2_with fail
                  go_meet
                  exact ⟨V22.heap.size, va12, vn12, vc12, rfl, rfl, F12, J12, F13⟩
                refine AllReadyH.cons (o := ⟨some 11, _, _, _, _, _⟩) rfl (fun K hK => ?_) AllReadyH.nil
                go_simp
                replace N := Lib.hid N.out.box
                generalize V21.alloc (.cells #[.int .i64 0, .int .i64 0, .int .i64 0, .int .i64 0, .int .i64 0, .int .i64 0, .int .i64 0, .int .i64 0, .slice none 0 0] 29) = V29 at N ⊢
                refine hK.out _ _ (mkS.out _ N.out.kp) (fun hHeld2 => ?_)
                clear hK K hHeld
                have hHeld := hHeld2
                clear hHeld2
                try simp only [Act.put, List.setIfInBounds_toArray, List.set_cons_zero, List.set_cons_succ]
                refine wpAnyH_ready (rs := [6]) (by kernel_rfl) (by simp) ?_
                refine AllReadyH.cons (o := ⟨some 77, _, _, _, _, _⟩) rfl (fun K hK => ?_) AllReadyH.nil
                rw [if_pos (by rfl)]
                refine wp_append_atJ _ _ 30 rfl v0.heap.size 29 j0 (.agg #[.int .i64 0, .int .i64 0, .int .i64 0, .int .i64 0, .int .i64 0, .int .i64 0, .int .i64 0, .int .i64 0, .slice none 0 0]) 9 88 Tryd.underlying30 hj0 jz0 jz1 jz2 rfl (by decide) v5 ([] ++ elr E U 0 l).length (flatE ([] ++ elr E U 0 l)) rfl (N.out.row _ _ rfl).1 ⟨_, 0, none⟩ 1 1 (flatE [(Y, .slice va5 vn5 vc5)]) rfl rfl (nn_src (N.out.five _ rfl).1) (nine_oneE _ _ _ _ _ _ _ _ _ _ _) (by rw [hl1]; unfold maxLen; omega) (by rw [hl1]; omega) N.out.kp.size ?_
                intro v6 V30 hown5 hgrow5 hnil5 hat5
                replace N := Lib.hid (NnS.app (L2 := [(Y, .slice va5 vn5 vc5)]) N.out rfl hown5 hgrow5 hnil5 hat5)
                clear hown5 hgrow5 hnil5 hat5
                refine hK.out _ _ (mkS.out _ N.out.kp) (fun hHeld2 => ?_)
                clear hK K hHeld
                have hHeld := hHeld2
                clear hHeld2
                try simp only [Act.put, List.setIfInBounds_toArray, List.set_cons_zero, List.set_cons_succ]
                refine wpAnyH_ready (rs := [7]) (by kernel_rfl) (by simp) ?_
                refine AllReadyH.cons (o := ⟨some 78, _, _, _, _, _⟩) rfl (fun K hK => ?_) AllReadyH.nil
                have hx11 := lt_of_heap (N.out.elev _ rfl).1
                obtain ⟨v6g, v6c, hv6⟩ := nn_slice (N.out.row _ _ rfl).1 (N.out.row _ _ rfl).2.1
                rw [hl2] at hv6
                subst hv6
                go_simp
                have jx := ia _ _ N.out.kp (nn_ens hA.out (I5.out) N.out (by omega) (by omega))
                with_reducible refine jx.mono ?_
                rintro e V31 ⟨u12, rfl, O12, hb⟩
                obtain ⟨va12, vn12, vc12, rfl⟩ : ∃ ua un uc, u12 = .slice ua un uc := by obtain ⟨a, c, e, _⟩ := O12.read; exact ⟨a, _, c, e⟩
                go_wp2_with fail
                replace N := Lib.hid (N.out.low hb)
                have J12 := Lib.hid O12
                clear O12 jx hb
                refine hK.out _ _ (mkS.out _ N.out.kp) (fun hHeld2 => ?_)
                clear hK K hHeld
                have hHeld := hHeld2
                clear hHeld2
                try simp only [Act.put, List.setIfInBounds_toArray, List.set_cons_zero, List.set_cons_succ]
                refine wpAnyH_take (i := 8) (oi := ⟨some 70, _, _, _, _, _⟩) (v := ?_) rfl (by kernel_rfl) (by kernel_rfl) (by kernel_rfl) (fun _ _ _ h => h) (Or.inl ⟨by rfl, ?_⟩) (by assumption) ?_
                rotate_left 1
                · intro w hSw; (try dsimp only at hSw); go_simp; try (with_reducible rfl)
                try simp only [Act.put, List.setIfInBounds_toArray, List.set_cons_zero, List.set_cons_succ]
                refine wpAnyH_take (i := 9) (oi := ⟨some 79, _, _, _, _, _⟩) (v := ?_) rfl (by kernel_rfl) (by kernel_rfl) (by kernel_rfl) (fun _ _ _ h => h) (Or.inl ⟨by rfl, ?_⟩) (by assumption) ?_
                rotate_left 1
                · intro w hSw; (try dsimp only at hSw); go_simp; try (with_reducible rfl)
                try simp only [Act.put, List.setIfInBounds_toArray, List.set_cons_zero, List.set_cons_succ]
                refine wpAnyH_take (i := 10) (oi := ⟨some 80, _, _, _, _, _⟩) (v := ?_) rfl (by kernel_rfl) (by kernel_rfl) (by kernel_rfl) (fun _ _ _ h => h) (Or.inl ⟨by rfl, ?_⟩) (by assumption) ?_
                rotate_left 1
                · intro w hSw; (try dsimp only at hSw); go_simp; try (with_reducible rfl)
                try simp only [Act.put, List.setIfInBounds_toArray, List.set_cons_zero, List.set_cons_succ]
                refine wpAnyH_ready (rs := [12]) (by kernel_rfl) (by simp) ?_
                refine AllReadyH.cons (o := ⟨none, _, _, _, _, _⟩) rfl (fun K hK => ?_) AllReadyH.nil
                obtain ⟨⟨z0, z1, z2, z3, z4, z5, z6, z7, z8⟩, ⟨f0, f1, f2, f3, f4, f5, f6, f7, f8⟩, zl⟩ := nine_all (N.out.elev _ rfl).1
                go_simp
                have F12 := Lib.hid (put9_at (.int .i64 Y.id.1) (.int .i64 Y.id.2) (.int .i64 Y.bal) (.int .i64 Y.st) (.int .i64 Y.k) (.int .i64 Y.key) (.int .i64 Y.v) (.int .i64 Y.seq) (.slice va12 vn12 vc12) (N.out.elev _ rfl).1)
                have J13 := Lib.hid (nn_put9 (.int .i64 Y.id.1) (.int .i64 Y.id.2) (.int .i64 Y.bal) (.int .i64 Y.st) (.int .i64 Y.k) (.int .i64 Y.key) (.int .i64 Y.v) (.int .i64 Y.seq) (.slice va12 vn12 vc12) J12.out (xb := V21.heap.size) (fun hh => absurd hh (by omega)))
                replace J12 := J13
                clear J13
                have B12 := N.out.kp.trans (put9_below (.int .i64 Y.id.1) (.int .i64 Y.id.2) (.int .i64 Y.bal) (.int .i64 Y.st) (.int .i64 Y.k) (.int .i64 Y.key) (.int .i64 Y.v) (.int .i64 Y.seq) (.slice va12 vn12 vc12) (N.out.elev _ rfl).2)
                have F13 := Lib.hid (hv0.out _ B12)
                refine hK.out _ _ (mkS.out _ B12) (fun hHeld2 => ?_)
                clear hK K hHeld B12
                have hHeld := hHeld2
                clear hHeld2
                try simp only [Act.put, List.setIfInBounds_toArray, List.set_cons_zero, List.set_cons_succ]
                refine wpAnyH_take (i := 13) (oi := ⟨some 12, _, _, _, _, _⟩) (v := ?_) rfl (by kernel_rfl) (by kernel_rfl) (by kernel_rfl) (fun _ _ _ h => h) (Or.inl ⟨by rfl, ?_⟩) (by assumption) ?_
                rotate_left 1
                · intro w hSw; (try dsimp only at hSw); go_simp; try (with_reducible rfl)
                try simp only [Act.put, List.setIfInBounds_toArray, List.set_cons_zero, List.set_cons_succ]
                refine wpAnyH_done (by kernel_rfl) ?_ _
                try simp only [Act.put, List.setIfInBounds_toArray, List.set_cons_zero, List.set_cons_succ]
                go_wp2_with fail
                go_meet
                exact ⟨V21.heap.size, va12, vn12, vc12, rfl, rfl, F12, J12, F13⟩
              refine AllReadyH.cons (o := ⟨some 11, _, _, _, _, _⟩) rfl (fun K hK => ?_) AllReadyH.nil
              go_simp
              replace N := Lib.hid N.out.box
              generalize V20.alloc (.cells #[.int .i64 0, .int .i64 0, .int .i64 0, .int .i64 0, .int .i64 0, .int .i64 0, .int .i64 0, .int .i64 0, .slice none 0 0] 29) = V33 at N ⊢
              refine hK.out _ _ (mkS.out _ N.out.kp) (fun hHeld2 => ?_)
              clear hK K hHeld
              have hHeld := hHeld2
              clear hHeld2
              try simp only [Act.put, List.setIfInBounds_toArray, List.set_cons_zero, List.set_cons_succ]
              refine wpAnyH_ready (rs := [3]) (by kernel_rfl) (by simp) ?_
              refine AllReadyH.cons (o := ⟨some 74, _, _, _, _, _⟩) rfl (fun K hK => ?_) AllReadyH.nil
              rw [if_pos (by rfl)]
              refine wp_append_atJ _ _ 30 rfl v0.heap.size 29 j0 (.agg #[.int .i64 0, .int .i64 0, .int .i64 0, .int .i64 0, .int .i64 0, .int .i64 0, .int .i64 0, .int .i64 0, .slice none 0 0]) 9 88 Tryd.underlying30 hj0 jz0 jz1 jz2 rfl (by decide) _ 0 [] rfl (N.out.row _ _ rfl).1 ⟨g, 0, none⟩ l vc (flatE (elr E U 0 l)) rfl (by rw [flatE_len, elr_len]) (src1.out _ N.out.kp) one1.out (by unfold maxLen; omega) (by omega) N.out.kp.size ?_
              intro v5 V34 hown5 hgrow5 hnil5 hat5
              replace N := Lib.hid (NnS.app (L2 := elr E U 0 l) N.out (elr_len E U 0 l) hown5 hgrow5 hnil5 hat5)
              clear hown5 hgrow5 hnil5 hat5
              refine hK.out _ _ (mkS.out _ N.out.kp) (fun hHeld2 => ?_)
              clear hK K hHeld
              have hHeld := hHeld2
              clear hHeld2
              try simp only [Act.put, List.setIfInBounds_toArray, List.set_cons_zero, List.set_cons_succ]
              refine wpAnyH_ready (rs := [6]) (by kernel_rfl) (by simp) ?_
              refine AllReadyH.cons (o := ⟨some 77, _, _, _, _, _⟩) rfl (fun K hK => ?_) AllReadyH.nil
              rw [if_pos (by rfl)]
              refine wp_append_atJ _ _ 30 rfl v0.heap.size 29 j0 (.agg #[.int .i64 0, .int .i64 0, .int .i64 0, .int .i64 0, .int .i64 0, .int .i64 0, .int .i64 0, .int .i64 0, .slice none 0 0]) 9 88 Tryd.underlying30 hj0 jz0 jz1 jz2 rfl (by decide) v5 ([] ++ elr E U 0 l).length (flatE ([] ++ elr E U 0 l)) rfl (N.out.row _ _ rfl).1 ⟨_, 0, none⟩ 1 1 (flatE [(Y, .slice va5 vn5 vc5)]) rfl rfl (nn_src (N.out.five _ rfl).1) (nine_oneE _ _ _ _ _ _ _ _ _ _ _) (by rw [hl1]; unfold maxLen; omega) (by rw [hl1]; omega) N.out.kp.size ?_
              intro v6 V35 hown5 hgrow5 hnil5 hat5
              replace N := Lib.hid (NnS.app (L2 := [(Y, .slice va5 vn5 vc5)]) N.out rfl hown5 hgrow5 hnil5 hat5)
              clear hown5 hgrow5 hnil5 hat5
              refine hK.out _ _ (mkS.out _ N.out.kp) (fun hHeld2 => ?_)
              clear hK K hHeld
              have hHeld := hHeld2
              clear hHeld2
              try simp only [Act.put, List.setIfInBounds_toArray, List.set_cons_zero, List.set_cons_succ]
              refine wpAnyH_ready (rs := [7]) (by kernel_rfl) (by simp) ?_
              refine AllReadyH.cons (o := ⟨some 78, _, _, _, _, _⟩) rfl (fun K hK => ?_) AllReadyH.nil
              have hx11 := lt_of_heap (N.out.elev _ rfl).1
              obtain ⟨v6g, v6c, hv6⟩ := nn_slice (N.out.row _ _ rfl).1 (N.out.row _ _ rfl).2.1
              rw [hl2] at hv6
              subst hv6
              go_simp
              have jx := ia _ _ N.out.kp (nn_ens hA.out (I5.out) N.out (by omega) (by omega))
              with_reducible refine jx.mono ?_
              rintro e V36 ⟨u12, rfl, O12, hb⟩
              obtain ⟨va12, vn12, vc12, rfl⟩ : ∃ ua un uc, u12 = .slice ua un uc := by obtain ⟨a, c, e, _⟩ := O12.read; exact ⟨a, _, c, e⟩
              go_wp2_with fail
              replace N := Lib.hid (N.out.low hb)
              have J12 := Lib.hid O12
              clear O12 jx hb
              refine hK.out _ _ (mkS.out _ N.out.kp) (fun hHeld2 => ?_)
              clear hK K hHeld
              have hHeld := hHeld2
              clear hHeld2
              try simp only [Act.put, List.setIfInBounds_toArray, List.set_cons_zero, List.set_cons_succ]
              refine wpAnyH_take (i := 8) (oi := ⟨some 70, _, _, _, _, _⟩) (v := ?_) rfl (by kernel_rfl) (by kernel_rfl) (by kernel_rfl) (fun _ _ _ h => h) (Or.inl ⟨by rfl, ?_⟩) (by assumption) ?_
              rotate_left 1
              · intro w hSw; (try dsimp only at hSw); go_simp; try (with_reducible rfl)
              try simp only [Act.put, List.setIfInBounds_toArray, List.set_cons_zero, List.set_cons_succ]
              refine wpAnyH_take (i := 9) (oi := ⟨some 79, _, _, _, _, _⟩) (v := ?_) rfl (by kernel_rfl) (by kernel_rfl) (by kernel_rfl) (fun _ _ _ h => h) (Or.inl ⟨by rfl, ?_⟩) (by assumption) ?_
              rotate_left 1
              · intro w hSw; (try dsimp only at hSw); go_simp; try (with_reducible rfl)
              try simp only [Act.put, List.setIfInBounds_toArray, List.set_cons_zero, List.set_cons_succ]
              refine wpAnyH_take (i := 10) (oi := ⟨some 80, _, _, _, _, _⟩) (v := ?_) rfl (by kernel_rfl) (by kernel_rfl) (by kernel_rfl) (fun _ _ _ h => h) (Or.inl ⟨by rfl, ?_⟩) (by assumption) ?_
              rotate_left 1
              · intro w hSw; (try dsimp only at hSw); go_simp; try (with_reducible rfl)
              try simp only [Act.put, List.setIfInBounds_toArray, List.set_cons_zero, List.set_cons_succ]
              refine wpAnyH_ready (rs := [12]) (by kernel_rfl) (by simp) ?_
              refine AllReadyH.cons (o := ⟨none, _, _, _, _, _⟩) rfl (fun K hK => ?_) AllReadyH.nil
              obtain ⟨⟨z0, z1, z2, z3, z4, z5, z6, z7, z8⟩, ⟨f0, f1, f2, f3, f4, f5, f6, f7, f8⟩, zl⟩ := nine_all (N.out.elev _ rfl).1
              go_simp
              have F12 := Lib.hid (put9_at (.int .i64 Y.id.1) (.int .i64 Y.id.2) (.int .i64 Y.bal) (.int .i64 Y.st) (.int .i64 Y.k) (.int .i64 Y.key) (.int .i64 Y.v) (.int .i64 Y.seq) (.slice va12 vn12 vc12) (N.out.elev _ rfl).1)
              have J13 := Lib.hid (nn_put9 (.int .i64 Y.id.1) (.int .i64 Y.id.2) (.int .i64 Y.bal) (.int .i64 Y.st) (.int .i64 Y.k) (.int .i64 Y.key) (.int .i64 Y.v) (.int .i64 Y.seq) (.slice va12 vn12 vc12) J12.out (xb := V20.heap.size) (fun hh => absurd hh (by omega)))
              replace J12 := J13
              clear J13
              have B12 := N.out.kp.trans (put9_below (.int .i64 Y.id.1) (.int .i64 Y.id.2) (.int .i64 Y.bal) (.int .i64 Y.st) (.int .i64 Y.k) (.int .i64 Y.key) (.int .i64 Y.v) (.int .i64 Y.seq) (.slice va12 vn12 vc12) (N.out.elev _ rfl).2)
              have F13 := Lib.hid (hv0.out _ B12)
              refine hK.out _ _ (mkS.out _ B12) (fun hHeld2 => ?_)
              clear hK K hHeld B12
              have hHeld := hHeld2
              clear hHeld2
              try simp only [Act.put, List.setIfInBounds_toArray, List.set_cons_zero, List.set_cons_succ]
              refine wpAnyH_take (i := 13) (oi := ⟨some 12, _, _, _, _, _⟩) (v := ?_) rfl (by kernel_rfl) (by kernel_rfl) (by kernel_rfl) (fun _ _ _ h => h) (Or.inl ⟨by rfl, ?_⟩) (by assumption) ?_
              rotate_left 1
              · intro w hSw; (try dsimp only at hSw); go_simp; try (with_reducible rfl)
              try simp only [Act.put, List.setIfInBounds_toArray, List.set_cons_zero, List.set_cons_succ]
              refine wpAnyH_done (by kernel_rfl) ?_ _
              try simp only [Act.put, List.setIfInBounds_toArray, List.set_cons_zero, List.set_cons_succ]
              go_wp2_with fail
              go_meet
              exact ⟨V20.heap.size, va12, vn12, vc12, rfl, rfl, F12, J12, F13⟩
            refine AllReadyH.cons (o := ⟨some 11, _, _, _, _, _⟩) rfl (fun K hK => ?_) AllReadyH.nil
            go_simp
            replace N := Lib.hid N.out.box
            generalize V1.alloc (.cells #[.int .i64 0, .int .i64 0, .int .i64 0, .int .i64 0, .int .i64 0, .int .i64 0, .int .i64 0, .int .i64 0, .slice none 0 0] 29) = V38 at N ⊢
            refine hK.out _ _ (mkS.out _ N.out.kp) (fun hHeld2 => ?_)
            clear hK K hHeld
            have hHeld := hHeld2
            clear hHeld2
            try simp only [Act.put, List.setIfInBounds_toArray, List.set_cons_zero, List.set_cons_succ]
            refine wpAnyH_ready (rs := [3, 5]) (by kernel_rfl) (by simp) ?_
            refine AllReadyH.cons (o := ⟨some 74, _, _, _, _, _⟩) rfl (fun K hK => ?_) ?_
            · rw [if_pos (by rfl)]
              refine wp_append_atJ _ _ 30 rfl v0.heap.size 29 j0 (.agg #[.int .i64 0, .int .i64 0, .int .i64 0, .int .i64 0, .int .i64 0, .int .i64 0, .int .i64 0, .int .i64 0, .slice none 0 0]) 9 88 Tryd.underlying30 hj0 jz0 jz1 jz2 rfl (by decide) _ 0 [] rfl (N.out.row _ _ rfl).1 ⟨g, 0, none⟩ l vc (flatE (elr E U 0 l)) rfl (by rw [flatE_len, elr_len]) (src1.out _ N.out.kp) one1.out (by unfold maxLen; omega) (by omega) N.out.kp.size ?_
              intro v5 V39 hown5 hgrow5 hnil5 hat5
              replace N := Lib.hid (NnS.app (L2 := elr E U 0 l) N.out (elr_len E U 0 l) hown5 hgrow5 hnil5 hat5)
              clear hown5 hgrow5 hnil5 hat5
              refine hK.out _ _ (mkS.out _ N.out.kp) (fun hHeld2 => ?_)
              clear hK K hHeld
              have hHeld := hHeld2
              clear hHeld2
              try simp only [Act.put, List.setIfInBounds_toArray, List.set_cons_zero, List.set_cons_succ]
              refine wpAnyH_ready (rs := [5]) (by kernel_rfl) (by simp) ?_
              refine AllReadyH.cons (o := ⟨some 76, _, _, _, _, _⟩) rfl (fun K hK => ?_) AllReadyH.nil
              go_simp
              replace N := Lib.hid N.out.copy
              generalize V39.alloc (.cells #[.int .i64 Y.id.1, .int .i64 Y.id.2, .int .i64 Y.bal, .int .i64 Y.st, .int .i64 Y.k, .int .i64 Y.key, .int .i64 Y.v, .int .i64 Y.seq, .slice va5 vn5 vc5] 29) = V40 at N ⊢
              refine hK.out _ _ (mkS.out _ N.out.kp) (fun hHeld2 => ?_)
              clear hK K hHeld
              have hHeld := hHeld2
              clear hHeld2
              try simp only [Act.put, List.setIfInBounds_toArray, List.set_cons_zero, List.set_cons_succ]
              refine wpAnyH_ready (rs := [6]) (by kernel_rfl) (by simp) ?_
              refine AllReadyH.cons (o := ⟨some 77, _, _, _, _, _⟩) rfl (fun K hK => ?_) AllReadyH.nil
              rw [if_pos (by rfl)]
              refine wp_append_atJ _ _ 30 rfl v0.heap.size 29 j0 (.agg #[.int .i64 0, .int .i64 0, .int .i64 0, .int .i64 0, .int .i64 0, .int .i64 0, .int .i64 0, .int .i64 0, .slice none 0 0]) 9 88 Tryd.underlying30 hj0 jz0 jz1 jz2 rfl (by decide) v5 ([] ++ elr E U 0 l).length (flatE ([] ++ elr E U 0 l)) rfl (N.out.row _ _ rfl).1 ⟨_, 0, none⟩ 1 1 (flatE [(Y, .slice va5 vn5 vc5)]) rfl rfl (nn_src (N.out.five _ rfl).1) (nine_oneE _ _ _ _ _ _ _ _ _ _ _) (by rw [hl1]; unfold maxLen; omega) (by rw [hl1]; omega) N.out.kp.size ?_
              intro v6 V41 hown5 hgrow5 hnil5 hat5
              replace N := Lib.hid (NnS.app (L2 := [(Y, .slice va5 vn5 vc5)]) N.out rfl hown5 hgrow5 hnil5 hat5)
              clear hown5 hgrow5 hnil5 hat5
              refine hK.out _ _ (mkS.out _ N.out.kp) (fun hHeld2 => ?_)
              clear hK K hHeld
              have hHeld := hHeld2
              clear hHeld2
              try simp only [Act.put, List.setIfInBounds_toArray, List.set_cons_zero, List.set_cons_succ]
              refine wpAnyH_ready (rs := [7]) (by kernel_rfl) (by simp) ?_
              refine AllReadyH.cons (o := ⟨some 78, _, _, _, _, _⟩) rfl (fun K hK => ?_) AllReadyH.nil
              have hx11 := lt_of_heap (N.out.elev _ rfl).1
              obtain ⟨v6g, v6c, hv6⟩ := nn_slice (N.out.row _ _ rfl).1 (N.out.row _ _ rfl).2.1
              rw [hl2] at hv6
              subst hv6
              go_simp
              have jx := ia _ _ N.out.kp (nn_ens hA.out (I5.out) N.out (by omega) (by omega))
              with_reducible refine jx.mono ?_
              rintro e V42 ⟨u12, rfl, O12, hb⟩
              obtain ⟨va12, vn12, vc12, rfl⟩ : ∃ ua un uc, u12 = .slice ua un uc := by obtain ⟨a, c, e, _⟩ := O12.read; exact ⟨a, _, c, e⟩
              go_wp2_with fail
              replace N := Lib.hid (N.out.low hb)
              have J12 := Lib.hid O12
              clear O12 jx hb
              refine hK.out _ _ (mkS.out _ N.out.kp) (fun hHeld2 => ?_)
              clear hK K hHeld
              have hHeld := hHeld2
              clear hHeld2
              try simp only [Act.put, List.setIfInBounds_toArray, List.set_cons_zero, List.set_cons_succ]
              refine wpAnyH_take (i := 8) (oi := ⟨some 70, _, _, _, _, _⟩) (v := ?_) rfl (by kernel_rfl) (by kernel_rfl) (by kernel_rfl) (fun _ _ _ h => h) (Or.inl ⟨by rfl, ?_⟩) (by assumption) ?_
              rotate_left 1
              · intro w hSw; (try dsimp only at hSw); go_simp; try (with_reducible rfl)
              try simp only [Act.put, List.setIfInBounds_toArray, List.set_cons_zero, List.set_cons_succ]
              refine wpAnyH_take (i := 9) (oi := ⟨some 79, _, _, _, _, _⟩) (v := ?_) rfl (by kernel_rfl) (by kernel_rfl) (by kernel_rfl) (fun _ _ _ h => h) (Or.inl ⟨by rfl, ?_⟩) (by assumption) ?_
              rotate_left 1
              · intro w hSw; (try dsimp only at hSw); go_simp; try (with_reducible rfl)
              try simp only [Act.put, List.setIfInBounds_toArray, List.set_cons_zero, List.set_cons_succ]
              refine wpAnyH_take (i := 10) (oi := ⟨some 80, _, _, _, _, _⟩) (v := ?_) rfl (by kernel_rfl) (by kernel_rfl) (by kernel_rfl) (fun _ _ _ h => h) (Or.inl ⟨by rfl, ?_⟩) (by assumption) ?_
              rotate_left 1
              · intro w hSw; (try dsimp only at hSw); go_simp; try (with_reducible rfl)
              try simp only [Act.put, List.setIfInBounds_toArray, List.set_cons_zero, List.set_cons_succ]
              refine wpAnyH_ready (rs := [12]) (by kernel_rfl) (by simp) ?_
              refine AllReadyH.cons (o := ⟨none, _, _, _, _, _⟩) rfl (fun K hK => ?_) AllReadyH.nil
              obtain ⟨⟨z0, z1, z2, z3, z4, z5, z6, z7, z8⟩, ⟨f0, f1, f2, f3, f4, f5, f6, f7, f8⟩, zl⟩ := nine_all (N.out.elev _ rfl).1
              go_simp
              have F12 := Lib.hid (put9_at (.int .i64 Y.id.1) (.int .i64 Y.id.2) (.int .i64 Y.bal) (.int .i64 Y.st) (.int .i64 Y.k) (.int .i64 Y.key) (.int .i64 Y.v) (.int .i64 Y.seq) (.slice va12 vn12 vc12) (N.out.elev _ rfl).1)
              have J13 := Lib.hid (nn_put9 (.int .i64 Y.id.1) (.int .i64 Y.id.2) (.int .i64 Y.bal) (.int .i64 Y.st) (.int .i64 Y.k) (.int .i64 Y.key) (.int .i64 Y.v) (.int .i64 Y.seq) (.slice va12 vn12 vc12) J12.out (xb := V1.heap.size) (fun hh => absurd hh (by omega)))
              replace J12 := J13
              clear J13
              have B12 := N.out.kp.trans (put9_below (.int .i64 Y.id.1) (.int .i64 Y.id.2) (.int .i64 Y.bal) (.int .i64 Y.st) (.int .i64 Y.k) (.int .i64 Y.key) (.int .i64 Y.v) (.int .i64 Y.seq) (.slice va12 vn12 vc12) (N.out.elev _ rfl).2)
              have F13 := Lib.hid (hv0.out _ B12)
              refine hK.out _ _ (mkS.out _ B12) (fun hHeld2 => ?_)
              clear hK K hHeld B12
              have hHeld := hHeld2
              clear hHeld2
              try simp only [Act.put, List.setIfInBounds_toArray, List.set_cons_zero, List.set_cons_succ]
              refine wpAnyH_take (i := 13) (oi := ⟨some 12, _, _, _, _, _⟩) (v := ?_) rfl (by kernel_rfl) (by kernel_rfl) (by kernel_rfl) (fun _ _ _ h => h) (Or.inl ⟨by rfl, ?_⟩) (by assumption) ?_
              rotate_left 1
              · intro w hSw; (try dsimp only at hSw); go_simp; try (with_reducible rfl)
              try simp only [Act.put, List.setIfInBounds_toArray, List.set_cons_zero, List.set_cons_succ]
              refine wpAnyH_done (by kernel_rfl) ?_ _
              try simp only [Act.put, List.setIfInBounds_toArray, List.set_cons_zero, List.set_cons_succ]
              go_wp2_with fail
              go_meet
              exact ⟨V1.heap.size, va12, vn12, vc12, rfl, rfl, F12, J12, F13⟩
            refine AllReadyH.cons (o := ⟨some 76, _, _, _, _, _⟩) rfl (fun K hK => ?_) AllReadyH.nil
            go_simp
            replace N := Lib.hid N.out.copy
            generalize V38.alloc (.cells #[.int .i64 Y.id.1, .int .i64 Y.id.2, .int .i64 Y.bal, .int .i64 Y.st, .int .i64 Y.k, .int .i64 Y.key, .int .i64 Y.v, .int .i64 Y.seq, .slice va5 vn5 vc5] 29) = V44 at N ⊢
            refine hK.out _ _ (mkS.out _ N.out.kp) (fun hHeld2 => ?_)
            clear hK K hHeld
            have hHeld := hHeld2
            clear hHeld2
            try simp only [Act.put, List.setIfInBounds_toArray, List.set_cons_zero, List.set_cons_succ]
            refine wpAnyH_ready (rs := [3]) (by kernel_rfl) (by simp) ?_
            refine AllReadyH.cons (o := ⟨some 74, _, _, _, _, _⟩) rfl (fun K hK => ?_) AllReadyH.nil
            rw [if_pos (by rfl)]
            refine wp_append_atJ _ _ 30 rfl v0.heap.size 29 j0 (.agg #[.int .i64 0, .int .i64 0, .int .i64 0, .int .i64 0, .int .i64 0, .int .i64 0, .int .i64 0, .int .i64 0, .slice none 0 0]) 9 88 Tryd.underlying30 hj0 jz0 jz1 jz2 rfl (by decide) _ 0 [] rfl (N.out.row _ _ rfl).1 ⟨g, 0, none⟩ l vc (flatE (elr E U 0 l)) rfl (by rw [flatE_len, elr_len]) (src1.out _ N.out.kp) one1.out (by unfold maxLen; omega) (by omega) N.out.kp.size ?_
            intro v5 V45 hown5 hgrow5 hnil5 hat5
            replace N := Lib.hid (NnS.app (L2 := elr E U 0 l) N.out (elr_len E U 0 l) hown5 hgrow5 hnil5 hat5)
            clear hown5 hgrow5 hnil5 hat5
            refine hK.out _ _ (mkS.out _ N.out.kp) (fun hHeld2 => ?_)
            clear hK K hHeld
            have hHeld := hHeld2
            clear hHeld2
            try simp only [Act.put, List.setIfInBounds_toArray, List.set_cons_zero, List.set_cons_succ]
            refine wpAnyH_ready (rs := [6]) (by kernel_rfl) (by simp) ?_
            refine AllReadyH.cons (o := ⟨some 77, _, _, _, _, _⟩) rfl (fun K hK => ?_) AllReadyH.nil
            rw [if_pos (by rfl)]
            refine wp_append_atJ _ _ 30 rfl v0.heap.size 29 j0 (.agg #[.int .i64 0, .int .i64 0, .int .i64 0, .int .i64 0, .int .i64 0, .int .i64 0, .int .i64 0, .int .i64 0, .slice none 0 0]) 9 88 Tryd.underlying30 hj0 jz0 jz1 jz2 rfl (by decide) v5 ([] ++ elr E U 0 l).length (flatE ([] ++ elr E U 0 l)) rfl (N.out.row _ _ rfl).1 ⟨_, 0, none⟩ 1 1 (flatE [(Y, .slice va5 vn5 vc5)]) rfl rfl (nn_src (N.out.five _ rfl).1) (nine_oneE _ _ _ _ _ _ _ _ _ _ _) (by rw [hl1]; unfold maxLen; omega) (by rw [hl1]; omega) N.out.kp.size ?_
            intro v6 V46 hown5 hgrow5 hnil5 hat5
            replace N := Lib.hid (NnS.app (L2 := [(Y, .slice va5 vn5 vc5)]) N.out rfl hown5 hgrow5 hnil5 hat5)
            clear hown5 hgrow5 hnil5 hat5
            refine hK.out _ _ (mkS.out _ N.out.kp) (fun hHeld2 => ?_)
            clear hK K hHeld
            have hHeld := hHeld2
            clear hHeld2
            try simp only [Act.put, List.setIfInBounds_toArray, List.set_cons_zero, List.set_cons_succ]
            refine wpAnyH_ready (rs := [7]) (by kernel_rfl) (by simp) ?_
            refine AllReadyH.cons (o := ⟨some 78, _, _, _, _, _⟩) rfl (fun K hK => ?_) AllReadyH.nil
            have hx11 := lt_of_heap (N.out.elev _ rfl).1
            obtain ⟨v6g, v6c, hv6⟩ := nn_slice (N.out.row _ _ rfl).1 (N.out.row _ _ rfl).2.1
            rw [hl2] at hv6
            subst hv6
            go_simp
            have jx := ia _ _ N.out.kp (nn_ens hA.out (I5.out) N.out (by omega) (by omega))
            with_reducible refine jx.mono ?_
            rintro e V47 ⟨u12, rfl, O12, hb⟩
            obtain ⟨va12, vn12, vc12, rfl⟩ : ∃ ua un uc, u12 = .slice ua un uc := by obtain ⟨a, c, e, _⟩ := O12.read; exact ⟨a, _, c, e⟩
            go_wp2_with fail
            replace N := Lib.hid (N.out.low hb)
            have J12 := Lib.hid O12
            clear O12 jx hb
            refine hK.out _ _ (mkS.out _ N.out.kp) (fun hHeld2 => ?_)
            clear hK K hHeld
            have hHeld := hHeld2
            clear hHeld2
            try simp only [Act.put, List.setIfInBounds_toArray, List.set_cons_zero, List.set_cons_succ]
            refine wpAnyH_take (i := 8) (oi := ⟨some 70, _, _, _, _, _⟩) (v := ?_) rfl (by kernel_rfl) (by kernel_rfl) (by kernel_rfl) (fun _ _ _ h => h) (Or.inl ⟨by rfl, ?_⟩) (by assumption) ?_
            rotate_left 1
            · intro w hSw; (try dsimp only at hSw); go_simp; try (with_reducible rfl)
            try simp only [Act.put, List.setIfInBounds_toArray, List.set_cons_zero, List.set_cons_succ]
            refine wpAnyH_take (i := 9) (oi := ⟨some 79, _, _, _, _, _⟩) (v := ?_) rfl (by kernel_rfl) (by kernel_rfl) (by kernel_rfl) (fun _ _ _ h => h) (Or.inl ⟨by rfl, ?_⟩) (by assumption) ?_
            rotate_left 1
            · intro w hSw; (try dsimp only at hSw); go_simp; try (with_reducible rfl)
            try simp only [Act.put, List.setIfInBounds_toArray, List.set_cons_zero, List.set_cons_succ]
            refine wpAnyH_take (i := 10) (oi := ⟨some 80, _, _, _, _, _⟩) (v := ?_) rfl (by kernel_rfl) (by kernel_rfl) (by kernel_rfl) (fun _ _ _ h => h) (Or.inl ⟨by rfl, ?_⟩) (by assumption) ?_
            rotate_left 1
            · intro w hSw; (try dsimp only at hSw); go_simp; try (with_reducible rfl)
            try simp only [Act.put, List.setIfInBounds_toArray, List.set_cons_zero, List.set_cons_succ]
            refine wpAnyH_ready (rs := [12]) (by kernel_rfl) (by simp) ?_
            refine AllReadyH.cons (o := ⟨none, _, _, _, _, _⟩) rfl (fun K hK => ?_) AllReadyH.nil
            obtain ⟨⟨z0, z1, z2, z3, z4, z5, z6, z7, z8⟩, ⟨f0, f1, f2, f3, f4, f5, f6, f7, f8⟩, zl⟩ := nine_all (N.out.elev _ rfl).1
            go_simp
            have F12 := Lib.hid (put9_at (.int .i64 Y.id.1) (.int .i64 Y.id.2) (.int .i64 Y.bal) (.int .i64 Y.st) (.int .i64 Y.k) (.int .i64 Y.key) (.int .i64 Y.v) (.int .i64 Y.seq) (.slice va12 vn12 vc12) (N.out.elev _ rfl).1)
            have J13 := Lib.hid (nn_put9 (.int .i64 Y.id.1) (.int .i64 Y.id.2) (.int .i64 Y.bal) (.int .i64 Y.st) (.int .i64 Y.k) (.int .i64 Y.key) (.int .i64 Y.v) (.int .i64 Y.seq) (.slice va12 vn12 vc12) J12.out (xb := V1.heap.size) (fun hh => absurd hh (by omega)))
            replace J12 := J13
            clear J13
            have B12 := N.out.kp.trans (put9_below (.int .i64 Y.id.1) (.int .i64 Y.id.2) (.int .i64 Y.bal) (.int .i64 Y.st) (.int .i64 Y.k) (.int .i64 Y.key) (.int .i64 Y.v) (.int .i64 Y.seq) (.slice va12 vn12 vc12) (N.out.elev _ rfl).2)
            have F13 := Lib.hid (hv0.out _ B12)
            refine hK.out _ _ (mkS.out _ B12) (fun hHeld2 => ?_)
            clear hK K hHeld B12
            have hHeld := hHeld2
            clear hHeld2
            try simp only [Act.put, List.setIfInBounds_toArray, List.set_cons_zero, List.set_cons_succ]
            refine wpAnyH_take (i := 13) (oi := ⟨some 12, _, _, _, _, _⟩) (v := ?_) rfl (by kernel_rfl) (by kernel_rfl) (by kernel_rfl) (fun _ _ _ h => h) (Or.inl ⟨by rfl, ?_⟩) (by assumption) ?_
            rotate_left 1
            · intro w hSw; (try dsimp only at hSw); go_simp; try (with_reducible rfl)
            try simp only [Act.put, List.setIfInBounds_toArray, List.set_cons_zero, List.set_cons_succ]
            refine wpAnyH_done (by kernel_rfl) ?_ _
            try simp only [Act.put, List.setIfInBounds_toArray, List.set_cons_zero, List.set_cons_succ]
            go_wp2_with fail
            go_meet
            exact ⟨V1.heap.size, va12, vn12, vc12, rfl, rfl, F12, J12, F13⟩
          refine AllReadyH.cons (o := ⟨some 76, _, _, _, _, _⟩) rfl (fun K hK => ?_) ?_
          · go_simp
            replace N := Lib.hid N.out.copy
            generalize v0.alloc (.cells #[.int .i64 Y.id.1, .int .i64 Y.id.2, .int .i64 Y.bal, .int .i64 Y.st, .int .i64 Y.k, .int .i64 Y.key, .int .i64 Y.v, .int .i64 Y.seq, .slice va5 vn5 vc5] 29) = V49 at N ⊢
            refine hK.out _ _ (mkS.out _ N.out.kp) (fun hHeld2 => ?_)
            clear hK K hHeld
            have hHeld := hHeld2
            clear hHeld2
            try simp only [Act.put, List.setIfInBounds_toArray, List.set_cons_zero, List.set_cons_succ]
            refine wpAnyH_ready (rs := [1, 11]) (by kernel_rfl) (by simp) ?_
            refine AllReadyH.cons (o := ⟨some 72, _, _, _, _, _⟩) rfl (fun K hK => ?_) ?_
            · go_simp
              replace N := Lib.hid N.out.list
              generalize V49.alloc (.cells #[] 29) = V50 at N ⊢
              refine hK.out _ _ (mkS.out _ N.out.kp) (fun hHeld2 => ?_)
              clear hK K hHeld
              have hHeld := hHeld2
              clear hHeld2
              try simp only [Act.put, List.setIfInBounds_toArray, List.set_cons_zero, List.set_cons_succ]
              refine wpAnyH_ready (rs := [3, 11]) (by kernel_rfl) (by simp) ?_
              refine AllReadyH.cons (o := ⟨some 74, _, _, _, _, _⟩) rfl (fun K hK => ?_) ?_
              · rw [if_pos (by rfl)]
                refine wp_append_atJ _ _ 30 rfl v0.heap.size 29 j0 (.agg #[.int .i64 0, .int .i64 0, .int .i64 0, .int .i64 0, .int .i64 0, .int .i64 0, .int .i64 0, .int .i64 0, .slice none 0 0]) 9 88 Tryd.underlying30 hj0 jz0 jz1 jz2 rfl (by decide) _ 0 [] rfl (N.out.row _ _ rfl).1 ⟨g, 0, none⟩ l vc (flatE (elr E U 0 l)) rfl (by rw [flatE_len, elr_len]) (src1.out _ N.out.kp) one1.out (by unfold maxLen; omega) (by omega) N.out.kp.size ?_
                intro v5 V51 hown5 hgrow5 hnil5 hat5
                replace N := Lib.hid (NnS.app (L2 := elr E U 0 l) N.out (elr_len E U 0 l) hown5 hgrow5 hnil5 hat5)
                clear hown5 hgrow5 hnil5 hat5
                refine hK.out _ _ (mkS.out _ N.out.kp) (fun hHeld2 => ?_)
                clear hK K hHeld
                have hHeld := hHeld2
                clear hHeld2
                try simp only [Act.put, List.setIfInBounds_toArray, List.set_cons_zero, List.set_cons_succ]
                refine wpAnyH_ready (rs := [6, 11]) (by kernel_rfl) (by simp) ?_
                refine AllReadyH.cons (o := ⟨some 77, _, _, _, _, _⟩) rfl (fun K hK => ?_) ?_
                · rw [if_pos (by rfl)]
                  refine wp_append_atJ _ _ 30 rfl v0.heap.size 29 j0 (.agg #[.int .i64 0, .int .i64 0, .int .i64 0, .int .i64 0, .int .i64 0, .int .i64 0, .int .i64 0, .int .i64 0, .slice none 0 0]) 9 88 Tryd.underlying30 hj0 jz0 jz1 jz2 rfl (by decide) v5 ([] ++ elr E U 0 l).length (flatE ([] ++ elr E U 0 l)) rfl (N.out.row _ _ rfl).1 ⟨_, 0, none⟩ 1 1 (flatE [(Y, .slice va5 vn5 vc5)]) rfl rfl (nn_src (N.out.five _ rfl).1) (nine_oneE _ _ _ _ _ _ _ _ _ _ _) (by rw [hl1]; unfold maxLen; omega) (by rw [hl1]; omega) N.out.kp.size ?_
                  intro v6 V52 hown5 hgrow5 hnil5 hat5
                  replace N := Lib.hid (NnS.app (L2 := [(Y, .slice va5 vn5 vc5)]) N.out rfl hown5 hgrow5 hnil5 hat5)
                  clear hown5 hgrow5 hnil5 hat5
                  refine hK.out _ _ (mkS.out _ N.out.kp) (fun hHeld2 => ?_)
                  clear hK K hHeld
                  have hHeld := hHeld2
                  clear hHeld2
                  try simp only [Act.put, List.setIfInBounds_toArray, List.set_cons_zero, List.set_cons_succ]
                  refine wpAnyH_ready (rs := [7, 11]) (by kernel_rfl) (by simp) ?_
                  refine AllReadyH.cons (o := ⟨some 78, _, _, _, _, _⟩) rfl (fun K hK => ?_) ?_
                  · obtain ⟨v6g, v6c, hv6⟩ := nn_slice (N.out.row _ _ rfl).1 (N.out.row _ _ rfl).2.1
                    rw [hl2] at hv6
                    subst hv6
                    go_simp
                    have jx := ia _ _ N.out.kp (nn_ens hA.out (I5.out) N.out (by omega) (by omega))
                    with_reducible refine jx.mono ?_
                    rintro e V53 ⟨u12, rfl, O12, hb⟩
                    obtain ⟨va12, vn12, vc12, rfl⟩ : ∃ ua un uc, u12 = .slice ua un uc := by obtain ⟨a, c, e, _⟩ := O12.read; exact ⟨a, _, c, e⟩
                    go_wp2_with fail
                    replace N := Lib.hid (N.out.low hb)
                    have J12 := Lib.hid O12
                    clear O12 jx hb
                    refine hK.out _ _ (mkS.out _ N.out.kp) (fun hHeld2 => ?_)
                    clear hK K hHeld
                    have hHeld := hHeld2
                    clear hHeld2
                    try simp only [Act.put, List.setIfInBounds_toArray, List.set_cons_zero, List.set_cons_succ]
                    refine wpAnyH_take (i := 8) (oi := ⟨some 70, _, _, _, _, _⟩) (v := ?_) rfl (by kernel_rfl) (by kernel_rfl) (by kernel_rfl) (fun _ _ _ h => h) (Or.inl ⟨by rfl, ?_⟩) (by assumption) ?_
                    rotate_left 1
                    · intro w hSw; (try dsimp only at hSw); go_simp; try (with_reducible rfl)
                    try simp only [Act.put, List.setIfInBounds_toArray, List.set_cons_zero, List.set_cons_succ]
                    refine wpAnyH_take (i := 9) (oi := ⟨some 79, _, _, _, _, _⟩) (v := ?_) rfl (by kernel_rfl) (by kernel_rfl) (by kernel_rfl) (fun _ _ _ h => h) (Or.inl ⟨by rfl, ?_⟩) (by assumption) ?_
                    rotate_left 1
                    · intro w hSw; (try dsimp only at hSw); go_simp; try (with_reducible rfl)
                    try simp only [Act.put, List.setIfInBounds_toArray, List.set_cons_zero, List.set_cons_succ]
                    refine wpAnyH_take (i := 10) (oi := ⟨some 80, _, _, _, _, _⟩) (v := ?_) rfl (by kernel_rfl) (by kernel_rfl) (by kernel_rfl) (fun _ _ _ h => h) (Or.inl ⟨by rfl, ?_⟩) (by assumption) ?_
                    rotate_left 1
                    · intro w hSw; (try dsimp only at hSw); go_simp; try (with_reducible rfl)
                    try simp only [Act.put, List.setIfInBounds_toArray, List.set_cons_zero, List.set_cons_succ]
                    refine wpAnyH_ready (rs := [11]) (by kernel_rfl) (by simp) ?_
                    refine AllReadyH.cons (o := ⟨some 11, _, _, _, _, _⟩) rfl (fun K hK => ?_) AllReadyH.nil
                    go_simp
                    replace N := Lib.hid N.out.box
                    have hx11 := Nat.le_refl V53.heap.size
                    replace J12 := Lib.hid (J12.out.up ((Below.refl _ _).alloc (Nat.le_refl _) (.cells #[.int .i64 0, .int .i64 0, .int .i64 0, .int .i64 0, .int .i64 0, .int .i64 0, .int .i64 0, .int .i64 0, .slice none 0 0] 29)))
                    generalize V53.alloc (.cells #[.int .i64 0, .int .i64 0, .int .i64 0, .int .i64 0, .int .i64 0, .int .i64 0, .int .i64 0, .int .i64 0, .slice none 0 0] 29) = V54 at N J12 ⊢
                    refine hK.out _ _ (mkS.out _ N.out.kp) (fun hHeld2 => ?_)
                    clear hK K hHeld
                    have hHeld := hHeld2
                    clear hHeld2
                    try simp only [Act.put, List.setIfInBounds_toArray, List.set_cons_zero, List.set_cons_succ]
                    refine wpAnyH_ready (rs := [12]) (by kernel_rfl) (by simp) ?_
                    refine AllReadyH.cons (o := ⟨none, _, _, _, _, _⟩) rfl (fun K hK => ?_) AllReadyH.nil
                    obtain ⟨⟨z0, z1, z2, z3, z4, z5, z6, z7, z8⟩, ⟨f0, f1, f2, f3, f4, f5, f6, f7, f8⟩, zl⟩ := nine_all (N.out.elev _ rfl).1
                    go_simp
                    have F12 := Lib.hid (put9_at (.int .i64 Y.id.1) (.int .i64 Y.id.2) (.int .i64 Y.bal) (.int .i64 Y.st) (.int .i64 Y.k) (.int .i64 Y.key) (.int .i64 Y.v) (.int .i64 Y.seq) (.slice va12 vn12 vc12) (N.out.elev _ rfl).1)
                    have J13 := Lib.hid (nn_put9 (.int .i64 Y.id.1) (.int .i64 Y.id.2) (.int .i64 Y.bal) (.int .i64 Y.st) (.int .i64 Y.k) (.int .i64 Y.key) (.int .i64 Y.v) (.int .i64 Y.seq) (.slice va12 vn12 vc12) J12.out (xb := V53.heap.size) (fun hh => absurd hh (by omega)))
                    replace J12 := J13
                    clear J13
                    have B12 := N.out.kp.trans (put9_below (.int .i64 Y.id.1) (.int .i64 Y.id.2) (.int .i64 Y.bal) (.int .i64 Y.st) (.int .i64 Y.k) (.int .i64 Y.key) (.int .i64 Y.v) (.int .i64 Y.seq) (.slice va12 vn12 vc12) (N.out.elev _ rfl).2)
                    have F13 := Lib.hid (hv0.out _ B12)
                    refine hK.out _ _ (mkS.out _ B12) (fun hHeld2 => ?_)
                    clear hK K hHeld B12
                    have hHeld := hHeld2
                    clear hHeld2
                    try simp only [Act.put, List.setIfInBounds_toArray, List.set_cons_zero, List.set_cons_succ]
                    refine wpAnyH_take (i := 13) (oi := ⟨some 12, _, _, _, _, _⟩) (v := ?_) rfl (by kernel_rfl) (by kernel_rfl) (by kernel_rfl) (fun _ _ _ h => h) (Or.inl ⟨by rfl, ?_⟩) (by assumption) ?_
                    rotate_left 1
                    · intro w hSw; (try dsimp only at hSw); go_simp; try (with_reducible rfl)
                    try simp only [Act.put, List.setIfInBounds_toArray, List.set_cons_zero, List.set_cons_succ]
                    refine wpAnyH_done (by kernel_rfl) ?_ _
                    try simp only [Act.put, List.setIfInBounds_toArray, List.set_cons_zero, List.set_cons_succ]
                    go_wp2_with fail
                    go_meet
                    exact ⟨V53.heap.size, va12, vn12, vc12, rfl, rfl, F12, J12, F13⟩
                  refine AllReadyH.cons (o := ⟨some 11, _, _, _, _, _⟩) rfl (fun K hK => ?_) AllReadyH.nil
                  go_simp
                  replace N := Lib.hid N.out.box
                  generalize V52.alloc (.cells #[.int .i64 0, .int .i64 0, .int .i64 0, .int .i64 0, .int .i64 0, .int .i64 0, .int .i64 0, .int .i64 0, .slice none 0 0] 29) = V56 at N ⊢
                  refine hK.out _ _ (mkS.out _ N.out.kp) (fun hHeld2 => ?_)
                  clear hK K hHeld
                  have hHeld := hHeld2
                  clear hHeld2
                  try simp only [Act.put, List.setIfInBounds_toArray, List.set_cons_zero, List.set_cons_succ]
                  refine wpAnyH_ready (rs := [7]) (by kernel_rfl) (by simp) ?_
                  refine AllReadyH.cons (o := ⟨some 78, _, _, _, _, _⟩) rfl (fun K hK => ?_) AllReadyH.nil
                  have hx11 := lt_of_heap (N.out.elev _ rfl).1
                  obtain ⟨v6g, v6c, hv6⟩ := nn_slice (N.out.row _ _ rfl).1 (N.out.row _ _ rfl).2.1
                  rw [hl2] at hv6
                  subst hv6
                  go_simp
                  have jx := ia _ _ N.out.kp (nn_ens hA.out (I5.out) N.out (by omega) (by omega))
                  with_reducible refine jx.mono ?_
                  rintro e V57 ⟨u12, rfl, O12, hb⟩
                  obtain ⟨va12, vn12, vc12, rfl⟩ : ∃ ua un uc, u12 = .slice ua un uc := by obtain ⟨a, c, e, _⟩ := O12.read; exact ⟨a, _, c, e⟩
                  go_wp2_with fail
                  replace N := Lib.hid (N.out.low hb)
                  have J12 := Lib.hid O12
                  clear O12 jx hb
                  refine hK.out _ _ (mkS.out _ N.out.kp) (fun hHeld2 => ?_)
                  clear hK K hHeld
                  have hHeld := hHeld2
                  clear hHeld2
                  try simp only [Act.put, List.setIfInBounds_toArray, List.set_cons_zero, List.set_cons_succ]
                  refine wpAnyH_take (i := 8) (oi := ⟨some 70, _, _, _, _, _⟩) (v := ?_) rfl (by kernel_rfl) (by kernel_rfl) (by kernel_rfl) (fun _ _ _ h => h) (Or.inl ⟨by rfl, ?_⟩) (by assumption) ?_
                  rotate_left 1
                  · intro w hSw; (try dsimp only at hSw); go_simp; try (with_reducible rfl)
                  try simp only [Act.put, List.setIfInBounds_toArray, List.set_cons_zero, List.set_cons_succ]
                  refine wpAnyH_take (i := 9) (oi := ⟨some 79, _, _, _, _, _⟩) (v := ?_) rfl (by kernel_rfl) (by kernel_rfl) (by kernel_rfl) (fun _ _ _ h => h) (Or.inl ⟨by rfl, ?_⟩) (by assumption) ?_
                  rotate_left 1
                  · intro w hSw; (try dsimp only at hSw); go_simp; try (with_reducible rfl)
                  try simp only [Act.put, List.setIfInBounds_toArray, List.set_cons_zero, List.set_cons_succ]
                  refine wpAnyH_take (i := 10) (oi := ⟨some 80, _, _, _, _, _⟩) (v := ?_) rfl (by kernel_rfl) (by kernel_rfl) (by kernel_rfl) (fun _ _ _ h => h) (Or.inl ⟨by rfl, ?_⟩) (by assumption) ?_
                  rotate_left 1
                  · intro w hSw; (try dsimp only at hSw); go_simp; try (with_reducible rfl)
                  try simp only [Act.put, List.setIfInBounds_toArray, List.set_cons_zero, List.set_cons_succ]
                  refine wpAnyH_ready (rs := [12]) (by kernel_rfl) (by simp) ?_
                  refine AllReadyH.cons (o := ⟨none, _, _, _, _, _⟩) rfl (fun K hK => ?_) AllReadyH.nil
                  obtain ⟨⟨z0, z1, z2, z3, z4, z5, z6, z7, z8⟩, ⟨f0, f1, f2, f3, f4, f5, f6, f7, f8⟩, zl⟩ := nine_all (N.out.elev _ rfl).1
                  go_simp
                  have F12 := Lib.hid (put9_at (.int .i64 Y.id.1) (.int .i64 Y.id.2) (.int .i64 Y.bal) (.int .i64 Y.st) (.int .i64 Y.k) (.int .i64 Y.key) (.int .i64 Y.v) (.int .i64 Y.seq) (.slice va12 vn12 vc12) (N.out.elev _ rfl).1)
                  have J13 := Lib.hid (nn_put9 (.int .i64 Y.id.1) (.int .i64 Y.id.2) (.int .i64 Y.bal) (.int .i64 Y.st) (.int .i64 Y.k) (.int .i64 Y.key) (.int .i64 Y.v) (.int .i64 Y.seq) (.slice va12 vn12 vc12) J12.out (xb := V52.heap.size) (fun hh => absurd hh (by omega)))
                  replace J12 := J13
                  clear J13
                  have B12 := N.out.kp.trans (put9_below (.int .i64 Y.id.1) (.int .i64 Y.id.2) (.int .i64 Y.bal) (.int .i64 Y.st) (.int .i64 Y.k) (.int .i64 Y.key) (.int .i64 Y.v) (.int .i64 Y.seq) (.slice va12 vn12 vc12) (N.out.elev _ rfl).2)
                  have F13 := Lib.hid (hv0.out _ B12)
                  refine hK.out _ _ (mkS.out _ B12) (fun hHeld2 => ?_)
                  clear hK K hHeld B12
                  have hHeld := hHeld2
                  clear hHeld2
                  try simp only [Act.put, List.setIfInBounds_toArray, List.set_cons_zero, List.set_cons_succ]
                  refine wpAnyH_take (i := 13) (oi := ⟨some 12, _, _, _, _, _⟩) (v := ?_) rfl (by kernel_rfl) (by kernel_rfl) (by kernel_rfl) (fun _ _ _ h => h) (Or.inl ⟨by rfl, ?_⟩) (by assumption) ?_
                  rotate_left 1
                  · intro w hSw; (try dsimp only at hSw); go_simp; try (with_reducible rfl)
                  try simp only [Act.put, List.setIfInBounds_toArray, List.set_cons_zero, List.set_cons_succ]
                  refine wpAnyH_done (by kernel_rfl) ?_ _
                  try simp only [Act.put, List.setIfInBounds_toArray, List.set_cons_zero, List.set_cons_succ]
                  go_wp2_with fail
                  go_meet
                  exact ⟨V52.heap.size, va12, vn12, vc12, rfl, rfl, F12, J12, F13⟩
                refine AllReadyH.cons (o := ⟨some 11, _, _, _, _, _⟩) rfl (fun K hK => ?_) AllReadyH.nil
                go_simp
                replace N := Lib.hid N.out.box
                generalize V51.alloc (.cells #[.int .i64 0, .int .i64 0, .int .i64 0, .int .i64 0, .int .i64 0, .int .i64 0, .int .i64 0, .int .i64 0, .slice none 0 0] 29) = V59 at N ⊢
                refine hK.out _ _ (mkS.out _ N.out.kp) (fun hHeld2 => ?_)
                clear hK K hHeld
                have hHeld := hHeld2
                clear hHeld2
                try simp only [Act.put, List.setIfInBounds_toArray, List.set_cons_zero, List.set_cons_succ]
                refine wpAnyH_ready (rs := [6]) (by kernel_rfl) (by simp) ?_
                refine AllReadyH.cons (o := ⟨some 77, _, _, _, _, _⟩) rfl (fun K hK => ?_) AllReadyH.nil
                rw [if_pos (by rfl)]
                refine wp_append_atJ _ _ 30 rfl v0.heap.size 29 j0 (.agg #[.int .i64 0, .int .i64 0, .int .i64 0, .int .i64 0, .int .i64 0, .int .i64 0, .int .i64 0, .int .i64 0, .slice none 0 0]) 9 88 Tryd.underlying30 hj0 jz0 jz1 jz2 rfl (by decide) v5 ([] ++ elr E U 0 l).length (flatE ([] ++ elr E U 0 l)) rfl (N.out.row _ _ rfl).1 ⟨_, 0, none⟩ 1 1 (flatE [(Y, .slice va5 vn5 vc5)]) rfl rfl (nn_src (N.out.five _ rfl).1) (nine_oneE _ _ _ _ _ _ _ _ _ _ _) (by rw [hl1]; unfold maxLen; omega) (by rw [hl1]; omega) N.out.kp.size ?_
                intro v6 V60 hown5 hgrow5 hnil5 hat5
                replace N := Lib.hid (NnS.app (L2 := [(Y, .slice va5 vn5 vc5)]) N.out rfl hown5 hgrow5 hnil5 hat5)
                clear hown5 hgrow5 hnil5 hat5
                refine hK.out _ _ (mkS.out _ N.out.kp) (fun hHeld2 => ?_)
                clear hK K hHeld
                have hHeld := hHeld2
                clear hHeld2
                try simp only [Act.put, List.setIfInBounds_toArray, List.set_cons_zero, List.set_cons_succ]
                refine wpAnyH_ready (rs := [7]) (by kernel_rfl) (by simp) ?_
                refine AllReadyH.cons (o := ⟨some 78, _, _, _, _, _⟩) rfl (fun K hK => ?_) AllReadyH.nil
                have hx11 := lt_of_heap (N.out.elev _ rfl).1
                obtain ⟨v6g, v6c, hv6⟩ := nn_slice (N.out.row _ _ rfl).1 (N.out.row _ _ rfl).2.1
                rw [hl2] at hv6
                subst hv6
                go_simp
                have jx := ia _ _ N.out.kp (nn_ens hA.out (I5.out) N.out (by omega) (by omega))
                with_reducible refine jx.mono ?_
                rintro e V61 ⟨u12, rfl, O12, hb⟩
                obtain ⟨va12, vn12, vc12, rfl⟩ : ∃ ua un uc, u12 = .slice ua un uc := by obtain ⟨a, c, e, _⟩ := O12.read; exact ⟨a, _, c, e⟩
                go_wp2_with fail
                replace N := Lib.hid (N.out.low hb)
                have J12 := Lib.hid O12
                clear O12 jx hb
                refine hK.out _ _ (mkS.out _ N.out.kp) (fun hHeld2 => ?_)
                clear hK K hHeld
                have hHeld := hHeld2
                clear hHeld2
                try simp only [Act.put, List.setIfInBounds_toArray, List.set_cons_zero, List.set_cons_succ]
                refine wpAnyH_take (i := 8) (oi := ⟨some 70, _, _, _, _, _⟩) (v := ?_) rfl (by kernel_rfl) (by kernel_rfl) (by kernel_rfl) (fun _ _ _ h => h) (Or.inl ⟨by rfl, ?_⟩) (by assumption) ?_
                rotate_left 1
                · intro w hSw; (try dsimp only at hSw); go_simp; try (with_reducible rfl)
                try simp only [Act.put, List.setIfInBounds_toArray, List.set_cons_zero, List.set_cons_succ]
                refine wpAnyH_take (i := 9) (oi := ⟨some 79, _, _, _, _, _⟩) (v := ?_) rfl (by kernel_rfl) (by kernel_rfl) (by kernel_rfl) (fun _ _ _ h => h) (Or.inl ⟨by rfl, ?_⟩) (by assumption) ?_
                rotate_left 1
                · intro w hSw; (try dsimp only at hSw); go_simp; try (with_reducible rfl)
                try simp only [Act.put, List.setIfInBounds_toArray, List.set_cons_zero, List.set_cons_succ]
                refine wpAnyH_take (i := 10) (oi := ⟨some 80, _, _, _, _, _⟩) (v := ?_) rfl (by kernel_rfl) (by kernel_rfl) (by kernel_rfl) (fun _ _ _ h => h) (Or.inl ⟨by rfl, ?_⟩) (by assumption) ?_
                rotate_left 1
                · intro w hSw; (try dsimp only at hSw); go_simp; try (with_reducible rfl)
                try simp only [Act.put, List.setIfInBounds_toArray, List.set_cons_zero, List.set_cons_succ]
                refine wpAnyH_ready (rs := [12]) (by kernel_rfl) (by simp) ?_
                refine AllReadyH.cons (o := ⟨none, _, _, _, _, _⟩) rfl (fun K hK => ?_) AllReadyH.nil
                obtain ⟨⟨z0, z1, z2, z3, z4, z5, z6, z7, z8⟩, ⟨f0, f1, f2, f3, f4, f5, f6, f7, f8⟩, zl⟩ := nine_all (N.out.elev _ rfl).1
                go_simp
                have F12 := Lib.hid (put9_at (.int .i64 Y.id.1) (.int .i64 Y.id.2) (.int .i64 Y.bal) (.int .i64 Y.st) (.int .i64 Y.k) (.int .i64 Y.key) (.int .i64 Y.v) (.int .i64 Y.seq) (.slice va12 vn12 vc12) (N.out.elev _ rfl).1)
                have J13 := Lib.hid (nn_put9 (.int .i64 Y.id.1) (.int .i64 Y.id.2) (.int .i64 Y.bal) (.int .i64 Y.st) (.int .i64 Y.k) (.int .i64 Y.key) (.int .i64 Y.v) (.int .i64 Y.seq) (.slice va12 vn12 vc12) J12.out (xb := V51.heap.size) (fun hh => absurd hh (by omega)))
                replace J12 := J13
                clear J13
                have B12 := N.out.kp.trans (put9_below (.int .i64 Y.id.1) (.int .i64 Y.id.2) (.int .i64 Y.bal) (.int .i64 Y.st) (.int .i64 Y.k) (.int .i64 Y.key) (.int .i64 Y.v) (.int .i64 Y.seq) (.slice va12 vn12 vc12) (N.out.elev _ rfl).2)
                have F13 := Lib.hid (hv0.out _ B12)
                refine hK.out _ _ (mkS.out _ B12) (fun hHeld2 => ?_)
                clear hK K hHeld B12
                have hHeld := hHeld2
                clear hHeld2
                try simp only [Act.put, List.setIfInBounds_toArray, List.set_cons_zero, List.set_cons_succ]
                refine wpAnyH_take (i := 13) (oi := ⟨some 12, _, _, _, _, _⟩) (v := ?_) rfl (by kernel_rfl) (by kernel_rfl) (by kernel_rfl) (fun _ _ _ h => h) (Or.inl ⟨by rfl, ?_⟩) (by assumption) ?_
                rotate_left 1
                · intro w hSw; (try dsimp only at hSw); go_simp; try (with_reducible rfl)
                try simp only [Act.put, List.setIfInBounds_toArray, List.set_cons_zero, List.set_cons_succ]
                refine wpAnyH_done (by kernel_rfl) ?_ _
                try simp only [Act.put, List.setIfInBounds_toArray, List.set_cons_zero, List.set_cons_succ]
                go_wp2_with fail
                go_meet
                exact ⟨V51.heap.size, va12, vn12, vc12, rfl, rfl, F12, J12, F13⟩
              refine AllReadyH.cons (o := ⟨some 11, _, _, _, _, _⟩) rfl (fun K hK => ?_) AllReadyH.nil
              go_simp
              replace N := Lib.hid N.out.box
              generalize V50.alloc (.cells #[.int .i64 0, .int .i64 0, .int .i64 0, .int .i64 0, .int .i64 0, .int .i64 0, .int .i64 0, .int .i64 0, .slice none 0 0] 29) = V63 at N ⊢
              refine hK.out _ _ (mkS.out _ N.out.kp) (fun hHeld2 => ?_)
              clear hK K hHeld
              have hHeld := hHeld2
              clear hHeld2
              try simp only [Act.put, List.setIfInBounds_toArray, List.set_cons_zero, List.set_cons_succ]
              refine wpAnyH_ready (rs := [3]) (by kernel_rfl) (by simp) ?_
              refine AllReadyH.cons (o := ⟨some 74, _, _, _, _, _⟩) rfl (fun K hK => ?_) AllReadyH.nil
              rw [if_pos (by rfl)]
              refine wp_append_atJ _ _ 30 rfl v0.heap.size 29 j0 (.agg #[.int .i64 0, .int .i64 0, .int .i64 0, .int .i64 0, .int .i64 0, .int .i64 0, .int .i64 0, .int .i64 0, .slice none 0 0]) 9 88 Tryd.underlying30 hj0 jz0 jz1 jz2 rfl (by decide) _ 0 [] rfl (N.out.row _ _ rfl).1 ⟨g, 0, none⟩ l vc (flatE (elr E U 0 l)) rfl (by rw [flatE_len, elr_len]) (src1.out _ N.out.kp) one1.out (by unfold maxLen; omega) (by omega) N.out.kp.size ?_
              intro v5 V64 hown5 hgrow5 hnil5 hat5
              replace N := Lib.hid (NnS.app (L2 := elr E U 0 l) N.out (elr_len E U 0 l) hown5 hgrow5 hnil5 hat5)
              clear hown5 hgrow5 hnil5 hat5
              refine hK.out _ _ (mkS.out _ N.out.kp) (fun hHeld2 => ?_)
              clear hK K hHeld
              have hHeld := hHeld2
              clear hHeld2
              try simp only [Act.put, List.setIfInBounds_toArray, List.set_cons_zero, List.set_cons_succ]
              refine wpAnyH_ready (rs := [6]) (by kernel_rfl) (by simp) ?_
              refine AllReadyH.cons (o := ⟨some 77, _, _, _, _, _⟩) rfl (fun K hK => ?_) AllReadyH.nil
              rw [if_pos (by rfl)]
              refine wp_append_atJ _ _ 30 rfl v0.heap.size 29 j0 (.agg #[.int .i64 0, .int .i64 0, .int .i64 0, .int .i64 0, .int .i64 0, .int .i64 0, .int .i64 0, .int .i64 0, .slice none 0 0]) 9 88 Tryd.underlying30 hj0 jz0 jz1 jz2 rfl (by decide) v5 ([] ++ elr E U 0 l).length (flatE ([] ++ elr E U 0 l)) rfl (N.out.row _ _ rfl).1 ⟨_, 0, none⟩ 1 1 (flatE [(Y, .slice va5 vn5 vc5)]) rfl rfl (nn_src (N.out.five _ rfl).1) (nine_oneE _ _ _ _ _ _ _ _ _ _ _) (by rw [hl1]; unfold maxLen; omega) (by rw [hl1]; omega) N.out.kp.size ?_
              intro v6 V65 hown5 hgrow5 hnil5 hat5
              replace N := Lib.hid (NnS.app (L2 := [(Y, .slice va5 vn5 vc5)]) N.out rfl hown5 hgrow5 hnil5 hat5)
              clear hown5 hgrow5 hnil5 hat5
              refine hK.out _ _ (mkS.out _ N.out.kp) (fun hHeld2 => ?_)
              clear hK K hHeld
              have hHeld := hHeld2
              clear hHeld2
              try simp only [Act.put, List.setIfInBounds_toArray, List.set_cons_zero, List.set_cons_succ]
              refine wpAnyH_ready (rs := [7]) (by kernel_rfl) (by simp) ?_
              refine AllReadyH.cons (o := ⟨some 78, _, _, _, _, _⟩) rfl (fun K hK => ?_) AllReadyH.nil
              have hx11 := lt_of_heap (N.out.elev _ rfl).1
              obtain ⟨v6g, v6c, hv6⟩ := nn_slice (N.out.row _ _ rfl).1 (N.out.row _ _ rfl).2.1
              rw [hl2] at hv6
              subst hv6
              go_simp
              have jx := ia _ _ N.out.kp (nn_ens hA.out (I5.out) N.out (by omega) (by omega))
              with_reducible refine jx.mono ?_
              rintro e V66 ⟨u12, rfl, O12, hb⟩
              obtain ⟨va12, vn12, vc12, rfl⟩ : ∃ ua un uc, u12 = .slice ua un uc := by obtain ⟨a, c, e, _⟩ := O12.read; exact ⟨a, _, c, e⟩
              go_wp2_with fail
              replace N := Lib.hid (N.out.low hb)
              have J12 := Lib.hid O12
              clear O12 jx hb
              refine hK.out _ _ (mkS.out _ N.out.kp) (fun hHeld2 => ?_)
              clear hK K hHeld
              have hHeld := hHeld2
              clear hHeld2
              try simp only [Act.put, List.setIfInBounds_toArray, List.set_cons_zero, List.set_cons_succ]
              refine wpAnyH_take (i := 8) (oi := ⟨some 70, _, _, _, _, _⟩) (v := ?_) rfl (by kernel_rfl) (by kernel_rfl) (by kernel_rfl) (fun _ _ _ h => h) (Or.inl ⟨by rfl, ?_⟩) (by assumption) ?_
              rotate_left 1
              · intro w hSw; (try dsimp only at hSw); go_simp; try (with_reducible rfl)
              try simp only [Act.put, List.setIfInBounds_toArray, List.set_cons_zero, List.set_cons_succ]
              refine wpAnyH_take (i := 9) (oi := ⟨some 79, _, _, _, _, _⟩) (v := ?_) rfl (by kernel_rfl) (by kernel_rfl) (by kernel_rfl) (fun _ _ _ h => h) (Or.inl ⟨by rfl, ?_⟩) (by assumption) ?_
              rotate_left 1
              · intro w hSw; (try dsimp only at hSw); go_simp; try (with_reducible rfl)
              try simp only [Act.put, List.setIfInBounds_toArray, List.set_cons_zero, List.set_cons_succ]
              refine wpAnyH_take (i := 10) (oi := ⟨some 80, _, _, _, _, _⟩) (v := ?_) rfl (by kernel_rfl) (by kernel_rfl) (by kernel_rfl) (fun _ _ _ h => h) (Or.inl ⟨by rfl, ?_⟩) (by assumption) ?_
              rotate_left 1
              · intro w hSw; (try dsimp only at hSw); go_simp; try (with_reducible rfl)
              try simp only [Act.put, List.setIfInBounds_toArray, List.set_cons_zero, List.set_cons_succ]
              refine wpAnyH_ready (rs := [12]) (by kernel_rfl) (by simp) ?_
              refine AllReadyH.cons (o := ⟨none, _, _, _, _, _⟩) rfl (fun K hK => ?_) AllReadyH.nil
              obtain ⟨⟨z0, z1, z2, z3, z4, z5, z6, z7, z8⟩, ⟨f0, f1, f2, f3, f4, f5, f6, f7, f8⟩, zl⟩ := nine_all (N.out.elev _ rfl).1
              go_simp
              have F12 := Lib.hid (put9_at (.int .i64 Y.id.1) (.int .i64 Y.id.2) (.int .i64 Y.bal) (.int .i64 Y.st) (.int .i64 Y.k) (.int .i64 Y.key) (.int .i64 Y.v) (.int .i64 Y.seq) (.slice va12 vn12 vc12) (N.out.elev _ rfl).1)
              have J13 := Lib.hid (nn_put9 (.int .i64 Y.id.1) (.int .i64 Y.id.2) (.int .i64 Y.bal) (.int .i64 Y.st) (.int .i64 Y.k) (.int .i64 Y.key) (.int .i64 Y.v) (.int .i64 Y.seq) (.slice va12 vn12 vc12) J12.out (xb := V50.heap.size) (fun hh => absurd hh (by omega)))
              replace J12 := J13
              clear J13
              have B12 := N.out.kp.trans (put9_below (.int .i64 Y.id.1) (.int .i64 Y.id.2) (.int .i64 Y.bal) (.int .i64 Y.st) (.int .i64 Y.k) (.int .i64 Y.key) (.int .i64 Y.v) (.int .i64 Y.seq) (.slice va12 vn12 vc12) (N.out.elev _ rfl).2)
              have F13 := Lib.hid (hv0.out _ B12)
              refine hK.out _ _ (mkS.out _ B12) (fun hHeld2 => ?_)
              clear hK K hHeld B12
              have hHeld := hHeld2
              clear hHeld2
              try simp only [Act.put, List.setIfInBounds_toArray, List.set_cons_zero, List.set_cons_succ]
              refine wpAnyH_take (i := 13) (oi := ⟨some 12, _, _, _, _, _⟩) (v := ?_) rfl (by kernel_rfl) (by kernel_rfl) (by kernel_rfl) (fun _ _ _ h => h) (Or.inl ⟨by rfl, ?_⟩) (by assumption) ?_
              rotate_left 1
              · intro w hSw; (try dsimp only at hSw); go_simp; try (with_reducible rfl)
              try simp only [Act.put, List.setIfInBounds_toArray, List.set_cons_zero, List.set_cons_succ]
              refine wpAnyH_done (by kernel_rfl) ?_ _
              try simp only [Act.put, List.setIfInBounds_toArray, List.set_cons_zero, List.set_cons_succ]
              go_wp2_with fail
              go_meet
              exact ⟨V50.heap.size, va12, vn12, vc12, rfl, rfl, F12, J12, F13⟩
            refine AllReadyH.cons (o := ⟨some 11, _, _, _, _, _⟩) rfl (fun K hK => ?_) AllReadyH.nil
            go_simp
            replace N := Lib.hid N.out.box
            generalize V49.alloc (.cells #[.int .i64 0, .int .i64 0, .int .i64 0, .int .i64 0, .int .i64 0, .int .i64 0, .int .i64 0, .int .i64 0, .slice none 0 0] 29) = V68 at N ⊢
            refine hK.out _ _ (mkS.out _ N.out.kp) (fun hHeld2 => ?_)
            clear hK K hHeld
            have hHeld := hHeld2
            clear hHeld2
            try simp only [Act.put, List.setIfInBounds_toArray, List.set_cons_zero, List.set_cons_succ]
            refine wpAnyH_ready (rs := [1]) (by kernel_rfl) (by simp) ?_
            refine AllReadyH.cons (o := ⟨some 72, _, _, _, _, _⟩) rfl (fun K hK => ?_) AllReadyH.nil
            go_simp
            replace N := Lib.hid N.out.list
            generalize V68.alloc (.cells #[] 29) = V69 at N ⊢
            refine hK.out _ _ (mkS.out _ N.out.kp) (fun hHeld2 => ?_)
            clear hK K hHeld
            have hHeld := hHeld2
            clear hHeld2
            try simp only [Act.put, List.setIfInBounds_toArray, List.set_cons_zero, List.set_cons_succ]
            refine wpAnyH_ready (rs := [3]) (by kernel_rfl) (by simp) ?_
            refine AllReadyH.cons (o := ⟨some 74, _, _, _, _, _⟩) rfl (fun K hK => ?_) AllReadyH.nil
            rw [if_pos (by rfl)]
            refine wp_append_atJ _ _ 30 rfl v0.heap.size 29 j0 (.agg #[.int .i64 0, .int .i64 0, .int .i64 0, .int .i64 0, .int .i64 0, .int .i64 0, .int .i64 0, .int .i64 0, .slice none 0 0]) 9 88 Tryd.underlying30 hj0 jz0 jz1 jz2 rfl (by decide) _ 0 [] rfl (N.out.row _ _ rfl).1 ⟨g, 0, none⟩ l vc (flatE (elr E U 0 l)) rfl (by rw [flatE_len, elr_len]) (src1.out _ N.out.kp) one1.out (by unfold maxLen; omega) (by omega) N.out.kp.size ?_
            intro v5 V70 hown5 hgrow5 hnil5 hat5
            replace N := Lib.hid (NnS.app (L2 := elr E U 0 l) N.out (elr_len E U 0 l) hown5 hgrow5 hnil5 hat5)
            clear hown5 hgrow5 hnil5 hat5
            refine hK.out _ _ (mkS.out _ N.out.kp) (fun hHeld2 => ?_)
            clear hK K hHeld
            have hHeld := hHeld2
            clear hHeld2
            try simp only [Act.put, List.setIfInBounds_toArray, List.set_cons_zero, List.set_cons_succ]
            refine wpAnyH_ready (rs := [6]) (by kernel_rfl) (by simp) ?_
            refine AllReadyH.cons (o := ⟨some 77, _, _, _, _, _⟩) rfl (fun K hK => ?_) AllReadyH.nil
            rw [if_pos (by rfl)]
            refine wp_append_atJ _ _ 30 rfl v0.heap.size 29 j0 (.agg #[.int .i64 0, .int .i64 0, .int .i64 0, .int .i64 0, .int .i64 0, .int .i64 0, .int .i64 0, .int .i64 0, .slice none 0 0]) 9 88 Tryd.underlying30 hj0 jz0 jz1 jz2 rfl (by decide) v5 ([] ++ elr E U 0 l).length (flatE ([] ++ elr E U 0 l)) rfl (N.out.row _ _ rfl).1 ⟨_, 0, none⟩ 1 1 (flatE [(Y, .slice va5 vn5 vc5)]) rfl rfl (nn_src (N.out.five _ rfl).1) (nine_oneE _ _ _ _ _ _ _ _ _ _ _) (by rw [hl1]; unfold maxLen; omega) (by rw [hl1]; omega) N.out.kp.size ?_
            intro v6 V71 hown5 hgrow5 hnil5 hat5
            replace N := Lib.hid (NnS.app (L2 := [(Y, .slice va5 vn5 vc5)]) N.out rfl hown5 hgrow5 hnil5 hat5)
            clear hown5 hgrow5 hnil5 hat5
            refine hK.out _ _ (mkS.out _ N.out.kp) (fun hHeld2 => ?_)
            clear hK K hHeld
            have hHeld := hHeld2
            clear hHeld2
            try simp only [Act.put, List.setIfInBounds_toArray, List.set_cons_zero, List.set_cons_succ]
            refine wpAnyH_ready (rs := [7]) (by kernel_rfl) (by simp) ?_
            refine AllReadyH.cons (o := ⟨some 78, _, _, _, _, _⟩) rfl (fun K hK => ?_) AllReadyH.nil
            have hx11 := lt_of_heap (N.out.elev _ rfl).1
            obtain ⟨v6g, v6c, hv6⟩ := nn_slice (N.out.row _ _ rfl).1 (N.out.row _ _ rfl).2.1
            rw [hl2] at hv6
            subst hv6
            go_simp
            have jx := ia _ _ N.out.kp (nn_ens hA.out (I5.out) N.out (by omega) (by omega))
            with_reducible refine jx.mono ?_
            rintro e V72 ⟨u12, rfl, O12, hb⟩
            obtain ⟨va12, vn12, vc12, rfl⟩ : ∃ ua un uc, u12 = .slice ua un uc := by obtain ⟨a, c, e, _⟩ := O12.read; exact ⟨a, _, c, e⟩
            go_wp2_with fail
            replace N := Lib.hid (N.out.low hb)
            have J12 := Lib.hid O12
            clear O12 jx hb
            refine hK.out _ _ (mkS.out _ N.out.kp) (fun hHeld2 => ?_)
            clear hK K hHeld
            have hHeld := hHeld2
            clear hHeld2
            try simp only [Act.put, List.setIfInBounds_toArray, List.set_cons_zero, List.set_cons_succ]
            refine wpAnyH_take (i := 8) (oi := ⟨some 70, _, _, _, _, _⟩) (v := ?_) rfl (by kernel_rfl) (by kernel_rfl) (by kernel_rfl) (fun _ _ _ h => h) (Or.inl ⟨by rfl, ?_⟩) (by assumption) ?_
            rotate_left 1
            · intro w hSw; (try dsimp only at hSw); go_simp; try (with_reducible rfl)
            try simp only [Act.put, List.setIfInBounds_toArray, List.set_cons_zero, List.set_cons_succ]
            refine wpAnyH_take (i := 9) (oi := ⟨some 79, _, _, _, _, _⟩) (v := ?_) rfl (by kernel_rfl) (by kernel_rfl) (by kernel_rfl) (fun _ _ _ h => h) (Or.inl ⟨by rfl, ?_⟩) (by assumption) ?_
            rotate_left 1
            · intro w hSw; (try dsimp only at hSw); go_simp; try (with_reducible rfl)
            try simp only [Act.put, List.setIfInBounds_toArray, List.set_cons_zero, List.set_cons_succ]
            refine wpAnyH_take (i := 10) (oi := ⟨some 80, _, _, _, _, _⟩) (v := ?_) rfl (by kernel_rfl) (by kernel_rfl) (by kernel_rfl) (fun _ _ _ h => h) (Or.inl ⟨by rfl, ?_⟩) (by assumption) ?_
            rotate_left 1
            · intro w hSw; (try dsimp only at hSw); go_simp; try (with_reducible rfl)
            try simp only [Act.put, List.setIfInBounds_toArray, List.set_cons_zero, List.set_cons_succ]
            refine wpAnyH_ready (rs := [12]) (by kernel_rfl) (by simp) ?_
            refine AllReadyH.cons (o := ⟨none, _, _, _, _, _⟩) rfl (fun K hK => ?_) AllReadyH.nil
            obtain ⟨⟨z0, z1, z2, z3, z4, z5, z6, z7, z8⟩, ⟨f0, f1, f2, f3, f4, f5, f6, f7, f8⟩, zl⟩ := nine_all (N.out.elev _ rfl).1
            go_simp
            have F12 := Lib.hid (put9_at (.int .i64 Y.id.1) (.int .i64 Y.id.2) (.int .i64 Y.bal) (.int .i64 Y.st) (.int .i64 Y.k) (.int .i64 Y.key) (.int .i64 Y.v) (.int .i64 Y.seq) (.slice va12 vn12 vc12) (N.out.elev _ rfl).1)
            have J13 := Lib.hid (nn_put9 (.int .i64 Y.id.1) (.int .i64 Y.id.2) (.int .i64 Y.bal) (.int .i64 Y.st) (.int .i64 Y.k) (.int .i64 Y.key) (.int .i64 Y.v) (.int .i64 Y.seq) (.slice va12 vn12 vc12) J12.out (xb := V49.heap.size) (fun hh => absurd hh (by omega)))
            replace J12 := J13
            clear J13
            have B12 := N.out.kp.trans (put9_below (.int .i64 Y.id.1) (.int .i64 Y.id.2) (.int .i64 Y.bal) (.int .i64 Y.st) (.int .i64 Y.k) (.int .i64 Y.key) (.int .i64 Y.v) (.int .i64 Y.seq) (.slice va12 vn12 vc12) (N.out.elev _ rfl).2)
            have F13 := Lib.hid (hv0.out _ B12)
            refine hK.out _ _ (mkS.out _ B12) (fun hHeld2 => ?_)
            clear hK K hHeld B12
            have hHeld := hHeld2
            clear hHeld2
            try simp only [Act.put, List.setIfInBounds_toArray, List.set_cons_zero, List.set_cons_succ]
            refine wpAnyH_take (i := 13) (oi := ⟨some 12, _, _, _, _, _⟩) (v := ?_) rfl (by kernel_rfl) (by kernel_rfl) (by kernel_rfl) (fun _ _ _ h => h) (Or.inl ⟨by rfl, ?_⟩) (by assumption) ?_
            rotate_left 1
            · intro w hSw; (try dsimp only at hSw); go_simp; try (with_reducible rfl)
            try simp only [Act.put, List.setIfInBounds_toArray, List.set_cons_zero, List.set_cons_succ]
            refine wpAnyH_done (by kernel_rfl) ?_ _
            try simp only [Act.put, List.setIfInBounds_toArray, List.set_cons_zero, List.set_cons_succ]
            go_wp2_with fail
            go_meet
            exact ⟨V49.heap.size, va12, vn12, vc12, rfl, rfl, F12, J12, F13⟩
          refine AllReadyH.cons (o := ⟨some 11, _, _, _, _, _⟩) rfl (fun K hK => ?_) AllReadyH.nil
          go_simp
          replace N := Lib.hid N.out.box
          generalize v0.alloc (.cells #[.int .i64 0, .int .i64 0, .int .i64 0, .int .i64 0, .int .i64 0, .int .i64 0, .int .i64 0, .int .i64 0, .slice none 0 0] 29) = V74 at N ⊢
          refine hK.out _ _ (mkS.out _ N.out.kp) (fun hHeld2 => ?_)
          clear hK K hHeld
          have hHeld := hHeld2
          clear hHeld2
          try simp only [Act.put, List.setIfInBounds_toArray, List.set_cons_zero, List.set_cons_succ]
          refine wpAnyH_ready (rs := [1, 5]) (by kernel_rfl) (by simp) ?_
          refine AllReadyH.cons (o := ⟨some 72, _, _, _, _, _⟩) rfl (fun K hK => ?_) ?_
          · go_simp
            replace N := Lib.hid N.out.list
            generalize V74.alloc (.cells #[] 29) = V75 at N ⊢
            refine hK.out _ _ (mkS.out _ N.out.kp) (fun hHeld2 => ?_)
            clear hK K hHeld
            have hHeld := hHeld2
            clear hHeld2
            try simp only [Act.put, List.setIfInBounds_toArray, List.set_cons_zero, List.set_cons_succ]
            refine wpAnyH_ready (rs := [3, 5]) (by kernel_rfl) (by simp) ?_
            refine AllReadyH.cons (o := ⟨some 74, _, _, _, _, _⟩) rfl (fun K hK => ?_) ?_
            · rw [if_pos (by rfl)]
              refine wp_append_atJ _ _ 30 rfl v0.heap.size 29 j0 (.agg #[.int .i64 0, .int .i64 0, .int .i64 0, .int .i64 0, .int .i64 0, .int .i64 0, .int .i64 0, .int .i64 0, .slice none 0 0]) 9 88 Tryd.underlying30 hj0 jz0 jz1 jz2 rfl (by decide) _ 0 [] rfl (N.out.row _ _ rfl).1 ⟨g, 0, none⟩ l vc (flatE (elr E U 0 l)) rfl (by rw [flatE_len, elr_len]) (src1.out _ N.out.kp) one1.out (by unfold maxLen; omega) (by omega) N.out.kp.size ?_
              intro v5 V76 hown5 hgrow5 hnil5 hat5
              replace N := Lib.hid (NnS.app (L2 := elr E U 0 l) N.out (elr_len E U 0 l) hown5 hgrow5 hnil5 hat5)
              clear hown5 hgrow5 hnil5 hat5
              refine hK.out _ _ (mkS.out _ N.out.kp) (fun hHeld2 => ?_)
              clear hK K hHeld
              have hHeld := hHeld2
              clear hHeld2
              try simp only [Act.put, List.setIfInBounds_toArray, List.set_cons_zero, List.set_cons_succ]
              refine wpAnyH_ready (rs := [5]) (by kernel_rfl) (by simp) ?_
              refine AllReadyH.cons (o := ⟨some 76, _, _, _, _, _⟩) rfl (fun K hK => ?_) AllReadyH.nil
              go_simp
              replace N := Lib.hid N.out.copy
              generalize V76.alloc (.cells #[.int .i64 Y.id.1, .int .i64 Y.id.2, .int .i64 Y.bal, .int .i64 Y.st, .int .i64 Y.k, .int .i64 Y.key, .int .i64 Y.v, .int .i64 Y.seq, .slice va5 vn5 vc5] 29) = V77 at N ⊢
              refine hK.out _ _ (mkS.out _ N.out.kp) (fun hHeld2 => ?_)
              clear hK K hHeld
              have hHeld := hHeld2
              clear hHeld2
              try simp only [Act.put, List.setIfInBounds_toArray, List.set_cons_zero, List.set_cons_succ]
              refine wpAnyH_ready (rs := [6]) (by kernel_rfl) (by simp) ?_
              refine AllReadyH.cons (o := ⟨some 77, _, _, _, _, _⟩) rfl (fun K hK => ?_) AllReadyH.nil
              rw [if_pos (by rfl)]
              refine wp_append_atJ _ _ 30 rfl v0.heap.size 29 j0 (.agg #[.int .i64 0, .int .i64 0, .int .i64 0, .int .i64 0, .int .i64 0, .int .i64 0, .int .i64 0, .int .i64 0, .slice none 0 0]) 9 88 Tryd.underlying30 hj0 jz0 jz1 jz2 rfl (by decide) v5 ([] ++ elr E U 0 l).length (flatE ([] ++ elr E U 0 l)) rfl (N.out.row _ _ rfl).1 ⟨_, 0, none⟩ 1 1 (flatE [(Y, .slice va5 vn5 vc5)]) rfl rfl (nn_src (N.out.five _ rfl).1) (nine_oneE _ _ _ _ _ _ _ _ _ _ _) (by rw [hl1]; unfold maxLen; omega) (by rw [hl1]; omega) N.out.kp.size ?_
              intro v6 V78 hown5 hgrow5 hnil5 hat5
              replace N := Lib.hid (NnS.app (L2 := [(Y, .slice va5 vn5 vc5)]) N.out rfl hown5 hgrow5 hnil5 hat5)
              clear hown5 hgrow5 hnil5 hat5
              refine hK.out _ _ (mkS.out _ N.out.kp) (fun hHeld2 => ?_)
              clear hK K hHeld
              have hHeld := hHeld2
              clear hHeld2
              try simp only [Act.put, List.setIfInBounds_toArray, List.set_cons_zero, List.set_cons_succ]
              refine wpAnyH_ready (rs := [7]) (by kernel_rfl) (by simp) ?_
              refine AllReadyH.cons (o := ⟨some 78, _, _, _, _, _⟩) rfl (fun K hK => ?_) AllReadyH.nil
              have hx11 := lt_of_heap (N.out.elev _ rfl).1
              obtain ⟨v6g, v6c, hv6⟩ := nn_slice (N.out.row _ _ rfl).1 (N.out.row _ _ rfl).2.1
              rw [hl2] at hv6
              subst hv6
              go_simp
              have jx := ia _ _ N.out.kp (nn_ens hA.out (I5.out) N.out (by omega) (by omega))
              with_reducible refine jx.mono ?_
              rintro e V79 ⟨u12, rfl, O12, hb⟩
              obtain ⟨va12, vn12, vc12, rfl⟩ : ∃ ua un uc, u12 = .slice ua un uc := by obtain ⟨a, c, e, _⟩ := O12.read; exact ⟨a, _, c, e⟩
              go_wp2_with fail
              replace N := Lib.hid (N.out.low hb)
              have J12 := Lib.hid O12
              clear O12 jx hb
              refine hK.out _ _ (mkS.out _ N.out.kp) (fun hHeld2 => ?_)
              clear hK K hHeld
              have hHeld := hHeld2
              clear hHeld2
              try simp only [Act.put, List.setIfInBounds_toArray, List.set_cons_zero, List.set_cons_succ]
              refine wpAnyH_take (i := 8) (oi := ⟨some 70, _, _, _, _, _⟩) (v := ?_) rfl (by kernel_rfl) (by kernel_rfl) (by kernel_rfl) (fun _ _ _ h => h) (Or.inl ⟨by rfl, ?_⟩) (by assumption) ?_
              rotate_left 1
              · intro w hSw; (try dsimp only at hSw); go_simp; try (with_reducible rfl)
              try simp only [Act.put, List.setIfInBounds_toArray, List.set_cons_zero, List.set_cons_succ]
              refine wpAnyH_take (i := 9) (oi := ⟨some 79, _, _, _, _, _⟩) (v := ?_) rfl (by kernel_rfl) (by kernel_rfl) (by kernel_rfl) (fun _ _ _ h => h) (Or.inl ⟨by rfl, ?_⟩) (by assumption) ?_
              rotate_left 1
              · intro w hSw; (try dsimp only at hSw); go_simp; try (with_reducible rfl)
              try simp only [Act.put, List.setIfInBounds_toArray, List.set_cons_zero, List.set_cons_succ]
              refine wpAnyH_take (i := 10) (oi := ⟨some 80, _, _, _, _, _⟩) (v := ?_) rfl (by kernel_rfl) (by kernel_rfl) (by kernel_rfl) (fun _ _ _ h => h) (Or.inl ⟨by rfl, ?_⟩) (by assumption) ?_
              rotate_left 1
              · intro w hSw; (try dsimp only at hSw); go_simp; try (with_reducible rfl)
              try simp only [Act.put, List.setIfInBounds_toArray, List.set_cons_zero, List.set_cons_succ]
              refine wpAnyH_ready (rs := [12]) (by kernel_rfl) (by simp) ?_
              refine AllReadyH.cons (o := ⟨none, _, _, _, _, _⟩) rfl (fun K hK => ?_) AllReadyH.nil
              obtain ⟨⟨z0, z1, z2, z3, z4, z5, z6, z7, z8⟩, ⟨f0, f1, f2, f3, f4, f5, f6, f7, f8⟩, zl⟩ := nine_all (N.out.elev _ rfl).1
              go_simp
              have F12 := Lib.hid (put9_at (.int .i64 Y.id.1) (.int .i64 Y.id.2) (.int .i64 Y.bal) (.int .i64 Y.st) (.int .i64 Y.k) (.int .i64 Y.key) (.int .i64 Y.v) (.int .i64 Y.seq) (.slice va12 vn12 vc12) (N.out.elev _ rfl).1)
              have J13 := Lib.hid (nn_put9 (.int .i64 Y.id.1) (.int .i64 Y.id.2) (.int .i64 Y.bal) (.int .i64 Y.st) (.int .i64 Y.k) (.int .i64 Y.key) (.int .i64 Y.v) (.int .i64 Y.seq) (.slice va12 vn12 vc12) J12.out (xb := v0.heap.size) (fun hh => absurd hh (by omega)))
              replace J12 := J13
              clear J13
              have B12 := N.out.kp.trans (put9_below (.int .i64 Y.id.1) (.int .i64 Y.id.2) (.int .i64 Y.bal) (.int .i64 Y.st) (.int .i64 Y.k) (.int .i64 Y.key) (.int .i64 Y.v) (.int .i64 Y.seq) (.slice va12 vn12 vc12) (N.out.elev _ rfl).2)
              have F13 := Lib.hid (hv0.out _ B12)
              refine hK.out _ _ (mkS.out _ B12) (fun hHeld2 => ?_)
              clear hK K hHeld B12
              have hHeld := hHeld2
              clear hHeld2
              try simp only [Act.put, List.setIfInBounds_toArray, List.set_cons_zero, List.set_cons_succ]
              refine wpAnyH_take (i := 13) (oi := ⟨some 12, _, _, _, _, _⟩) (v := ?_) rfl (by kernel_rfl) (by kernel_rfl) (by kernel_rfl) (fun _ _ _ h => h) (Or.inl ⟨by rfl, ?_⟩) (by assumption) ?_
              rotate_left 1
              · intro w hSw; (try dsimp only at hSw); go_simp; try (with_reducible rfl)
              try simp only [Act.put, List.setIfInBounds_toArray, List.set_cons_zero, List.set_cons_succ]
              refine wpAnyH_done (by kernel_rfl) ?_ _
              try simp only [Act.put, List.setIfInBounds_toArray, List.set_cons_zero, List.set_cons_succ]
              go_wp2_with fail
              go_meet
              exact ⟨v0.heap.size, va12, vn12, vc12, rfl, rfl, F12, J12, F13⟩
            refine AllReadyH.cons (o := ⟨some 76, _, _, _, _, _⟩) rfl (fun K hK => ?_) AllReadyH.nil
            go_simp
            replace N := Lib.hid N.out.copy
            generalize V75.alloc (.cells #[.int .i64 Y.id.1, .int .i64 Y.id.2, .int .i64 Y.bal, .int .i64 Y.st, .int .i64 Y.k, .int .i64 Y.key, .int .i64 Y.v, .int .i64 Y.seq, .slice va5 vn5 vc5] 29) = V81 at N ⊢
            refine hK.out _ _ (mkS.out _ N.out.kp) (fun hHeld2 => ?_)
            clear hK K hHeld
            have hHeld := hHeld2
            clear hHeld2
            try simp only [Act.put, List.setIfInBounds_toArray, List.set_cons_zero, List.set_cons_succ]
            refine wpAnyH_ready (rs := [3]) (by kernel_rfl) (by simp) ?_
            refine AllReadyH.cons (o := ⟨some 74, _, _, _, _, _⟩) rfl (fun K hK => ?_) AllReadyH.nil
            rw [if_pos (by rfl)]
            refine wp_append_atJ _ _ 30 rfl v0.heap.size 29 j0 (.agg #[.int .i64 0, .int .i64 0, .int .i64 0, .int .i64 0, .int .i64 0, .int .i64 0, .int .i64 0, .int .i64 0, .slice none 0 0]) 9 88 Tryd.underlying30 hj0 jz0 jz1 jz2 rfl (by decide) _ 0 [] rfl (N.out.row _ _ rfl).1 ⟨g, 0, none⟩ l vc (flatE (elr E U 0 l)) rfl (by rw [flatE_len, elr_len]) (src1.out _ N.out.kp) one1.out (by unfold maxLen; omega) (by omega) N.out.kp.size ?_
            intro v5 V82 hown5 hgrow5 hnil5 hat5
            replace N := Lib.hid (NnS.app (L2 := elr E U 0 l) N.out (elr_len E U 0 l) hown5 hgrow5 hnil5 hat5)
            clear hown5 hgrow5 hnil5 hat5
            refine hK.out _ _ (mkS.out _ N.out.kp) (fun hHeld2 => ?_)
            clear hK K hHeld
            have hHeld := hHeld2
            clear hHeld2
            try simp only [Act.put, List.setIfInBounds_toArray, List.set_cons_zero, List.set_cons_succ]
            refine wpAnyH_ready (rs := [6]) (by kernel_rfl) (by simp) ?_
            refine AllReadyH.cons (o := ⟨some 77, _, _, _, _, _⟩) rfl (fun K hK => ?_) AllReadyH.nil
            rw [if_pos (by rfl)]
            refine wp_append_atJ _ _ 30 rfl v0.heap.size 29 j0 (.agg #[.int .i64 0, .int .i64 0, .int .i64 0, .int .i64 0, .int .i64 0, .int .i64 0, .int .i64 0, .int .i64 0, .slice none 0 0]) 9 88 Tryd.underlying30 hj0 jz0 jz1 jz2 rfl (by decide) v5 ([] ++ elr E U 0 l).length (flatE ([] ++ elr E U 0 l)) rfl (N.out.row _ _ rfl).1 ⟨_, 0, none⟩ 1 1 (flatE [(Y, .slice va5 vn5 vc5)]) rfl rfl (nn_src (N.out.five _ rfl).1) (nine_oneE _ _ _ _ _ _ _ _ _ _ _) (by rw [hl1]; unfold maxLen; omega) (by rw [hl1]; omega) N.out.kp.size ?_
            intro v6 V83 hown5 hgrow5 hnil5 hat5
            replace N := Lib.hid (NnS.app (L2 := [(Y, .slice va5 vn5 vc5)]) N.out rfl hown5 hgrow5 hnil5 hat5)
            clear hown5 hgrow5 hnil5 hat5
            refine hK.out _ _ (mkS.out _ N.out.kp) (fun hHeld2 => ?_)
            clear hK K hHeld
            have hHeld := hHeld2
            clear hHeld2
            try simp only [Act.put, List.setIfInBounds_toArray, List.set_cons_zero, List.set_cons_succ]
            refine wpAnyH_ready (rs := [7]) (by kernel_rfl) (by simp) ?_
            refine AllReadyH.cons (o := ⟨some 78, _, _, _, _, _⟩) rfl (fun K hK => ?_) AllReadyH.nil
            have hx11 := lt_of_heap (N.out.elev _ rfl).1
            obtain ⟨v6g, v6c, hv6⟩ := nn_slice (N.out.row _ _ rfl).1 (N.out.row _ _ rfl).2.1
            rw [hl2] at hv6
            subst hv6
            go_simp
            have jx := ia _ _ N.out.kp (nn_ens hA.out (I5.out) N.out (by omega) (by omega))
            with_reducible refine jx.mono ?_
            rintro e V84 ⟨u12, rfl, O12, hb⟩
            obtain ⟨va12, vn12, vc12, rfl⟩ : ∃ ua un uc, u12 = .slice ua un uc := by obtain ⟨a, c, e, _⟩ := O12.read; exact ⟨a, _, c, e⟩
            go_wp2_with fail
            replace N := Lib.hid (N.out.low hb)
            have J12 := Lib.hid O12
            clear O12 jx hb
            refine hK.out _ _ (mkS.out _ N.out.kp) (fun hHeld2 => ?_)
            clear hK K hHeld
            have hHeld := hHeld2
            clear hHeld2
            try simp only [Act.put, List.setIfInBounds_toArray, List.set_cons_zero, List.set_cons_succ]
            refine wpAnyH_take (i := 8) (oi := ⟨some 70, _, _, _, _, _⟩) (v := ?_) rfl (by kernel_rfl) (by kernel_rfl) (by kernel_rfl) (fun _ _ _ h => h) (Or.inl ⟨by rfl, ?_⟩) (by assumption) ?_
            rotate_left 1
            · intro w hSw; (try dsimp only at hSw); go_simp; try (with_reducible rfl)
            try simp only [Act.put, List.setIfInBounds_toArray, List.set_cons_zero, List.set_cons_succ]
            refine wpAnyH_take (i := 9) (oi := ⟨some 79, _, _, _, _, _⟩) (v := ?_) rfl (by kernel_rfl) (by kernel_rfl) (by kernel_rfl) (fun _ _ _ h => h) (Or.inl ⟨by rfl, ?_⟩) (by assumption) ?_
            rotate_left 1
            · intro w hSw; (try dsimp only at hSw); go_simp; try (with_reducible rfl)
            try simp only [Act.put, List.setIfInBounds_toArray, List.set_cons_zero, List.set_cons_succ]
            refine wpAnyH_take (i := 10) (oi := ⟨some 80, _, _, _, _, _⟩) (v := ?_) rfl (by kernel_rfl) (by kernel_rfl) (by kernel_rfl) (fun _ _ _ h => h) (Or.inl ⟨by rfl, ?_⟩) (by assumption) ?_
            rotate_left 1
            · intro w hSw; (try dsimp only at hSw); go_simp; try (with_reducible rfl)
            try simp only [Act.put, List.setIfInBounds_toArray, List.set_cons_zero, List.set_cons_succ]
            refine wpAnyH_ready (rs := [12]) (by kernel_rfl) (by simp) ?_
            refine AllReadyH.cons (o := ⟨none, _, _, _, _, _⟩) rfl (fun K hK => ?_) AllReadyH.nil
            obtain ⟨⟨z0, z1, z2, z3, z4, z5, z6, z7, z8⟩, ⟨f0, f1, f2, f3, f4, f5, f6, f7, f8⟩, zl⟩ := nine_all (N.out.elev _ rfl).1
            go_simp
            have F12 := Lib.hid (put9_at (.int .i64 Y.id.1) (.int .i64 Y.id.2) (.int .i64 Y.bal) (.int .i64 Y.st) (.int .i64 Y.k) (.int .i64 Y.key) (.int .i64 Y.v) (.int .i64 Y.seq) (.slice va12 vn12 vc12) (N.out.elev _ rfl).1)
            have J13 := Lib.hid (nn_put9 (.int .i64 Y.id.1) (.int .i64 Y.id.2) (.int .i64 Y.bal) (.int .i64 Y.st) (.int .i64 Y.k) (.int .i64 Y.key) (.int .i64 Y.v) (.int .i64 Y.seq) (.slice va12 vn12 vc12) J12.out (xb := v0.heap.size) (fun hh => absurd hh (by omega)))
            replace J12 := J13
            clear J13
            have B12 := N.out.kp.trans (put9_below (.int .i64 Y.id.1) (.int .i64 Y.id.2) (.int .i64 Y.bal) (.int .i64 Y.st) (.int .i64 Y.k) (.int .i64 Y.key) (.int .i64 Y.v) (.int .i64 Y.seq) (.slice va12 vn12 vc12) (N.out.elev _ rfl).2)
            have F13 := Lib.hid (hv0.out _ B12)
            refine hK.out _ _ (mkS.out _ B12) (fun hHeld2 => ?_)
            clear hK K hHeld B12
            have hHeld := hHeld2
            clear hHeld2
            try simp only [Act.put, List.setIfInBounds_toArray, List.set_cons_zero, List.set_cons_succ]
            refine wpAnyH_take (i := 13) (oi := ⟨some 12, _, _, _, _, _⟩) (v := ?_) rfl (by kernel_rfl) (by kernel_rfl) (by kernel_rfl) (fun _ _ _ h => h) (Or.inl ⟨by rfl, ?_⟩) (by assumption) ?_
            rotate_left 1
            · intro w hSw; (try dsimp only at hSw); go_simp; try (with_reducible rfl)
            try simp only [Act.put, List.setIfInBounds_toArray, List.set_cons_zero, List.set_cons_succ]
            refine wpAnyH_done (by kernel_rfl) ?_ _
            try simp only [Act.put, List.setIfInBounds_toArray, List.set_cons_zero, List.set_cons_succ]
            go_wp2_with fail
            go_meet
            exact ⟨v0.heap.size, va12, vn12, vc12, rfl, rfl, F12, J12, F13⟩
          refine AllReadyH.cons (o := ⟨some 76, _, _, _, _, _⟩) rfl (fun K hK => ?_) AllReadyH.nil
          go_simp
          replace N := Lib.hid N.out.copy
          generalize V74.alloc (.cells #[.int .i64 Y.id.1, .int .i64 Y.id.2, .int .i64 Y.bal, .int .i64 Y.st, .int .i64 Y.k, .int .i64 Y.key, .int .i64 Y.v, .int .i64 Y.seq, .slice va5 vn5 vc5] 29) = V86 at N ⊢
          refine hK.out _ _ (mkS.out _ N.out.kp) (fun hHeld2 => ?_)
          clear hK K hHeld
          have hHeld := hHeld2
          clear hHeld2
          try simp only [Act.put, List.setIfInBounds_toArray, List.set_cons_zero, List.set_cons_succ]
          refine wpAnyH_ready (rs := [1]) (by kernel_rfl) (by simp) ?_
          refine AllReadyH.cons (o := ⟨some 72, _, _, _, _, _⟩) rfl (fun K hK => ?_) AllReadyH.nil
          go_simp
          replace N := Lib.hid N.out.list
          generalize V86.alloc (.cells #[] 29) = V87 at N ⊢
          refine hK.out _ _ (mkS.out _ N.out.kp) (fun hHeld2 => ?_)
          clear hK K hHeld
          have hHeld := hHeld2
          clear hHeld2
          try simp only [Act.put, List.setIfInBounds_toArray, List.set_cons_zero, List.set_cons_succ]
          refine wpAnyH_ready (rs := [3]) (by kernel_rfl) (by simp) ?_
          refine AllReadyH.cons (o := ⟨some 74, _, _, _, _, _⟩) rfl (fun K hK => ?_) AllReadyH.nil
          rw [if_pos (by rfl)]
          refine wp_append_atJ _ _ 30 rfl v0.heap.size 29 j0 (.agg #[.int .i64 0, .int .i64 0, .int .i64 0, .int .i64 0, .int .i64 0, .int .i64 0, .int .i64 0, .int .i64 0, .slice none 0 0]) 9 88 Tryd.underlying30 hj0 jz0 jz1 jz2 rfl (by decide) _ 0 [] rfl (N.out.row _ _ rfl).1 ⟨g, 0, none⟩ l vc (flatE (elr E U 0 l)) rfl (by rw [flatE_len, elr_len]) (src1.out _ N.out.kp) one1.out (by unfold maxLen; omega) (by omega) N.out.kp.size ?_
          intro v5 V88 hown5 hgrow5 hnil5 hat5
          replace N := Lib.hid (NnS.app (L2 := elr E U 0 l) N.out (elr_len E U 0 l) hown5 hgrow5 hnil5 hat5)
          clear hown5 hgrow5 hnil5 hat5
          refine hK.out _ _ (mkS.out _ N.out.kp) (fun hHeld2 => ?_)
          clear hK K hHeld
          have hHeld := hHeld2
          clear hHeld2
          try simp only [Act.put, List.setIfInBounds_toArray, List.set_cons_zero, List.set_cons_succ]
          refine wpAnyH_ready (rs := [6]) (by kernel_rfl) (by simp) ?_
          refine AllReadyH.cons (o := ⟨some 77, _, _, _, _, _⟩) rfl (fun K hK => ?_) AllReadyH.nil
          rw [if_pos (by rfl)]
          refine wp_append_atJ _ _ 30 rfl v0.heap.size 29 j0 (.agg #[.int .i64 0, .int .i64 0, .int .i64 0, .int .i64 0, .int .i64 0, .int .i64 0, .int .i64 0, .int .i64 0, .slice none 0 0]) 9 88 Tryd.underlying30 hj0 jz0 jz1 jz2 rfl (by decide) v5 ([] ++ elr E U 0 l).length (flatE ([] ++ elr E U 0 l)) rfl (N.out.row _ _ rfl).1 ⟨_, 0, none⟩ 1 1 (flatE [(Y, .slice va5 vn5 vc5)]) rfl rfl (nn_src (N.out.five _ rfl).1) (nine_oneE _ _ _ _ _ _ _ _ _ _ _) (by rw [hl1]; unfold maxLen; omega) (by rw [hl1]; omega) N.out.kp.size ?_
          intro v6 V89 hown5 hgrow5 hnil5 hat5
          replace N := Lib.hid (NnS.app (L2 := [(Y, .slice va5 vn5 vc5)]) N.out rfl hown5 hgrow5 hnil5 hat5)
          clear hown5 hgrow5 hnil5 hat5
          refine hK.out _ _ (mkS.out _ N.out.kp) (fun hHeld2 => ?_)
          clear hK K hHeld
          have hHeld := hHeld2
          clear hHeld2
          try simp only [Act.put, List.setIfInBounds_toArray, List.set_cons_zero, List.set_cons_succ]
          refine wpAnyH_ready (rs := [7]) (by kernel_rfl) (by simp) ?_
          refine AllReadyH.cons (o := ⟨some 78, _, _, _, _, _⟩) rfl (fun K hK => ?_) AllReadyH.nil
          have hx11 := lt_of_heap (N.out.elev _ rfl).1
          obtain ⟨v6g, v6c, hv6⟩ := nn_slice (N.out.row _ _ rfl).1 (N.out.row _ _ rfl).2.1
          rw [hl2] at hv6
          subst hv6
          go_simp
          have jx := ia _ _ N.out.kp (nn_ens hA.out (I5.out) N.out (by omega) (by omega))
          with_reducible refine jx.mono ?_
          rintro e V90 ⟨u12, rfl, O12, hb⟩
          obtain ⟨va12, vn12, vc12, rfl⟩ : ∃ ua un uc, u12 = .slice ua un uc := by obtain ⟨a, c, e, _⟩ := O12.read; exact ⟨a, _, c, e⟩
          go_wp2_with fail
          replace N := Lib.hid (N.out.low hb)
          have J12 := Lib.hid O12
          clear O12 jx hb
          refine hK.out _ _ (mkS.out _ N.out.kp) (fun hHeld2 => ?_)
          clear hK K hHeld
          have hHeld := hHeld2
          clear hHeld2
          try simp only [Act.put, List.setIfInBounds_toArray, List.set_cons_zero, List.set_cons_succ]
          refine wpAnyH_take (i := 8) (oi := ⟨some 70, _, _, _, _, _⟩) (v := ?_) rfl (by kernel_rfl) (by kernel_rfl) (by kernel_rfl) (fun _ _ _ h => h) (Or.inl ⟨by rfl, ?_⟩) (by assumption) ?_
          rotate_left 1
          · intro w hSw; (try dsimp only at hSw); go_simp; try (with_reducible rfl)
          try simp only [Act.put, List.setIfInBounds_toArray, List.set_cons_zero, List.set_cons_succ]
          refine wpAnyH_take (i := 9) (oi := ⟨some 79, _, _, _, _, _⟩) (v := ?_) rfl (by kernel_rfl) (by kernel_rfl) (by kernel_rfl) (fun _ _ _ h => h) (Or.inl ⟨by rfl, ?_⟩) (by assumption) ?_
          rotate_left 1
          · intro w hSw; (try dsimp only at hSw); go_simp; try (with_reducible rfl)
          try simp only [Act.put, List.setIfInBounds_toArray, List.set_cons_zero, List.set_cons_succ]
          refine wpAnyH_take (i := 10) (oi := ⟨some 80, _, _, _, _, _⟩) (v := ?_) rfl (by kernel_rfl) (by kernel_rfl) (by kernel_rfl) (fun _ _ _ h => h) (Or.inl ⟨by rfl, ?_⟩) (by assumption) ?_
          rotate_left 1
          · intro w hSw; (try dsimp only at hSw); go_simp; try (with_reducible rfl)
          try simp only [Act.put, List.setIfInBounds_toArray, List.set_cons_zero, List.set_cons_succ]
          refine wpAnyH_ready (rs := [12]) (by kernel_rfl) (by simp) ?_
          refine AllReadyH.cons (o := ⟨none, _, _, _, _, _⟩) rfl (fun K hK => ?_) AllReadyH.nil
          obtain ⟨⟨z0, z1, z2, z3, z4, z5, z6, z7, z8⟩, ⟨f0, f1, f2, f3, f4, f5, f6, f7, f8⟩, zl⟩ := nine_all (N.out.elev _ rfl).1
          go_simp
          have F12 := Lib.hid (put9_at (.int .i64 Y.id.1) (.int .i64 Y.id.2) (.int .i64 Y.bal) (.int .i64 Y.st) (.int .i64 Y.k) (.int .i64 Y.key) (.int .i64 Y.v) (.int .i64 Y.seq) (.slice va12 vn12 vc12) (N.out.elev _ rfl).1)
          have J13 := Lib.hid (nn_put9 (.int .i64 Y.id.1) (.int .i64 Y.id.2) (.int .i64 Y.bal) (.int .i64 Y.st) (.int .i64 Y.k) (.int .i64 Y.key) (.int .i64 Y.v) (.int .i64 Y.seq) (.slice va12 vn12 vc12) J12.out (xb := v0.heap.size) (fun hh => absurd hh (by omega)))
          replace J12 := J13
          clear J13
          have B12 := N.out.kp.trans (put9_below (.int .i64 Y.id.1) (.int .i64 Y.id.2) (.int .i64 Y.bal) (.int .i64 Y.st) (.int .i64 Y.k) (.int .i64 Y.key) (.int .i64 Y.v) (.int .i64 Y.seq) (.slice va12 vn12 vc12) (N.out.elev _ rfl).2)
          have F13 := Lib.hid (hv0.out _ B12)
          refine hK.out _ _ (mkS.out _ B12) (fun hHeld2 => ?_)
          clear hK K hHeld B12
          have hHeld := hHeld2
          clear hHeld2
          try simp only [Act.put, List.setIfInBounds_toArray, List.set_cons_zero, List.set_cons_succ]
          refine wpAnyH_take (i := 13) (oi := ⟨some 12, _, _, _, _, _⟩) (v := ?_) rfl (by kernel_rfl) (by kernel_rfl) (by kernel_rfl) (fun _ _ _ h => h) (Or.inl ⟨by rfl, ?_⟩) (by assumption) ?_
          rotate_left 1
          · intro w hSw; (try dsimp only at hSw); go_simp; try (with_reducible rfl)
          try simp only [Act.put, List.setIfInBounds_toArray, List.set_cons_zero, List.set_cons_succ]
          refine wpAnyH_done (by kernel_rfl) ?_ _
          try simp only [Act.put, List.setIfInBounds_toArray, List.set_cons_zero, List.set_cons_succ]
          go_wp2_with fail
          go_meet
          exact ⟨v0.heap.size, va12, vn12, vc12, rfl, rfl, F12, J12, F13⟩
        case rest =>
          obtain ⟨xb11, va12, vn12, vc12, rfl, rfl, G11, J11, B11⟩ := hcut
          have A11 := Lib.hid (bblk B11.out (lt_of_heap A9.out) A9.out)
          have G9b := Lib.hid (bblk B11.out (lt_of_heap G9.out) G9.out)
          have G5c := Lib.hid (bblk B11.out (lt_of_heap G5b.out) G5b.out)
          have I5c := Lib.hid (I5b.out.up B11.out (Nat.le_refl _))
          have D11 := Lib.hid (bstep D9.out B11.out)
          clear A9 G9 G5b I5b D9 EAb T9 hmo2
          obtain ⟨⟨y0, y1, y2, y3, y4, y5, y6, y7, y8⟩, _, yl⟩ := nine_all A11.out
          obtain ⟨⟨z0, z1, z2, z3, z4, z5, z6, z7, z8⟩, _, zl⟩ := nine_all G9b.out
          go_wp2_with fail
          refine (so _ B11.out).mono ?_
          rintro e w12 ⟨rfl, B⟩
          have G12 := Lib.hid (bblk B (lt_of_heap G11.out) G11.out)
          have G5d := Lib.hid (bblk B (lt_of_heap G5c.out) G5c.out)
          have J12 := Lib.hid (J11.out.up B (Nat.le_refl _))
          have I12 := Lib.hid (I5c.out.up B (Nat.le_refl _))
          have D12 := Lib.hid (bstep D11.out B)
          clear B y0 y1 y2 y3 y4 y5 y6 y7 y8 yl z0 z1 z2 z3 z4 z5 z6 z7 z8 zl so G11 G5c J11 I5c D11 A11 G9b I4b J9 B11
          obtain ⟨⟨y0, y1, y2, y3, y4, y5, y6, y7, y8⟩, _, yl⟩ := nine_all G12.out
          obtain ⟨⟨z0, z1, z2, z3, z4, z5, z6, z7, z8⟩, _, zl⟩ := nine_all G5d.out
          go_wp2_with fail
          refine (sameE_one Y (.slice va12 vn12 vc12) (.slice va5 vn5 vc5) _ J12.out I12.out).mono ?_
          rintro e w13 ⟨rfl, B⟩
          have D13 := Lib.hid (bstep D12.out B)
          clear B
          go_wp2_with fail
          go_ret
          exact ⟨rfl, D13.out⟩
end Go.Proofs.YtfcjhojkfchccaaDoor
