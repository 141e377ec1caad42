/- Texts laid together. -/
import Derived.Test.YtiolhjjkjmepcaaGreatDoorC25
import Derived.Test.YtiolhjjkjmepcaaGreatDoorC27
import Derived.Test.YtiolhjjkjmepcaaGreatDoorC16
import Derived.Test.YtiolhjjkjmepcaaGreatDoorC07
import Derived.Test.YtiolhjjkjmepcaaGreatDoorC13
import Derived.Test.YtiolhjjkjmepcaaGreatDoorC21
import Derived.IntWalk
/- The walk of FnFixBallot. -/
namespace Go.Proofs.YtiolhjjkjmepcaaGreatDoor
open Go.RowKit
set_option linter.unusedVariables false

set_option maxRecDepth 100000 in
set_option maxHeartbeats 8000000 in
theorem fnFixBallot_walk (a : Option Addr) (len cap : Nat) (a2 : Option Addr) (len2 cap2 : Nat) (w : World) (hc : CodeIn w a len cap) (hcap : cap ≤ maxLen) (hc2 : CodeIn w a2 len2 cap2) (hcap2 : cap2 ≤ maxLen) (hS0 : SenW w) :
    Calls Tryz.prog 9 #[.slice a len cap, .slice a2 len2 cap2] w fun e w' => e = .returned (.bool true) ∧ Below w.heap.size w w' := by
  have dn := dfix_any a len cap w hc hcap
  obtain ⟨a0, a1, hS⟩ := hS0
  by_cases hlen : 1048576 < len
  · go_enter Tryz.func9, Tryz.ntmps9
    go_wp2_with fail
    go_ret
    exact ⟨rfl, Below.refl _ _⟩
  by_cases hlen2 : 1048576 < len2
  · have hlen1 : len ≤ 1048576 := by omega
    go_enter Tryz.func9, Tryz.ntmps9
    go_wp2_with fail
    go_ret
    exact ⟨rfl, Below.refl _ _⟩
  · have hS := Lib.hid hS
    go_enter Tryz.func9, Tryz.ntmps9
    go_wp2_with fail
    refine dn.mono ?_
    rintro e w1 ⟨v, E, X, ux, b1, rfl, O, hl, hin, hb1, OX, B⟩
    obtain ⟨g, cp, hv⟩ := O.len
    subst hv
    obtain ⟨xa, xn, xc, rfl⟩ : ∃ ua un uc, ux = .slice ua un uc := by obtain ⟨c, e, _⟩ := OX.shape; exact ⟨_, _, _, e⟩
    have BA := (Below.refl w1.heap.size w1).alloc (Nat.le_refl _) (.cells #[.int .i64 X.id.1, .int .i64 X.id.2, .int .i64 X.bal, .int .i64 X.st, .int .i64 X.k, .int .i64 X.key, .int .i64 X.v, .int .i64 X.seq, .slice xa xn xc] 30)
    have C2 := Lib.hid (show BxE (w1.alloc (.cells #[.int .i64 X.id.1, .int .i64 X.id.2, .int .i64 X.bal, .int .i64 X.st, .int .i64 X.k, .int .i64 X.key, .int .i64 X.v, .int .i64 X.seq, .slice xa xn xc] 30)) w1.heap.size X (.slice xa xn xc) from heap_alloc_new _ _)
    have O2 := Lib.hid (O.up BA).read
    have I2 := Lib.hid (OX.up BA OX.lt).read
    have D := Lib.hid (bstep B BA)
    have S2 := Lib.hid (hS.out.up D.out)
    have hin := Lib.hid hin
    clear BA B O OX dn hS
    unfold env
    go_upto_region 4 with fail
    obtain ⟨cb, hx2⟩ : ∃ c, Hid (w1.heap.size = c) := ⟨_, Lib.hid rfl⟩
    rw [hx2.out] at C2 ⊢
    generalize w1.alloc (.cells #[.int .i64 X.id.1, .int .i64 X.id.2, .int .i64 X.bal, .int .i64 X.st, .int .i64 X.k, .int .i64 X.key, .int .i64 X.v, .int .i64 X.seq, .slice xa xn xc] 30) = w2 at C2 O2 I2 D S2 ⊢
    clear hx2
    have iv := ifix_any a0 a1 _ (.slice xa xn xc) E X w2 O2.out I2.out hin.out (fun W hb => S2.out.up hb)
    have sv := fun W (hb : Below w2.heap.size w2 W) => sfix_any _ (.slice xa xn xc) E X W (O2.out.up hb (Nat.le_refl _)) (I2.out.up hb (Nat.le_refl _))
    obtain ⟨⟨N, q⟩, hR⟩ : ∃ r, Hid (fixR E X = r) := ⟨_, Lib.hid rfl⟩
    unfold TkZ at iv
    unfold StkP at sv
    rw [hR.out] at iv sv
    dsimp only at iv sv
    unfold env at iv sv
    obtain ⟨n, hn⟩ : ∃ n, Hid (E.length = n) := ⟨_, Lib.hid rfl⟩
    rw [hn.out] at iv sv O2 hl ⊢
    have hm12 : N.length ≤ 12 := by have := fixR_len E X; rw [hR.out] at this; exact this
    obtain ⟨m, hm⟩ : ∃ m, Hid (N.length = m) := ⟨_, Lib.hid rfl⟩
    obtain ⟨⟨b0, b1, b2, b3, b4, b5, b6, b7, b8⟩, bl⟩ := C2.out.cells
    go_wp2_with fail
    refine iv.mono ?_
    rintro e w3 ⟨⟨v5, rfl, L5⟩, B⟩
    obtain ⟨g5, c5, hv5, _⟩ := L5.shape
    subst hv5
    have L5 := Lib.hid L5.read
    have F := Lib.hid B
    have C3 := Lib.hid (C2.out.up F.out)
    rw [hm.out] at L5 hm12 ⊢
    clear iv B b0 b1 b2 b3 b4 b5 b6 b7 b8 bl C2
    obtain ⟨⟨b0, b1, b2, b3, b4, b5, b6, b7, b8⟩, bl⟩ := C3.out.cells
    go_wp2_with fail
    refine (sv _ F.out).mono ?_
    rintro e w5 ⟨v6, rfl, O6, B⟩
    obtain ⟨g6, c6, hv6⟩ := O6.len
    subst hv6
    have L6 := Lib.hid O6.read
    rw [hm.out] at L6 ⊢
    replace L5 := Lib.hid (L5.out.up B (Nat.le_refl _))
    replace C3 := Lib.hid (C3.out.up B)
    replace F := Lib.hid (bstep F.out B)
    clear sv B O6 b0 b1 b2 b3 b4 b5 b6 b7 b8 bl
    have sm := fun W (hb : Below w5.heap.size w5 W) => smL_any _ _ N W (L5.out.up hb (Nat.le_refl _)) (L6.out.up hb (Nat.le_refl _))
    go_wp2_with fail
    refine (sm _ (Below.refl _ _)).mono ?_
    rintro e w8 ⟨rfl, B⟩
    have K7 := Lib.hid B
    clear B
    cases q
    · go_wp2_with fail
      refine (sm _ K7.out).mono ?_
      rintro e w10 ⟨rfl, B⟩
      replace K7 := Lib.hid (bstep K7.out B)
      have D9 := Lib.hid (bstep D.out (bstep F.out K7.out))
      clear B
      go_wp2_with fail
      go_ret
      exact ⟨rfl, D9.out⟩
    · clear sm
      have hq := Lib.hid (show (fixR E X).2 = true by rw [hR.out])
      have hN := Lib.hid (show (fixR E X).1 = N by rw [hR.out])
      replace L5 := Lib.hid (L5.out.up K7.out (Nat.le_refl _))
      replace C3 := Lib.hid (C3.out.up K7.out)
      replace F := Lib.hid (bstep F.out K7.out)
      have O8 := Lib.hid (O2.out.up F.out (Nat.le_refl _))
      have I8 := Lib.hid (I2.out.up F.out (Nat.le_refl _))
      have S8 := Lib.hid (S2.out.up F.out)
      have D8 := Lib.hid (bstep D.out F.out)
      clear L6 F K7 O2 I2 S2 D hR
      obtain ⟨zb, hzb⟩ : ∃ z, Hid ((len2 : Int) % 1000 = z) := ⟨_, Lib.hid rfl⟩
      have hT1 := fix_bal (b := zb) hq.out (by rw [← hzb.out]; omega)
      rw [hN.out] at hT1
      obtain ⟨Y, hY⟩ : ∃ Y : En, Hid ({ X with bal := zb } = Y) := ⟨_, Lib.hid rfl⟩
      rw [hY.out] at hT1
      have hYi : Hid (inR Y.id) := Lib.hid (by rw [← hY.out]; exact hin.out)
      have hYd : Hid (Y.deps = X.deps) := Lib.hid (by rw [← hY.out])
      clear hq hN O8
      have hT1 := Lib.hid hT1
      have BA9 := (Below.refl w8.heap.size w8).alloc (Nat.le_refl _) (.cells #[.int .i64 X.id.1, .int .i64 X.id.2, .int .i64 X.bal, .int .i64 X.st, .int .i64 X.k, .int .i64 X.key, .int .i64 X.v, .int .i64 X.seq, .slice xa xn xc] 30)
      have X9 := Lib.hid (show BxE (w8.alloc (.cells #[.int .i64 X.id.1, .int .i64 X.id.2, .int .i64 X.bal, .int .i64 X.st, .int .i64 X.k, .int .i64 X.key, .int .i64 X.v, .int .i64 X.seq, .slice xa xn xc] 30)) w8.heap.size X (.slice xa xn xc) from heap_alloc_new _ _)
      have hcb := C3.out.cells.2
      have C9 := Lib.hid (C3.out.up BA9)
      have E9 := Lib.hid BA9
      obtain ⟨⟨b0, b1, b2, b3, b4, b5, b6, b7, b8⟩, bl⟩ := C3.out.cells
      go_upto_region 9 with fail
      clear b0 b1 b2 b3 b4 b5 b6 b7 b8 bl BA9 C3
      obtain ⟨xb, hxb⟩ : ∃ c, Hid (w8.heap.size = c) := ⟨_, Lib.hid rfl⟩
      rw [hxb.out] at X9 ⊢
      have hxb2 := hxb.out
      obtain ⟨w9, hw9⟩ : ∃ q, q = w8.alloc (.cells #[.int .i64 X.id.1, .int .i64 X.id.2, .int .i64 X.bal, .int .i64 X.st, .int .i64 X.k, .int .i64 X.key, .int .i64 X.v, .int .i64 X.seq, .slice xa xn xc] 30) := ⟨_, rfl⟩
      rw [← hw9] at X9 C9 E9 ⊢
      clear hw9
      obtain ⟨⟨x0, x1, x2, x3, x4, x5, x6, x7, x8⟩, xl⟩ := X9.out.cells
      have xf := X9.out.free 2
      go_upto_region 10 with fail
      rw [hzb.out]
      clear x0 x1 x2 x3 x4 x5 x6 x7 x8 xl xf hzb
      have G := Lib.hid (X9.out.s2 zb)
      have C1 := Lib.hid (C9.out.so (b := xb) (i := 2) (x := .int .i64 zb) (by have := C9.out.cells.2; omega))
      have E1 := Lib.hid (E9.out.setCell (p := ⟨xb, 2, none⟩) (by show w8.heap.size ≤ xb; omega) (.int .i64 zb))
      rw [hY.out] at G
      clear X9 C9 E9
      generalize w9.setCell ⟨xb, 2, none⟩ (.int .i64 zb) = w10 at G C1 E1 ⊢
      replace L5 := Lib.hid (L5.out.up E1.out (Nat.le_refl _))
      replace I8 := Lib.hid (I8.out.up E1.out (Nat.le_refl _))
      replace S8 := Lib.hid (S8.out.up E1.out)
      replace D8 := Lib.hid (bstep D8.out E1.out)
      clear C1 E1 hY
      have iy := ifix_any a0 a1 _ (.slice xa xn xc) N Y w10 L5.out (by rw [hYd.out]; exact I8.out) hYi.out (fun W hb => S8.out.up hb)
      unfold TkZ at iy
      rw [hT1.out] at iy
      dsimp only at iy
      unfold env at iy
      obtain ⟨⟨x0, x1, x2, x3, x4, x5, x6, x7, x8⟩, xl⟩ := G.out.cells
      go_wp2_with fail
      refine iy.mono ?_
      rintro e w11 ⟨⟨v9, rfl, L9⟩, B⟩
      obtain ⟨g9, c9, hv9, _⟩ := L9.shape
      subst hv9
      have L9 := Lib.hid L9.read
      clear x0 x1 x2 x3 x4 x5 x6 x7 x8 xl iy
      replace L5 := Lib.hid (L5.out.up B (Nat.le_refl _))
      replace D8 := Lib.hid (bstep D8.out B)
      clear B
      rw [hm.out] at L9 ⊢
      have sl := smL_any _ _ N w11 L9.out L5.out
      go_wp2_with fail
      refine sl.mono ?_
      rintro e w13 ⟨rfl, B⟩
      have D9 := Lib.hid (bstep D8.out B)
      clear B sl
      go_wp2_with fail
      go_ret
      exact ⟨by first | rfl | simp, D9.out⟩
end Go.Proofs.YtiolhjjkjmepcaaGreatDoor
