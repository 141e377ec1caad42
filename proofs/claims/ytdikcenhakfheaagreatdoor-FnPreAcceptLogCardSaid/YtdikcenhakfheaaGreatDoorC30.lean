/- Texts laid together. -/
import Derived.Test.YtdikcenhakfheaaGreatDoorC10
import Derived.Test.YtdikcenhakfheaaGreatDoorC14
import Derived.Test.YtdikcenhakfheaaGreatDoorC22
import Derived.Test.YtdikcenhakfheaaGreatDoorC26
import Derived.Test.YtdikcenhakfheaaGreatDoorC27
import Derived.Test.YtdikcenhakfheaaGreatDoorC28
import Derived.IntWalk
import Derived.Test.YtdikcenhakfheaaGreatDoorC11
/- The program's LogValid. -/
namespace Go.Proofs.YtdikcenhakfheaaGreatDoor
open Go.RowKit
set_option linter.unusedVariables false

/-- What LogValid answers. -/
theorem ilogv_any (u : Value) (E : List En) (w : World) (h : Ens w u E) :
    Calls Tryz.prog 15 #[u] w fun e w' => e = .returned (.bool (logB E)) ∧ Below w.heap.size w w' := by
  obtain ⟨a, cap, rfl, h1, h2, h3⟩ := h
  obtain ⟨U, hb⟩ : ∃ U, Calls Tryz.prog 36 #[.slice a E.length cap] w (BkPost E U w) := by
    rcases h3 with h3 | ⟨b, off, U, rfl, h4⟩
    · obtain rfl : E = [] := List.length_eq_zero_iff.1 h3
      exact ⟨fun _ => .slice none 0 0, ibook_nil a cap _ w⟩
    · exact ⟨U, ibook_at b off cap E U w h2 h4⟩
  clear h3
  unfold BkPost at hb
  obtain ⟨c, hc⟩ : ∃ c, logB E = c := ⟨_, rfl⟩
  rw [hc] at hb ⊢
  clear hc
  go_enter Tryz.func15, Tryz.ntmps15
  go_wp2_with fail
  refine hb.mono ?_
  rintro e w1 ⟨⟨rfl, bb, _, rfl, _⟩ | ⟨rfl, rfl⟩, B⟩
  · have D := Lib.hid B
    clear B
    go_wp2_with fail
    go_ret
    exact ⟨rfl, D.out⟩
  · have D := Lib.hid B
    clear B
    go_wp2_with fail
    go_ret
    exact ⟨rfl, D.out⟩
end Go.Proofs.YtdikcenhakfheaaGreatDoor

/- The walk of FnPreAcceptLog. -/
namespace Go.Proofs.YtdikcenhakfheaaGreatDoor
open Go.RowKit
set_option linter.unusedVariables false

set_option maxRecDepth 100000 in
set_option maxHeartbeats 8000000 in
theorem fnPreAcceptLog_walk (a : Option Addr) (len cap : Nat) (w : World) (hc : CodeIn w a len cap) (hcap : cap ≤ maxLen) (hT : TabIn w) :
    Calls Tryz.prog 4 #[.slice a len cap] w fun e w' => e = .returned (.bool true) ∧ Below w.heap.size w w' := by
  have dn := dpa_any a len cap w hc hcap
  by_cases hlen : 1048576 < len
  · go_enter Tryz.func4, Tryz.ntmps4
    go_wp2_with fail
    go_ret
    exact ⟨rfl, Below.refl _ _⟩
  · have hT := Lib.hid hT
    go_enter Tryz.func4, Tryz.ntmps4
    go_wp2_with fail
    refine dn.mono ?_
    rintro e w1 ⟨v, E, X, ux, b1, rfl, O, hl, _, hb1, OX, hd3, B⟩
    obtain ⟨g, cp, hv⟩ := O.len
    subst hv
    obtain ⟨xa, xn, xc, rfl⟩ : ∃ ua un uc, ux = .slice ua un uc := by obtain ⟨c, e, _⟩ := OX.shape; exact ⟨_, _, _, e⟩
    have BA := (Below.refl w1.heap.size w1).alloc (Nat.le_refl _) (.cells #[.int .i64 X.id.1, .int .i64 X.id.2, .int .i64 X.bal, .int .i64 X.st, .int .i64 X.k, .int .i64 X.key, .int .i64 X.v, .int .i64 X.seq, .slice xa xn xc] 30)
    have C2 := Lib.hid (show BxE (w1.alloc (.cells #[.int .i64 X.id.1, .int .i64 X.id.2, .int .i64 X.bal, .int .i64 X.st, .int .i64 X.k, .int .i64 X.key, .int .i64 X.v, .int .i64 X.seq, .slice xa xn xc] 30)) w1.heap.size X (.slice xa xn xc) from heap_alloc_new _ _)
    have O2 := Lib.hid (O.up BA).read
    have I2 := Lib.hid (OX.up BA OX.lt).read
    have D := Lib.hid (bstep B BA)
    have T2 := Lib.hid (TabIn.up hT.out D.out (Nat.le_refl _))
    clear BA B O OX dn hT
    unfold env
    go_upto_region 4 with fail
    obtain ⟨cb, hx2⟩ : ∃ c, Hid (w1.heap.size = c) := ⟨_, Lib.hid rfl⟩
    rw [hx2.out] at C2 ⊢
    generalize w1.alloc (.cells #[.int .i64 X.id.1, .int .i64 X.id.2, .int .i64 X.bal, .int .i64 X.st, .int .i64 X.k, .int .i64 X.key, .int .i64 X.v, .int .i64 X.seq, .slice xa xn xc] 30) = w2 at C2 O2 I2 D T2 ⊢
    clear hx2
    have iv := ipre_any _ (.slice xa xn xc) E X w2 T2.out O2.out I2.out
    have sv := fun W (hb : Below w2.heap.size w2 W) => spre_any _ (.slice xa xn xc) E X W (O2.out.up hb (Nat.le_refl _)) (I2.out.up hb (Nat.le_refl _))
    obtain ⟨⟨N, Y, q⟩, hR⟩ : ∃ r, Hid (preR E X = r) := ⟨_, Lib.hid rfl⟩
    unfold PrP at iv
    unfold PmP at sv
    rw [hR.out] at iv sv
    dsimp only at iv sv
    unfold env at iv sv
    obtain ⟨n, hn⟩ : ∃ n, Hid (E.length = n) := ⟨_, Lib.hid rfl⟩
    rw [hn.out] at iv sv O2 hl ⊢
    obtain ⟨⟨b0, b1, b2, b3, b4, b5, b6, b7, b8⟩, bl⟩ := C2.out.cells
    go_wp2_with fail
    refine iv.mono ?_
    rintro e w3 ⟨v5, u5, S5, rfl, _, _, O5, L5, B⟩
    obtain ⟨g5, c5, hv5, _⟩ := L5.shape
    subst hv5
    obtain ⟨va5, vn5, vc5, rfl⟩ : ∃ ua un uc, u5 = .slice ua un uc := by obtain ⟨a, c, e, _⟩ := O5.read; exact ⟨a, _, c, e⟩
    have BA := (Below.refl w3.heap.size w3).alloc (Nat.le_refl _) (.cells #[.int .i64 Y.id.1, .int .i64 Y.id.2, .int .i64 Y.bal, .int .i64 Y.st, .int .i64 Y.k, .int .i64 Y.key, .int .i64 Y.v, .int .i64 Y.seq, .slice va5 vn5 vc5] 30)
    have G5 := Lib.hid (show BxE (w3.alloc (.cells #[.int .i64 Y.id.1, .int .i64 Y.id.2, .int .i64 Y.bal, .int .i64 Y.st, .int .i64 Y.k, .int .i64 Y.key, .int .i64 Y.v, .int .i64 Y.seq, .slice va5 vn5 vc5] 30)) w3.heap.size Y (.slice va5 vn5 vc5) from heap_alloc_new _ _)
    have I5 := Lib.hid ((O5.up BA).read)
    have L5 := Lib.hid ((L5.up BA).read)
    have F := Lib.hid (bstep B BA)
    have C3 := Lib.hid (C2.out.up F.out)
    clear iv B BA O5 b0 b1 b2 b3 b4 b5 b6 b7 b8 bl C2
    go_upto_region 5 with fail
    obtain ⟨xb5, hx5⟩ : ∃ c, Hid (w3.heap.size = c) := ⟨_, Lib.hid rfl⟩
    rw [hx5.out] at G5 ⊢
    generalize w3.alloc (.cells #[.int .i64 Y.id.1, .int .i64 Y.id.2, .int .i64 Y.bal, .int .i64 Y.st, .int .i64 Y.k, .int .i64 Y.key, .int .i64 Y.v, .int .i64 Y.seq, .slice va5 vn5 vc5] 30) = w4 at G5 I5 L5 F C3 ⊢
    clear hx5
    obtain ⟨⟨b0, b1, b2, b3, b4, b5, b6, b7, b8⟩, bl⟩ := C3.out.cells
    go_wp2_with fail
    refine (sv _ F.out).mono ?_
    rintro e w5 ⟨v6, u6, rfl, O6, I6, B⟩
    obtain ⟨g6, c6, hv6⟩ := O6.len
    subst hv6
    obtain ⟨va6, vn6, vc6, rfl⟩ : ∃ ua un uc, u6 = .slice ua un uc := by obtain ⟨a, c, e, _⟩ := I6; exact ⟨a, _, c, e⟩
    have BA := (Below.refl w5.heap.size w5).alloc (Nat.le_refl _) (.cells #[.int .i64 Y.id.1, .int .i64 Y.id.2, .int .i64 Y.bal, .int .i64 Y.st, .int .i64 Y.k, .int .i64 Y.key, .int .i64 Y.v, .int .i64 Y.seq, .slice va6 vn6 vc6] 30)
    have G6 := Lib.hid (show BxE (w5.alloc (.cells #[.int .i64 Y.id.1, .int .i64 Y.id.2, .int .i64 Y.bal, .int .i64 Y.st, .int .i64 Y.k, .int .i64 Y.key, .int .i64 Y.v, .int .i64 Y.seq, .slice va6 vn6 vc6] 30)) w5.heap.size Y (.slice va6 vn6 vc6) from heap_alloc_new _ _)
    have I6 := Lib.hid (I6.up BA (Nat.le_refl _))
    have L6 := Lib.hid ((O6.up BA).read)
    have B2 := bstep B BA
    replace G5 := Lib.hid (G5.out.up B2)
    replace I5 := Lib.hid (I5.out.up B2 (Nat.le_refl _))
    replace L5 := Lib.hid (L5.out.up B2 (Nat.le_refl _))
    replace C3 := Lib.hid (C3.out.up B2)
    replace F := Lib.hid (bstep F.out B2)
    clear sv B BA B2 O6 b0 b1 b2 b3 b4 b5 b6 b7 b8 bl
    go_upto_region 6 with fail
    obtain ⟨xb6, hx6⟩ : ∃ c, Hid (w5.heap.size = c) := ⟨_, Lib.hid rfl⟩
    rw [hx6.out] at G6 ⊢
    generalize w5.alloc (.cells #[.int .i64 Y.id.1, .int .i64 Y.id.2, .int .i64 Y.bal, .int .i64 Y.st, .int .i64 Y.k, .int .i64 Y.key, .int .i64 Y.v, .int .i64 Y.seq, .slice va6 vn6 vc6] 30) = w6 at G5 I5 L5 G6 I6 L6 F C3 ⊢
    clear hx6
    have hm12 : N.length ≤ 12 := by have := preR_len E X; rw [hR.out] at this; exact this
    obtain ⟨m, hm⟩ : ∃ m, Hid (N.length = m) := ⟨_, Lib.hid rfl⟩
    have se := fun W (hb : Below w6.heap.size w6 W) => sameE_self Y (.slice va5 vn5 vc5) (.slice va6 vn6 vc6) W (I5.out.up hb (Nat.le_refl _)) (I6.out.up hb (Nat.le_refl _))
    have sm := fun W (hb : Below w6.heap.size w6 W) => smL_any _ _ N W (L5.out.up hb (Nat.le_refl _)) (L6.out.up hb (Nat.le_refl _))
    unfold env at se
    rw [hm.out] at sm L5 L6 hm12 ⊢
    obtain ⟨⟨p0, p1, p2, p3, p4, p5, p6, p7, p8⟩, pl⟩ := G5.out.cells
    obtain ⟨⟨r0, r1, r2, r3, r4, r5, r6, r7, r8⟩, rl⟩ := G6.out.cells
    go_wp2_with fail
    refine (se _ (Below.refl _ _)).mono ?_
    rintro e w7 ⟨rfl, B⟩
    have K7 := Lib.hid B
    clear B p0 p1 p2 p3 p4 p5 p6 p7 p8 pl r0 r1 r2 r3 r4 r5 r6 r7 r8 rl
    go_wp2_with fail
    refine (sm _ K7.out).mono ?_
    rintro e w8 ⟨rfl, B⟩
    replace K7 := Lib.hid (bstep K7.out B)
    clear B
    cases q
    · have G5b := G5.out.up K7.out
      have G6b := G6.out.up K7.out
      obtain ⟨⟨p0, p1, p2, p3, p4, p5, p6, p7, p8⟩, pl⟩ := G5b.cells
      obtain ⟨⟨r0, r1, r2, r3, r4, r5, r6, r7, r8⟩, rl⟩ := G6b.cells
      clear G5b G6b
      go_wp2_with fail
      refine (se _ K7.out).mono ?_
      rintro e w9 ⟨rfl, B⟩
      replace K7 := Lib.hid (bstep K7.out B)
      clear B p0 p1 p2 p3 p4 p5 p6 p7 p8 pl r0 r1 r2 r3 r4 r5 r6 r7 r8 rl
      go_wp2_with fail
      refine (sm _ K7.out).mono ?_
      rintro e w10 ⟨rfl, B⟩
      replace K7 := Lib.hid (bstep K7.out B)
      have D9 := Lib.hid (bstep D.out (bstep F.out K7.out))
      clear B
      go_wp2_with fail
      go_ret
      exact ⟨rfl, D9.out⟩
    · clear se sm
      have hP := pre_is (E := E) (X := X) (by rw [hR.out])
      have hTw := pre_twice (E := E) (X := X) (by rw [hR.out])
      rw [hR.out] at hP hTw
      obtain ⟨hlog, hXb, hXst, hadm, hN, hY, henB, hN12⟩ := hP
      dsimp only at hN hY hTw
      have hWi : withinB X.deps Y.deps = true := by rw [hY]; exact pre_within hXb henB
      have hAt := pre_attrs hlog hXb henB
      rw [← hY] at hN henB hN12 hAt
      have hsq : X.seq ≤ Y.seq := by rw [hY]; exact Int.le_max_left _ _
      have e1 : Y.id = X.id ∧ Y.bal = X.bal ∧ Y.st = X.st ∧ Y.k = X.k ∧ Y.key = X.key ∧ Y.v = X.v := by rw [hY]; exact ⟨rfl, rfl, rfl, rfl, rfl, rfl⟩
      replace G5 := Lib.hid (G5.out.up K7.out)
      replace I5 := Lib.hid (I5.out.up K7.out (Nat.le_refl _))
      replace L5 := Lib.hid (L5.out.up K7.out (Nat.le_refl _))
      replace C3 := Lib.hid (C3.out.up K7.out)
      replace F := Lib.hid (bstep F.out K7.out)
      have O8 := Lib.hid (O2.out.up F.out (Nat.le_refl _))
      have I8 := Lib.hid (I2.out.up F.out (Nat.le_refl _))
      have T8 := Lib.hid (TabIn.up T2.out F.out (Nat.le_refl _))
      have D8 := Lib.hid (bstep D.out F.out)
      clear G6 I6 L6 F K7 O2 I2 T2 D hR
      have hput : Hid (lputR E Y = (N, true)) := Lib.hid (by rw [lputR_good hlog henB hN12, hN])
      have hNv : Hid (logB N = true) := Lib.hid (by rw [hN]; exact putE_valid hlog henB hN12)
      clear hTw hlog hXb hXst hadm hN hY henB hN12 hWi hAt hsq e1 T8 I8 C3
      have lp := ilput_any _ E Y (.slice va5 vn5 vc5) w8 O8.out I5.out
      unfold LpZ at lp
      rw [hput.out] at lp
      dsimp only at lp
      unfold env at lp
      obtain ⟨⟨p0, p1, p2, p3, p4, p5, p6, p7, p8⟩, pl⟩ := G5.out.cells
      go_wp2_with fail
      refine lp.mono ?_
      rintro e w9 ⟨⟨v10, rfl, L10⟩, B⟩
      obtain ⟨g10, c10, hv10, _⟩ := L10.shape
      subst hv10
      have L10 := Lib.hid L10.read
      rw [hm.out] at L10 ⊢
      replace L5 := Lib.hid (L5.out.up B (Nat.le_refl _))
      replace D8 := Lib.hid (bstep D8.out B)
      clear B lp O8 I5 G5 p0 p1 p2 p3 p4 p5 p6 p7 p8 pl
      have sl := smL_any _ _ N w9 L10.out L5.out
      have lv := fun W (hb : Below w9.heap.size w9 W) => ilogv_any _ N W (L5.out.up hb (Nat.le_refl _))
      rw [hNv.out] at lv
      go_wp2_with fail
      refine sl.mono ?_
      rintro e w10 ⟨rfl, B⟩
      have K10 := Lib.hid B
      clear B sl
      go_wp2_with fail
      refine (lv _ K10.out).mono ?_
      rintro e w11 ⟨rfl, B⟩
      have D9 := Lib.hid (bstep D8.out (bstep K10.out B))
      clear B lv
      go_wp2_with fail
      go_ret
      exact ⟨by first | rfl | simp, D9.out⟩
end Go.Proofs.YtdikcenhakfheaaGreatDoor
