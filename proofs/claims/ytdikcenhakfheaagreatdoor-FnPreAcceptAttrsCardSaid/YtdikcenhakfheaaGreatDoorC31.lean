/- Texts laid together. -/
import Derived.Test.YtdikcenhakfheaaGreatDoorC11
import Derived.Test.YtdikcenhakfheaaGreatDoorC07
import Derived.Test.YtdikcenhakfheaaGreatDoorC05
import Derived.Test.YtdikcenhakfheaaGreatDoorC14
import Derived.Test.YtdikcenhakfheaaGreatDoorC22
import Derived.Test.YtdikcenhakfheaaGreatDoorC26
import Derived.Test.YtdikcenhakfheaaGreatDoorC27
import Derived.Test.YtdikcenhakfheaaGreatDoorC28
import Derived.IntWalk
import Derived.Test.YtdikcenhakfheaaGreatDoorC32
/- The program's LogAttrs. -/
namespace Go.Proofs.YtdikcenhakfheaaGreatDoor
open Go.RowKit
set_option linter.unusedVariables false

set_option maxRecDepth 100000 in
set_option maxHeartbeats 8000000 in
theorem ilatt_any (u : Value) (E : List En) (x y ck ckey cv : Int) (w : World) (hT : TabIn w) (h : Ens w u E) :
    Calls Tryz.prog 16 #[u, .agg #[.int .i64 x, .int .i64 y], .agg #[.int .i64 ck, .int .i64 ckey, .int .i64 cv]] w (LatP E (x, y) ck ckey cv w) := by
  have A0 := Lib.hid ((Below.heap_alloc _ (.cells #[.int .i64 ck, .int .i64 ckey, .int .i64 cv] 27) _ (by simp)).trans (heap_alloc_new w (.cells #[.int .i64 x, .int .i64 y] 25)))
  have C0 := Lib.hid (heap_alloc_at (w.alloc (.cells #[.int .i64 x, .int .i64 y] 25)) (.cells #[.int .i64 ck, .int .i64 ckey, .int .i64 cv] 27) (w.heap.size + 1) (by simp))
  have B0 := Lib.hid (((Below.refl w.heap.size w).alloc (Nat.le_refl _) (.cells #[.int .i64 x, .int .i64 y] 25)).alloc (by simp) (.cells #[.int .i64 ck, .int .i64 ckey, .int .i64 cv] 27))
  obtain ⟨U, hU, bk⟩ := ibook_any u E _ (h.up B0.out (Nat.le_refl _))
  have hU := Lib.hid (fun k hk => show ∃ a n c, U k = .slice a n c from by obtain ⟨a, c, e, _⟩ := hU k hk; exact ⟨a, _, c, e⟩)
  have hT0 := Lib.hid (TabIn.up hT B0.out (Nat.le_refl _))
  unfold BkPost at bk
  obtain ⟨q, hq⟩ : ∃ q, Hid (logB E = q) := ⟨_, Lib.hid rfl⟩
  rw [hq.out] at bk
  clear h hT
  go_enter Tryz.func16, Tryz.ntmps16
  go_wp2_with fail
  refine bk.mono ?_
  rintro e w1 ⟨⟨hqt, bb, _, rfl, hB⟩ | ⟨hqf, rfl⟩, B⟩
  · subst hqt
    have A1 := Lib.hid (bblk B (lt_of_heap A0.out) A0.out)
    have C1 := Lib.hid (bblk B (lt_of_heap C0.out) C0.out)
    have B1 := Lib.hid (bstep B0.out B)
    have T1 := Lib.hid (TabIn.up hT0.out B (Nat.le_refl _))
    have hB := Lib.hid hB
    clear B A0 C0 B0 hT0 bk
    obtain ⟨a0, a1, _, _⟩ := blk2 A1.out
    have hal := lt_of_heap A1.out
    go_wp2_with fail
    refine (ivid_any x y _).mono ?_
    rintro e w2 ⟨rfl, B⟩
    replace A1 := Lib.hid (bblk B (lt_of_heap A1.out) A1.out)
    replace C1 := Lib.hid (bblk B (lt_of_heap C1.out) C1.out)
    replace B1 := Lib.hid (bstep B1.out B)
    replace T1 := Lib.hid (TabIn.up T1.out B (Nat.le_refl _))
    replace hB := Lib.hid (hB.out.up B hB.out.lt)
    clear B a0 a1 hal
    obtain ⟨p, hp⟩ : ∃ q, Hid (okP (x, y) = q) := ⟨_, Lib.hid rfl⟩
    rw [show idB x y = p from hp.out]
    obtain ⟨b0, b1, b2, _, _, _⟩ := blk3 C1.out
    have hcl := lt_of_heap C1.out
    cases p
    · have R := Lib.hid (lat_fail B1.out (lattR_id (E := E) (k := ck) (key := ckey) (v := cv) hp.out))
      go_wp2_with fail
      go_ret3
      exact R.out
    · go_wp2_with fail
      refine (ivalid_any ck ckey cv _).mono ?_
      rintro e w3 ⟨rfl, B⟩
      replace A1 := Lib.hid (bblk B (lt_of_heap A1.out) A1.out)
      replace C1 := Lib.hid (bblk B (lt_of_heap C1.out) C1.out)
      replace B1 := Lib.hid (bstep B1.out B)
      replace T1 := Lib.hid (TabIn.up T1.out B (Nat.le_refl _))
      replace hB := Lib.hid (hB.out.up B hB.out.lt)
      clear B b0 b1 b2 hcl
      obtain ⟨s, hs⟩ : ∃ q, Hid (cvB ck ckey cv = q) := ⟨_, Lib.hid rfl⟩
      rw [hs.out]
      obtain ⟨a0, a1, _, _⟩ := blk2 A1.out
      have hal := lt_of_heap A1.out
      obtain ⟨b0, b1, b2, _, _, _⟩ := blk3 C1.out
      have hcl := lt_of_heap C1.out
      cases s
      · have R := Lib.hid (lat_fail B1.out (lattR_cmd (E := E) (a := (x, y)) hs.out))
        go_wp2_with fail
        go_ret3
        exact R.out
      · have hTT := top_rank hq.out (x, y) ck ckey
        have hsrt := Lib.hid (idsO_mask (cls_srt hq.out (x, y) ck ckey))
        have hml := Lib.hid (mask_lt (cls_ok hq.out (x, y) ck ckey))
        have hgood := Lib.hid (fun h => lattR_good (v := cv) hq.out hp.out hs.out h)
        have hfull := Lib.hid (fun h => lattR_full (E := E) (a := (x, y)) (k := ck) (key := ckey) (v := cv) h)
        have ic := icl_book bb E U x y ck ckey cv w3 hq.out hs.out hB.out hU.out
        obtain ⟨t, ht⟩ : ∃ t, Hid (topE (clsE E (x, y) ck ckey) = t) := ⟨_, Lib.hid rfl⟩
        obtain ⟨S, hS⟩ : ∃ t, Hid (idsE (clsE E (x, y) ck ckey) = t) := ⟨_, Lib.hid rfl⟩
        rw [ht.out, hS.out] at ic
        rw [ht.out] at hTT hgood hfull
        rw [hS.out] at hgood hml hsrt
        obtain ⟨g, hg⟩ : ∃ g, Hid (mask S = g) := ⟨_, Lib.hid rfl⟩
        rw [hg.out] at ic hsrt hml
        clear hB
        unfold setV at ic
        go_wp2_with fail
        refine ic.mono ?_
        rintro e w4 ⟨rfl, B⟩
        replace B1 := Lib.hid (bstep B1.out B)
        replace T1 := Lib.hid (TabIn.up T1.out B (Nat.le_refl _))
        clear B ic A1 C1 a0 a1 hal b0 b1 b2 hcl
        have BA := (Below.refl w4.heap.size w4).alloc (Nat.le_refl _) (.cells #[.int .u64 (g 0), .int .u64 (g 1), .int .u64 (g 2), .int .u64 (g 3), .int .u64 (g 4)] 74)
        have S5 : Set5 (w4.alloc (.cells #[.int .u64 (g 0), .int .u64 (g 1), .int .u64 (g 2), .int .u64 (g 3), .int .u64 (g 4)] 74)) w4.heap.size g := heap_alloc_new w4 _
        obtain ⟨s0, s1, s2, s3, s4⟩ := S5.five
        have hsl := S5.lt
        replace B1 := Lib.hid (bstep B1.out BA)
        replace T1 := Lib.hid (TabIn.up T1.out BA (Nat.le_refl _))
        have S5 := Lib.hid S5
        clear BA s0 s1 s2 s3 s4 hsl
        go_upto_region 5 with fail
        obtain ⟨sb, hsb⟩ : ∃ c, Hid (w4.heap.size = c) := ⟨_, Lib.hid rfl⟩
        rw [hsb.out] at S5 ⊢
        generalize w4.alloc (.cells #[.int .u64 (g 0), .int .u64 (g 1), .int .u64 (g 2), .int .u64 (g 3), .int .u64 (g 4)] 74) = W4 at S5 B1 T1 ⊢
        obtain ⟨s0, s1, s2, s3, s4⟩ := S5.out.five
        have hsl := S5.out.lt
        clear hsb
        by_cases h99 : t = 99
        · have R := Lib.hid (lat_fail B1.out (hfull.out (by omega)))
          subst h99
          go_wp2_with fail
          go_ret3
          exact R.out
        · have hR := Lib.hid (hgood.out (by omega))
          have ido := idso_any g _ hml.out T1.out
          unfold setV at ido
          have hne : (t == 99) = false := by simpa using h99
          go_wp2_with fail
          refine ido.mono ?_
          rintro e w5 ⟨b5, u5, hb5, rfl, O5, B⟩
          rw [hsrt.out] at O5
          have O5 := Lib.hid O5
          have hz := B1.out.size
          replace B1 := Lib.hid (bstep B1.out B)
          clear B ido s0 s1 s2 s3 s4 hsl
          go_wp2_with fail
          go_ret3
          rw [LatP, hR.out]
          exact ⟨⟨_, rfl, b5, by omega, O5.out⟩, B1.out⟩
  · subst hqf
    have B1 := Lib.hid (bstep B0.out B)
    have R := Lib.hid (lat_fail B1.out (lattR_log (a := (x, y)) (k := ck) (key := ckey) (v := cv) hq.out))
    clear bk B A0 C0 B0
    go_wp2_with fail
    go_ret3
    exact R.out
end Go.Proofs.YtdikcenhakfheaaGreatDoor

/- The walk of FnPreAcceptAttrs. -/
namespace Go.Proofs.YtdikcenhakfheaaGreatDoor
open Go.RowKit
set_option linter.unusedVariables false

set_option maxRecDepth 100000 in
set_option maxHeartbeats 8000000 in
theorem fnPreAcceptAttrs_walk (a : Option Addr) (len cap : Nat) (w : World) (hc : CodeIn w a len cap) (hcap : cap ≤ maxLen) (hT : TabIn w) :
    Calls Tryz.prog 5 #[.slice a len cap] w fun e w' => e = .returned (.bool true) ∧ Below w.heap.size w w' := by
  have dn := dpa_any a len cap w hc hcap
  by_cases hlen : 1048576 < len
  · go_enter Tryz.func5, Tryz.ntmps5
    go_wp2_with fail
    go_ret
    exact ⟨rfl, Below.refl _ _⟩
  · have hT := Lib.hid hT
    go_enter Tryz.func5, Tryz.ntmps5
    go_wp2_with fail
    refine dn.mono ?_
    rintro e w1 ⟨v, E, X, ux, b1, rfl, O, hl, _, hb1, OX, hd3, B⟩
    obtain ⟨g, cp, hv⟩ := O.len
    subst hv
    obtain ⟨xa, xn, xc, rfl⟩ : ∃ ua un uc, ux = .slice ua un uc := by obtain ⟨c, e, _⟩ := OX.shape; exact ⟨_, _, _, e⟩
    have BA := (Below.refl w1.heap.size w1).alloc (Nat.le_refl _) (.cells #[.int .i64 X.id.1, .int .i64 X.id.2, .int .i64 X.bal, .int .i64 X.st, .int .i64 X.k, .int .i64 X.key, .int .i64 X.v, .int .i64 X.seq, .slice xa xn xc] 30)
    have C2 := Lib.hid (show BxE (w1.alloc (.cells #[.int .i64 X.id.1, .int .i64 X.id.2, .int .i64 X.bal, .int .i64 X.st, .int .i64 X.k, .int .i64 X.key, .int .i64 X.v, .int .i64 X.seq, .slice xa xn xc] 30)) w1.heap.size X (.slice xa xn xc) from heap_alloc_new _ _)
    have O2 := Lib.hid (O.up BA).read
    have I2 := Lib.hid (OX.up BA OX.lt).read
    have D := Lib.hid (bstep B BA)
    have T2 := Lib.hid (TabIn.up hT.out D.out (Nat.le_refl _))
    clear BA B O OX dn hT
    unfold env
    go_upto_region 4 with fail
    obtain ⟨cb, hx2⟩ : ∃ c, Hid (w1.heap.size = c) := ⟨_, Lib.hid rfl⟩
    rw [hx2.out] at C2 ⊢
    generalize w1.alloc (.cells #[.int .i64 X.id.1, .int .i64 X.id.2, .int .i64 X.bal, .int .i64 X.st, .int .i64 X.k, .int .i64 X.key, .int .i64 X.v, .int .i64 X.seq, .slice xa xn xc] 30) = w2 at C2 O2 I2 D T2 ⊢
    clear hx2
    have iv := ipre_any _ (.slice xa xn xc) E X w2 T2.out O2.out I2.out
    have sv := fun W (hb : Below w2.heap.size w2 W) => spre_any _ (.slice xa xn xc) E X W (O2.out.up hb (Nat.le_refl _)) (I2.out.up hb (Nat.le_refl _))
    obtain ⟨⟨N, Y, q⟩, hR⟩ : ∃ r, Hid (preR E X = r) := ⟨_, Lib.hid rfl⟩
    unfold PrP at iv
    unfold PmP at sv
    rw [hR.out] at iv sv
    dsimp only at iv sv
    unfold env at iv sv
    obtain ⟨n, hn⟩ : ∃ n, Hid (E.length = n) := ⟨_, Lib.hid rfl⟩
    rw [hn.out] at iv sv O2 hl ⊢
    obtain ⟨⟨b0, b1, b2, b3, b4, b5, b6, b7, b8⟩, bl⟩ := C2.out.cells
    go_wp2_with fail
    refine iv.mono ?_
    rintro e w3 ⟨v5, u5, S5, rfl, _, _, O5, L5, B⟩
    obtain ⟨g5, c5, hv5, _⟩ := L5.shape
    subst hv5
    obtain ⟨va5, vn5, vc5, rfl⟩ : ∃ ua un uc, u5 = .slice ua un uc := by obtain ⟨a, c, e, _⟩ := O5.read; exact ⟨a, _, c, e⟩
    have BA := (Below.refl w3.heap.size w3).alloc (Nat.le_refl _) (.cells #[.int .i64 Y.id.1, .int .i64 Y.id.2, .int .i64 Y.bal, .int .i64 Y.st, .int .i64 Y.k, .int .i64 Y.key, .int .i64 Y.v, .int .i64 Y.seq, .slice va5 vn5 vc5] 30)
    have G5 := Lib.hid (show BxE (w3.alloc (.cells #[.int .i64 Y.id.1, .int .i64 Y.id.2, .int .i64 Y.bal, .int .i64 Y.st, .int .i64 Y.k, .int .i64 Y.key, .int .i64 Y.v, .int .i64 Y.seq, .slice va5 vn5 vc5] 30)) w3.heap.size Y (.slice va5 vn5 vc5) from heap_alloc_new _ _)
    have I5 := Lib.hid ((O5.up BA).read)
    have L5 := Lib.hid ((L5.up BA).read)
    have F := Lib.hid (bstep B BA)
    have C3 := Lib.hid (C2.out.up F.out)
    clear iv B BA O5 b0 b1 b2 b3 b4 b5 b6 b7 b8 bl C2
    go_upto_region 5 with fail
    obtain ⟨xb5, hx5⟩ : ∃ c, Hid (w3.heap.size = c) := ⟨_, Lib.hid rfl⟩
    rw [hx5.out] at G5 ⊢
    generalize w3.alloc (.cells #[.int .i64 Y.id.1, .int .i64 Y.id.2, .int .i64 Y.bal, .int .i64 Y.st, .int .i64 Y.k, .int .i64 Y.key, .int .i64 Y.v, .int .i64 Y.seq, .slice va5 vn5 vc5] 30) = w4 at G5 I5 L5 F C3 ⊢
    clear hx5
    obtain ⟨⟨b0, b1, b2, b3, b4, b5, b6, b7, b8⟩, bl⟩ := C3.out.cells
    go_wp2_with fail
    refine (sv _ F.out).mono ?_
    rintro e w5 ⟨v6, u6, rfl, O6, I6, B⟩
    obtain ⟨g6, c6, hv6⟩ := O6.len
    subst hv6
    obtain ⟨va6, vn6, vc6, rfl⟩ : ∃ ua un uc, u6 = .slice ua un uc := by obtain ⟨a, c, e, _⟩ := I6; exact ⟨a, _, c, e⟩
    have BA := (Below.refl w5.heap.size w5).alloc (Nat.le_refl _) (.cells #[.int .i64 Y.id.1, .int .i64 Y.id.2, .int .i64 Y.bal, .int .i64 Y.st, .int .i64 Y.k, .int .i64 Y.key, .int .i64 Y.v, .int .i64 Y.seq, .slice va6 vn6 vc6] 30)
    have G6 := Lib.hid (show BxE (w5.alloc (.cells #[.int .i64 Y.id.1, .int .i64 Y.id.2, .int .i64 Y.bal, .int .i64 Y.st, .int .i64 Y.k, .int .i64 Y.key, .int .i64 Y.v, .int .i64 Y.seq, .slice va6 vn6 vc6] 30)) w5.heap.size Y (.slice va6 vn6 vc6) from heap_alloc_new _ _)
    have I6 := Lib.hid (I6.up BA (Nat.le_refl _))
    have L6 := Lib.hid ((O6.up BA).read)
    have B2 := bstep B BA
    replace G5 := Lib.hid (G5.out.up B2)
    replace I5 := Lib.hid (I5.out.up B2 (Nat.le_refl _))
    replace L5 := Lib.hid (L5.out.up B2 (Nat.le_refl _))
    replace C3 := Lib.hid (C3.out.up B2)
    replace F := Lib.hid (bstep F.out B2)
    clear sv B BA B2 O6 b0 b1 b2 b3 b4 b5 b6 b7 b8 bl
    go_upto_region 6 with fail
    obtain ⟨xb6, hx6⟩ : ∃ c, Hid (w5.heap.size = c) := ⟨_, Lib.hid rfl⟩
    rw [hx6.out] at G6 ⊢
    generalize w5.alloc (.cells #[.int .i64 Y.id.1, .int .i64 Y.id.2, .int .i64 Y.bal, .int .i64 Y.st, .int .i64 Y.k, .int .i64 Y.key, .int .i64 Y.v, .int .i64 Y.seq, .slice va6 vn6 vc6] 30) = w6 at G5 I5 L5 G6 I6 L6 F C3 ⊢
    clear hx6
    have hm12 : N.length ≤ 12 := by have := preR_len E X; rw [hR.out] at this; exact this
    obtain ⟨m, hm⟩ : ∃ m, Hid (N.length = m) := ⟨_, Lib.hid rfl⟩
    have se := fun W (hb : Below w6.heap.size w6 W) => sameE_self Y (.slice va5 vn5 vc5) (.slice va6 vn6 vc6) W (I5.out.up hb (Nat.le_refl _)) (I6.out.up hb (Nat.le_refl _))
    have sm := fun W (hb : Below w6.heap.size w6 W) => smL_any _ _ N W (L5.out.up hb (Nat.le_refl _)) (L6.out.up hb (Nat.le_refl _))
    unfold env at se
    rw [hm.out] at sm L5 L6 hm12 ⊢
    obtain ⟨⟨p0, p1, p2, p3, p4, p5, p6, p7, p8⟩, pl⟩ := G5.out.cells
    obtain ⟨⟨r0, r1, r2, r3, r4, r5, r6, r7, r8⟩, rl⟩ := G6.out.cells
    go_wp2_with fail
    refine (se _ (Below.refl _ _)).mono ?_
    rintro e w7 ⟨rfl, B⟩
    have K7 := Lib.hid B
    clear B p0 p1 p2 p3 p4 p5 p6 p7 p8 pl r0 r1 r2 r3 r4 r5 r6 r7 r8 rl
    go_wp2_with fail
    refine (sm _ K7.out).mono ?_
    rintro e w8 ⟨rfl, B⟩
    replace K7 := Lib.hid (bstep K7.out B)
    clear B
    cases q
    · have G5b := G5.out.up K7.out
      have G6b := G6.out.up K7.out
      obtain ⟨⟨p0, p1, p2, p3, p4, p5, p6, p7, p8⟩, pl⟩ := G5b.cells
      obtain ⟨⟨r0, r1, r2, r3, r4, r5, r6, r7, r8⟩, rl⟩ := G6b.cells
      clear G5b G6b
      go_wp2_with fail
      refine (se _ K7.out).mono ?_
      rintro e w9 ⟨rfl, B⟩
      replace K7 := Lib.hid (bstep K7.out B)
      clear B p0 p1 p2 p3 p4 p5 p6 p7 p8 pl r0 r1 r2 r3 r4 r5 r6 r7 r8 rl
      go_wp2_with fail
      refine (sm _ K7.out).mono ?_
      rintro e w10 ⟨rfl, B⟩
      replace K7 := Lib.hid (bstep K7.out B)
      have D9 := Lib.hid (bstep D.out (bstep F.out K7.out))
      clear B
      go_wp2_with fail
      go_ret
      exact ⟨rfl, D9.out⟩
    · clear se sm
      have hP := pre_is (E := E) (X := X) (by rw [hR.out])
      have hTw := pre_twice (E := E) (X := X) (by rw [hR.out])
      rw [hR.out] at hP hTw
      obtain ⟨hlog, hXb, hXst, hadm, hN, hY, henB, hN12⟩ := hP
      dsimp only at hN hY hTw
      have hWi : withinB X.deps Y.deps = true := by rw [hY]; exact pre_within hXb henB
      have hAt := pre_attrs hlog hXb henB
      rw [← hY] at hN henB hN12 hAt
      have hsq : X.seq ≤ Y.seq := by rw [hY]; exact Int.le_max_left _ _
      have e1 : Y.id = X.id ∧ Y.bal = X.bal ∧ Y.st = X.st ∧ Y.k = X.k ∧ Y.key = X.key ∧ Y.v = X.v := by rw [hY]; exact ⟨rfl, rfl, rfl, rfl, rfl, rfl⟩
      replace G5 := Lib.hid (G5.out.up K7.out)
      replace I5 := Lib.hid (I5.out.up K7.out (Nat.le_refl _))
      replace L5 := Lib.hid (L5.out.up K7.out (Nat.le_refl _))
      replace C3 := Lib.hid (C3.out.up K7.out)
      replace F := Lib.hid (bstep F.out K7.out)
      have O8 := Lib.hid (O2.out.up F.out (Nat.le_refl _))
      have I8 := Lib.hid (I2.out.up F.out (Nat.le_refl _))
      have T8 := Lib.hid (TabIn.up T2.out F.out (Nat.le_refl _))
      have D8 := Lib.hid (bstep D.out F.out)
      clear G6 I6 L6 F K7 O2 I2 T2 D hR
      obtain ⟨t, C, hlat0, hjn0, hmx0, ht1, ht2⟩ := hAt
      have hlat : Hid (lattR E (X.id.1, X.id.2) X.k X.key X.v = (t, C, true)) := Lib.hid hlat0
      have hjn : Hid (joinR X.deps C = (Y.deps, true)) := Lib.hid hjn0
      have hmx : Hid (Y.seq = max X.seq t) := Lib.hid hmx0
      clear hTw hlog hXb hXst hadm hN hY henB hN12 hWi hsq e1 hlat0 hjn0 hmx0
      have la := ilatt_any _ E X.id.1 X.id.2 X.k X.key X.v w8 T8.out O8.out
      unfold LatP at la
      rw [hlat.out] at la
      dsimp only at la
      obtain ⟨⟨b0, b1, b2, b3, b4, b5, b6, b7, b8⟩, bl⟩ := C3.out.cells
      go_wp2_with fail
      refine la.mono ?_
      rintro e w9 ⟨⟨u9, rfl, b9, _, O9⟩, B⟩
      obtain ⟨cu9, hu9⟩ : ∃ c, u9 = .slice (some ⟨b9, 0, none⟩) C.length c := by obtain ⟨c, e, _⟩ := O9.shape; exact ⟨_, e⟩
      subst hu9
      have O9 := Lib.hid O9.read
      clear b0 b1 b2 b3 b4 b5 b6 b7 b8 bl
      replace G5 := Lib.hid (G5.out.up B)
      replace C3 := Lib.hid (C3.out.up B)
      replace I5 := Lib.hid (I5.out.up B (Nat.le_refl _))
      replace I8 := Lib.hid (I8.out.up B (Nat.le_refl _))
      replace T8 := Lib.hid (TabIn.up T8.out B (Nat.le_refl _))
      replace D8 := Lib.hid (bstep D8.out B)
      clear B la O8 L5
      have jn := djoin_any (.slice xa xn xc) (.slice (some ⟨b9, 0, none⟩) C.length cu9) X.deps C w9 I8.out O9.out T8.out
      unfold JoinPost at jn
      rw [hjn.out] at jn
      dsimp only at jn
      obtain ⟨⟨b0, b1, b2, b3, b4, b5, b6, b7, b8⟩, bl⟩ := C3.out.cells
      go_wp2_with fail
      refine jn.mono ?_
      rintro e w10 ⟨b10, u10, _, rfl, O10, B⟩
      obtain ⟨cu10, hu10⟩ : ∃ c, u10 = .slice (some ⟨b10, 0, none⟩) Y.deps.length c := by obtain ⟨c, e, _⟩ := O10.shape; exact ⟨_, e⟩
      subst hu10
      have O10 := Lib.hid O10.read
      clear b0 b1 b2 b3 b4 b5 b6 b7 b8 bl
      replace G5 := Lib.hid (G5.out.up B)
      replace C3 := Lib.hid (C3.out.up B)
      replace I5 := Lib.hid (I5.out.up B (Nat.le_refl _))
      replace D8 := Lib.hid (bstep D8.out B)
      clear B jn I8 O9 T8
      have si := sameg_any _ _ Y.deps Y.deps w10 O10.out I5.out
      rw [show decide (Y.deps = Y.deps) = true from decide_eq_true rfl] at si
      obtain ⟨⟨p0, p1, p2, p3, p4, p5, p6, p7, p8⟩, pl⟩ := G5.out.cells
      go_wp2_with fail
      refine si.mono ?_
      rintro e w11 ⟨rfl, B⟩
      clear p0 p1 p2 p3 p4 p5 p6 p7 p8 pl
      replace G5 := Lib.hid (G5.out.up B)
      replace C3 := Lib.hid (C3.out.up B)
      replace D8 := Lib.hid (bstep D8.out B)
      clear B si I5 O10
      obtain ⟨⟨p0, p1, p2, p3, p4, p5, p6, p7, p8⟩, pl⟩ := G5.out.cells
      obtain ⟨⟨b0, b1, b2, b3, b4, b5, b6, b7, b8⟩, bl⟩ := C3.out.cells
      clear G5 C3
      rw [hmx.out] at p7
      obtain ⟨s1, h1⟩ : ∃ s, X.seq = s := ⟨_, rfl⟩
      rw [h1] at p7 b7
      rcases (show (s1 < t ∧ max s1 t = t) ∨ (t < s1 ∧ max s1 t = s1) ∨ (s1 = t ∧ max s1 t = t) by omega) with ⟨g1, e⟩ | ⟨g1, e⟩ | ⟨g1, e⟩
      · rw [e] at p7
        clear e
        clear hmx h1
        go_wp2_with fail
        all_goals
          go_ret
          exact ⟨by first | rfl | simp | (simp; omega), D8.out⟩
      · rw [e] at p7
        clear e
        clear hmx h1
        go_wp2_with fail
        all_goals
          go_ret
          exact ⟨by first | rfl | simp | (simp; omega), D8.out⟩
      · rw [e] at p7
        rw [g1] at b7
        clear e g1
        clear hmx h1
        go_wp2_with fail
        all_goals
          go_ret
          exact ⟨by first | rfl | simp | (simp; omega), D8.out⟩
end Go.Proofs.YtdikcenhakfheaaGreatDoor
