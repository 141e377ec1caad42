/- Texts laid together. -/
import Derived.Test.YtiolhjjkjmepcaaGreatDoorC25
import Derived.Test.YtiolhjjkjmepcaaGreatDoorC27
import Derived.Test.YtiolhjjkjmepcaaGreatDoorC16
import Derived.Test.YtiolhjjkjmepcaaGreatDoorC07
import Derived.Test.YtiolhjjkjmepcaaGreatDoorC13
import Derived.Test.YtiolhjjkjmepcaaGreatDoorC21
import Derived.IntWalk
import Derived.Test.YtiolhjjkjmepcaaGreatDoorC22
import Derived.Deep.RegionHeld3
import Derived.BigQuiet
import Derived.Deep.DeepCutAuto
/- The walk of FnFixOthers. -/
namespace Go.Proofs.YtiolhjjkjmepcaaGreatDoor
open Go.RowKit
set_option linter.unusedVariables false

section
variable {w10 wc w' : World} {xb g o : Nat} {Z : En} {va7 za : Option Addr} {vn7 vc7 zn zc : Nat}
theorem fo_keep (hb : Below wc.heap.size wc w') (h : ((wc.cell? ⟨xb, 0, none⟩ = some (.int .i64 Z.id.1) ∧ wc.cell? ⟨xb, 1, none⟩ = some (.int .i64 Z.id.2) ∧ wc.cell? ⟨xb, 2, none⟩ = some (.int .i64 Z.bal) ∧ wc.cell? ⟨xb, 3, none⟩ = some (.int .i64 Z.st) ∧ wc.cell? ⟨xb, 4, none⟩ = some (.int .i64 Z.k) ∧ wc.cell? ⟨xb, 5, none⟩ = some (.int .i64 Z.key) ∧ wc.cell? ⟨xb, 6, none⟩ = some (.int .i64 Z.v) ∧ wc.cell? ⟨xb, 7, none⟩ = some (.int .i64 Z.seq) ∧ wc.cell? ⟨xb, 8, none⟩ = some (.slice va7 vn7 vc7)) ∧ (wc.cell? ⟨g, o, none⟩ = some (.int .i64 Z.id.1) ∧ wc.cell? ⟨g, o + 1, none⟩ = some (.int .i64 Z.id.2) ∧ wc.cell? ⟨g, o + 2, none⟩ = some (.int .i64 Z.bal) ∧ wc.cell? ⟨g, o + 3, none⟩ = some (.int .i64 Z.st) ∧ wc.cell? ⟨g, o + 4, none⟩ = some (.int .i64 Z.k) ∧ wc.cell? ⟨g, o + 5, none⟩ = some (.int .i64 Z.key) ∧ wc.cell? ⟨g, o + 6, none⟩ = some (.int .i64 Z.v) ∧ wc.cell? ⟨g, o + 7, none⟩ = some (.int .i64 Z.seq) ∧ wc.cell? ⟨g, o + 8, none⟩ = some (.slice za zn zc))) ∧ Below w10.heap.size w10 wc) : ((w'.cell? ⟨xb, 0, none⟩ = some (.int .i64 Z.id.1) ∧ w'.cell? ⟨xb, 1, none⟩ = some (.int .i64 Z.id.2) ∧ w'.cell? ⟨xb, 2, none⟩ = some (.int .i64 Z.bal) ∧ w'.cell? ⟨xb, 3, none⟩ = some (.int .i64 Z.st) ∧ w'.cell? ⟨xb, 4, none⟩ = some (.int .i64 Z.k) ∧ w'.cell? ⟨xb, 5, none⟩ = some (.int .i64 Z.key) ∧ w'.cell? ⟨xb, 6, none⟩ = some (.int .i64 Z.v) ∧ w'.cell? ⟨xb, 7, none⟩ = some (.int .i64 Z.seq) ∧ w'.cell? ⟨xb, 8, none⟩ = some (.slice va7 vn7 vc7)) ∧ (w'.cell? ⟨g, o, none⟩ = some (.int .i64 Z.id.1) ∧ w'.cell? ⟨g, o + 1, none⟩ = some (.int .i64 Z.id.2) ∧ w'.cell? ⟨g, o + 2, none⟩ = some (.int .i64 Z.bal) ∧ w'.cell? ⟨g, o + 3, none⟩ = some (.int .i64 Z.st) ∧ w'.cell? ⟨g, o + 4, none⟩ = some (.int .i64 Z.k) ∧ w'.cell? ⟨g, o + 5, none⟩ = some (.int .i64 Z.key) ∧ w'.cell? ⟨g, o + 6, none⟩ = some (.int .i64 Z.v) ∧ w'.cell? ⟨g, o + 7, none⟩ = some (.int .i64 Z.seq) ∧ w'.cell? ⟨g, o + 8, none⟩ = some (.slice za zn zc))) ∧ Below w10.heap.size w10 w' :=
  ⟨⟨⟨cell_later hb h.1.1.1, cell_later hb h.1.1.2.1, cell_later hb h.1.1.2.2.1, cell_later hb h.1.1.2.2.2.1, cell_later hb h.1.1.2.2.2.2.1, cell_later hb h.1.1.2.2.2.2.2.1, cell_later hb h.1.1.2.2.2.2.2.2.1, cell_later hb h.1.1.2.2.2.2.2.2.2.1, cell_later hb h.1.1.2.2.2.2.2.2.2.2⟩, ⟨cell_later hb h.1.2.1, cell_later hb h.1.2.2.1, cell_later hb h.1.2.2.2.1, cell_later hb h.1.2.2.2.2.1, cell_later hb h.1.2.2.2.2.2.1, cell_later hb h.1.2.2.2.2.2.2.1, cell_later hb h.1.2.2.2.2.2.2.2.1, cell_later hb h.1.2.2.2.2.2.2.2.2.1, cell_later hb h.1.2.2.2.2.2.2.2.2.2⟩⟩, h.2.trans (hb.mono h.2.size)⟩
theorem fo_drew (h : ((wc.cell? ⟨xb, 0, none⟩ = some (.int .i64 Z.id.1) ∧ wc.cell? ⟨xb, 1, none⟩ = some (.int .i64 Z.id.2) ∧ wc.cell? ⟨xb, 2, none⟩ = some (.int .i64 Z.bal) ∧ wc.cell? ⟨xb, 3, none⟩ = some (.int .i64 Z.st) ∧ wc.cell? ⟨xb, 4, none⟩ = some (.int .i64 Z.k) ∧ wc.cell? ⟨xb, 5, none⟩ = some (.int .i64 Z.key) ∧ wc.cell? ⟨xb, 6, none⟩ = some (.int .i64 Z.v) ∧ wc.cell? ⟨xb, 7, none⟩ = some (.int .i64 Z.seq) ∧ wc.cell? ⟨xb, 8, none⟩ = some (.slice va7 vn7 vc7)) ∧ (wc.cell? ⟨g, o, none⟩ = some (.int .i64 Z.id.1) ∧ wc.cell? ⟨g, o + 1, none⟩ = some (.int .i64 Z.id.2) ∧ wc.cell? ⟨g, o + 2, none⟩ = some (.int .i64 Z.bal) ∧ wc.cell? ⟨g, o + 3, none⟩ = some (.int .i64 Z.st) ∧ wc.cell? ⟨g, o + 4, none⟩ = some (.int .i64 Z.k) ∧ wc.cell? ⟨g, o + 5, none⟩ = some (.int .i64 Z.key) ∧ wc.cell? ⟨g, o + 6, none⟩ = some (.int .i64 Z.v) ∧ wc.cell? ⟨g, o + 7, none⟩ = some (.int .i64 Z.seq) ∧ wc.cell? ⟨g, o + 8, none⟩ = some (.slice za zn zc))) ∧ Below w10.heap.size w10 wc) : ((wc.drew.cell? ⟨xb, 0, none⟩ = some (.int .i64 Z.id.1) ∧ wc.drew.cell? ⟨xb, 1, none⟩ = some (.int .i64 Z.id.2) ∧ wc.drew.cell? ⟨xb, 2, none⟩ = some (.int .i64 Z.bal) ∧ wc.drew.cell? ⟨xb, 3, none⟩ = some (.int .i64 Z.st) ∧ wc.drew.cell? ⟨xb, 4, none⟩ = some (.int .i64 Z.k) ∧ wc.drew.cell? ⟨xb, 5, none⟩ = some (.int .i64 Z.key) ∧ wc.drew.cell? ⟨xb, 6, none⟩ = some (.int .i64 Z.v) ∧ wc.drew.cell? ⟨xb, 7, none⟩ = some (.int .i64 Z.seq) ∧ wc.drew.cell? ⟨xb, 8, none⟩ = some (.slice va7 vn7 vc7)) ∧ (wc.drew.cell? ⟨g, o, none⟩ = some (.int .i64 Z.id.1) ∧ wc.drew.cell? ⟨g, o + 1, none⟩ = some (.int .i64 Z.id.2) ∧ wc.drew.cell? ⟨g, o + 2, none⟩ = some (.int .i64 Z.bal) ∧ wc.drew.cell? ⟨g, o + 3, none⟩ = some (.int .i64 Z.st) ∧ wc.drew.cell? ⟨g, o + 4, none⟩ = some (.int .i64 Z.k) ∧ wc.drew.cell? ⟨g, o + 5, none⟩ = some (.int .i64 Z.key) ∧ wc.drew.cell? ⟨g, o + 6, none⟩ = some (.int .i64 Z.v) ∧ wc.drew.cell? ⟨g, o + 7, none⟩ = some (.int .i64 Z.seq) ∧ wc.drew.cell? ⟨g, o + 8, none⟩ = some (.slice za zn zc))) ∧ Below w10.heap.size w10 wc.drew := ⟨h.1, h.2.drew⟩
end
set_option maxRecDepth 100000 in
set_option maxHeartbeats 8000000 in
theorem fnFixOthers_walk (a : Option Addr) (len cap : Nat) (w : World) (hc : CodeIn w a len cap) (hcap : cap ≤ maxLen) (hS0 : SenW w) :
    Calls Tryz.prog 8 #[.slice a len cap] w fun e w' => e = .returned (.bool true) ∧ Below w.heap.size w w' := by
  have dn := dfix_any a len cap w hc hcap
  obtain ⟨a0, a1, hS⟩ := hS0
  by_cases hlen : 1048576 < len
  · go_enter Tryz.func8, Tryz.ntmps8
    go_wp2_with fail
    go_ret
    exact ⟨rfl, Below.refl _ _⟩
  · have hS := Lib.hid hS
    go_enter Tryz.func8, Tryz.ntmps8
    go_wp2_with fail
    refine dn.mono ?_
    rintro e w1 ⟨v, E, X, ux, b1, rfl, O, hl, hin, hb1, OX, B⟩
    obtain ⟨g, cp, hv⟩ := O.len
    subst hv
    obtain ⟨xa, xn, xc, rfl⟩ : ∃ ua un uc, ux = .slice ua un uc := by obtain ⟨c, e, _⟩ := OX.shape; exact ⟨_, _, _, e⟩
    have BA := (Below.refl w1.heap.size w1).alloc (Nat.le_refl _) (.cells #[.int .i64 X.id.1, .int .i64 X.id.2, .int .i64 X.bal, .int .i64 X.st, .int .i64 X.k, .int .i64 X.key, .int .i64 X.v, .int .i64 X.seq, .slice xa xn xc] 30)
    have C2 := Lib.hid (show BxE (w1.alloc (.cells #[.int .i64 X.id.1, .int .i64 X.id.2, .int .i64 X.bal, .int .i64 X.st, .int .i64 X.k, .int .i64 X.key, .int .i64 X.v, .int .i64 X.seq, .slice xa xn xc] 30)) w1.heap.size X (.slice xa xn xc) from heap_alloc_new _ _)
    have O2 := Lib.hid (O.up BA).read
    have I2 := Lib.hid (OX.up BA OX.lt).read
    have D := Lib.hid (bstep B BA)
    have S2 := Lib.hid (hS.out.up D.out)
    have hin := Lib.hid hin
    clear BA B O OX dn hS
    unfold env
    go_upto_region 4 with fail
    obtain ⟨cb, hx2⟩ : ∃ c, Hid (w1.heap.size = c) := ⟨_, Lib.hid rfl⟩
    rw [hx2.out] at C2 ⊢
    generalize w1.alloc (.cells #[.int .i64 X.id.1, .int .i64 X.id.2, .int .i64 X.bal, .int .i64 X.st, .int .i64 X.k, .int .i64 X.key, .int .i64 X.v, .int .i64 X.seq, .slice xa xn xc] 30) = w2 at C2 O2 I2 D S2 ⊢
    clear hx2
    have iv := ifix_any a0 a1 _ (.slice xa xn xc) E X w2 O2.out I2.out hin.out (fun W hb => S2.out.up hb)
    have sv := fun W (hb : Below w2.heap.size w2 W) => sfix_any _ (.slice xa xn xc) E X W (O2.out.up hb (Nat.le_refl _)) (I2.out.up hb (Nat.le_refl _))
    obtain ⟨⟨N, q⟩, hR⟩ : ∃ r, Hid (fixR E X = r) := ⟨_, Lib.hid rfl⟩
    unfold TkZ at iv
    unfold StkP at sv
    rw [hR.out] at iv sv
    dsimp only at iv sv
    unfold env at iv sv
    obtain ⟨n, hn⟩ : ∃ n, Hid (E.length = n) := ⟨_, Lib.hid rfl⟩
    rw [hn.out] at iv sv O2 hl ⊢
    have hm12 : N.length ≤ 12 := by have := fixR_len E X; rw [hR.out] at this; exact this
    obtain ⟨m, hm⟩ : ∃ m, Hid (N.length = m) := ⟨_, Lib.hid rfl⟩
    obtain ⟨⟨b0, b1, b2, b3, b4, b5, b6, b7, b8⟩, bl⟩ := C2.out.cells
    go_wp2_with fail
    refine iv.mono ?_
    rintro e w3 ⟨⟨v5, rfl, L5⟩, B⟩
    obtain ⟨g5, c5, hv5, _⟩ := L5.shape
    subst hv5
    have L5 := Lib.hid L5.read
    have F := Lib.hid B
    have C3 := Lib.hid (C2.out.up F.out)
    rw [hm.out] at L5 hm12 ⊢
    clear iv B b0 b1 b2 b3 b4 b5 b6 b7 b8 bl C2
    obtain ⟨⟨b0, b1, b2, b3, b4, b5, b6, b7, b8⟩, bl⟩ := C3.out.cells
    go_wp2_with fail
    refine (sv _ F.out).mono ?_
    rintro e w5 ⟨v6, rfl, O6, B⟩
    obtain ⟨g6, c6, hv6⟩ := O6.len
    subst hv6
    have L6 := Lib.hid O6.read
    rw [hm.out] at L6 ⊢
    replace L5 := Lib.hid (L5.out.up B (Nat.le_refl _))
    replace C3 := Lib.hid (C3.out.up B)
    replace F := Lib.hid (bstep F.out B)
    clear sv B O6 b0 b1 b2 b3 b4 b5 b6 b7 b8 bl
    have sm := fun W (hb : Below w5.heap.size w5 W) => smL_any _ _ N W (L5.out.up hb (Nat.le_refl _)) (L6.out.up hb (Nat.le_refl _))
    go_wp2_with fail
    refine (sm _ (Below.refl _ _)).mono ?_
    rintro e w8 ⟨rfl, B⟩
    have K7 := Lib.hid B
    clear B
    cases q
    · go_wp2_with fail
      refine (sm _ K7.out).mono ?_
      rintro e w10 ⟨rfl, B⟩
      replace K7 := Lib.hid (bstep K7.out B)
      have D9 := Lib.hid (bstep D.out (bstep F.out K7.out))
      clear B
      go_wp2_with fail
      go_ret
      exact ⟨rfl, D9.out⟩
    · clear sm
      have hq := Lib.hid (show (fixR E X).2 = true by rw [hR.out])
      have hN := Lib.hid (show (fixR E X).1 = N by rw [hR.out])
      replace L5 := Lib.hid (L5.out.up K7.out (Nat.le_refl _))
      replace C3 := Lib.hid (C3.out.up K7.out)
      replace F := Lib.hid (bstep F.out K7.out)
      have O8 := Lib.hid (O2.out.up F.out (Nat.le_refl _))
      have I8 := Lib.hid (I2.out.up F.out (Nat.le_refl _))
      have S8 := Lib.hid (S2.out.up F.out)
      have D8 := Lib.hid (bstep D.out F.out)
      clear L6 F K7 O2 I2 S2 D hR
      have hlog := (fix_is hq.out).1
      have hfo := fun (k : Nat) (hk : k < E.length) (h : ¬ (E.getD k en0).id = X.id) => fix_other hq.out hk h
      have hlen := fix_len hq.out
      rw [hN.out, hm.out, hn.out] at hlen
      rw [hN.out] at hfo
      have hfo := Lib.hid hfo
      have hlog := Lib.hid hlog
      clear hq hN S8 I8
      obtain ⟨U, hA⟩ : ∃ U, n = 0 ∨ EnsAt w8 g 0 E U := by
        obtain ⟨a', c', e, _, _, h3⟩ := O8.out
        injection e with e _ _
        rcases h3 with h3 | ⟨b, off, U, e2, h4⟩
        · exact ⟨fun _ => .slice none 0 0, .inl (hn.out.symm.trans h3)⟩
        · rw [e2] at e; obtain ⟨rfl, rfl⟩ : g = b ∧ 0 = off := (by simpa using e); exact ⟨U, .inr h4⟩
      have hA := Lib.hid hA
      clear O8
      go_wp2_with fail
      go_loopw [9] (fun i wr => ∃ (k : Nat), k ≤ n ∧ i = .int .i64 k ∧ Hid (Below w8.heap.size w8 wr)) (fun i _ => n - (intOf i).toNat)
      case atStart => exact ⟨0, Nat.zero_le _, rfl, Lib.hid (Below.refl _ _)⟩
      case round =>
        obtain ⟨k, hk, rfl, hR⟩ := hrel
        by_cases hlt : k < n
        · have hkE : k < E.length := by rw [hn.out]; exact hlt
          obtain ⟨Z, hZ⟩ : ∃ x, Hid (E.getD k en0 = x) := ⟨_, Lib.hid rfl⟩
          have hA2 := hA.out.resolve_left (by omega)
          obtain ⟨za, zn, zc, hU⟩ : ∃ ua un uc, U k = .slice ua un uc := by obtain ⟨a, c, e, _⟩ := (hA2.at_ k hkE).ids; exact ⟨a, _, c, e⟩
          have xat : ∀ W, Below w8.heap.size w8 W → EnAt W g (k * 9) Z (.slice za zn zc) := fun W hb => by
            have := (hA2.up hb (Nat.le_refl _)).at_ k hkE
            rw [hZ.out, hU, Nat.zero_add] at this; exact this
          have hbl : ∀ W, Below w8.heap.size w8 W → g < W.heap.size := fun W hb => (hA2.up hb (Nat.le_refl _)).lt
          have hZi : Hid (inR Z.id) := Lib.hid (by rw [← hZ.out]; exact inR_ok (log_num hlog.out hkE))
          have hfo2 := hfo.out k hkE
          rw [hZ.out] at hfo2
          clear hA2 hU hZ
          have C4 := C3.out.up hR.out
          obtain ⟨⟨b0, b1, b2, b3, b4, b5, b6, b7, b8⟩, bl⟩ := C4.cells
          obtain ⟨q0, q1, q2, q3, q4, q5, q6, q7, q8, qi⟩ := xat _ hR.out
          have qb := hbl _ hR.out
          clear C4
          by_cases hid : Z.id = X.id
          · rw [hid] at q0 q1
            go_wp2_with fail
            go_quiet (fail)
            have hR2 := Lib.hid (bdrewN hR.out nq)
            generalize wr.drewN nq = wz at hR2 ⊢
            clear b0 b1 b2 b3 b4 b5 b6 b7 b8 bl q0 q1 q2 q3 q4 q5 q6 q7 q8 qi qb hR
            go_wp2_with fail
            go_roundw
            case rel => exact ⟨k + 1, by omega, by go_num, hR2⟩
            case measure => simp [intOf]; omega
          · have hfo := Lib.hid (hfo2 hid)
            clear hfo2
            rcases pid_ne hid with hne | ⟨hne0, hne⟩
            · go_wp2_with fail
              go_quiet (fail)
              have hRz := Lib.hid (bdrewN hR.out nq)
              generalize wr.drewN nq = wz at hRz ⊢
              clear b0 b1 b2 b3 b4 b5 b6 b7 b8 bl q0 q1 q2 q3 q4 q5 q6 q7 q8 qi qb hne
              have lf := ilfind_any _ N Z.id.1 Z.id.2 wz (L5.out.up hRz.out (Nat.le_refl _)) hZi.out
              unfold LfP at lf
              rw [show ((Z.id.1, Z.id.2) : Pid) = Z.id from rfl, hfo.out] at lf
              dsimp only at lf
              unfold env at lf
              obtain ⟨q0, q1, q2, q3, q4, q5, q6, q7, q8, qi⟩ := xat _ hRz.out
              have qb := hbl _ hRz.out
              go_wp2_with fail
              refine lf.mono ?_
              rintro e w9 ⟨u7, rfl, O7, B⟩
              obtain ⟨va7, vn7, vc7, rfl⟩ : ∃ ua un uc, u7 = .slice ua un uc := by obtain ⟨a, c, e, _⟩ := O7.read; exact ⟨a, _, c, e⟩
              have BA := (Below.refl w9.heap.size w9).alloc (Nat.le_refl _) (.cells #[.int .i64 Z.id.1, .int .i64 Z.id.2, .int .i64 Z.bal, .int .i64 Z.st, .int .i64 Z.k, .int .i64 Z.key, .int .i64 Z.v, .int .i64 Z.seq, .slice va7 vn7 vc7] 30)
              have G7 := Lib.hid (show BxE (w9.alloc (.cells #[.int .i64 Z.id.1, .int .i64 Z.id.2, .int .i64 Z.bal, .int .i64 Z.st, .int .i64 Z.k, .int .i64 Z.key, .int .i64 Z.v, .int .i64 Z.seq, .slice va7 vn7 vc7] 30)) w9.heap.size Z (.slice va7 vn7 vc7) from heap_alloc_new _ _)
              have I7 := Lib.hid ((O7.up BA).read)
              have B2 := bstep B BA
              have hR9 := Lib.hid (bstep hRz.out B2)
              clear lf B BA B2 O7 q0 q1 q2 q3 q4 q5 q6 q7 q8 qi qb hRz hR
              go_upto_region 13 with fail
              obtain ⟨xb, hxb⟩ : ∃ c, Hid (w9.heap.size = c) := ⟨_, Lib.hid rfl⟩
              rw [hxb.out] at G7 ⊢
              generalize w9.alloc (.cells #[.int .i64 Z.id.1, .int .i64 Z.id.2, .int .i64 Z.bal, .int .i64 Z.st, .int .i64 Z.k, .int .i64 Z.key, .int .i64 Z.v, .int .i64 Z.seq, .slice va7 vn7 vc7] 30) = w10 at G7 I7 hR9 ⊢
              clear hxb
              have EZ := xat _ hR9.out
              have qb := hbl _ hR9.out
              obtain ⟨o, ho⟩ : ∃ o, k * 9 = o := ⟨_, rfl⟩
              rw [ho] at EZ
              obtain ⟨⟨r0, r1, r2, r3, r4, r5, r6, r7, r8⟩, rl⟩ := G7.out.cells
              have H0 := Lib.hid (show ((w10.cell? ⟨xb, 0, none⟩ = some (.int .i64 Z.id.1) ∧ w10.cell? ⟨xb, 1, none⟩ = some (.int .i64 Z.id.2) ∧ w10.cell? ⟨xb, 2, none⟩ = some (.int .i64 Z.bal) ∧ w10.cell? ⟨xb, 3, none⟩ = some (.int .i64 Z.st) ∧ w10.cell? ⟨xb, 4, none⟩ = some (.int .i64 Z.k) ∧ w10.cell? ⟨xb, 5, none⟩ = some (.int .i64 Z.key) ∧ w10.cell? ⟨xb, 6, none⟩ = some (.int .i64 Z.v) ∧ w10.cell? ⟨xb, 7, none⟩ = some (.int .i64 Z.seq) ∧ w10.cell? ⟨xb, 8, none⟩ = some (.slice va7 vn7 vc7)) ∧ (w10.cell? ⟨g, o, none⟩ = some (.int .i64 Z.id.1) ∧ w10.cell? ⟨g, o + 1, none⟩ = some (.int .i64 Z.id.2) ∧ w10.cell? ⟨g, o + 2, none⟩ = some (.int .i64 Z.bal) ∧ w10.cell? ⟨g, o + 3, none⟩ = some (.int .i64 Z.st) ∧ w10.cell? ⟨g, o + 4, none⟩ = some (.int .i64 Z.k) ∧ w10.cell? ⟨g, o + 5, none⟩ = some (.int .i64 Z.key) ∧ w10.cell? ⟨g, o + 6, none⟩ = some (.int .i64 Z.v) ∧ w10.cell? ⟨g, o + 7, none⟩ = some (.int .i64 Z.seq) ∧ w10.cell? ⟨g, o + 8, none⟩ = some (.slice za zn zc))) ∧ Below w10.heap.size w10 w10 from ⟨⟨⟨r0, r1, r2, r3, r4, r5, r6, r7, r8⟩, EZ.c0, EZ.c1, EZ.c2, EZ.c3, EZ.c4, EZ.c5, EZ.c6, EZ.c7, EZ.c8⟩, Below.refl _ _⟩)
              have se := fun W (hb : Below w10.heap.size w10 W) => sameE_self Z (.slice va7 vn7 vc7) (.slice za zn zc) W (I7.out.up hb (Nat.le_refl _)) (EZ.ids.up hb (Nat.le_refl _))
              unfold env at se
              clear r0 r1 r2 r3 r4 r5 r6 r7 r8 rl EZ G7
              go_region_held3 (fun w' => ((w'.cell? ⟨xb, 0, none⟩ = some (.int .i64 Z.id.1) ∧ w'.cell? ⟨xb, 1, none⟩ = some (.int .i64 Z.id.2) ∧ w'.cell? ⟨xb, 2, none⟩ = some (.int .i64 Z.bal) ∧ w'.cell? ⟨xb, 3, none⟩ = some (.int .i64 Z.st) ∧ w'.cell? ⟨xb, 4, none⟩ = some (.int .i64 Z.k) ∧ w'.cell? ⟨xb, 5, none⟩ = some (.int .i64 Z.key) ∧ w'.cell? ⟨xb, 6, none⟩ = some (.int .i64 Z.v) ∧ w'.cell? ⟨xb, 7, none⟩ = some (.int .i64 Z.seq) ∧ w'.cell? ⟨xb, 8, none⟩ = some (.slice va7 vn7 vc7)) ∧ (w'.cell? ⟨g, o, none⟩ = some (.int .i64 Z.id.1) ∧ w'.cell? ⟨g, o + 1, none⟩ = some (.int .i64 Z.id.2) ∧ w'.cell? ⟨g, o + 2, none⟩ = some (.int .i64 Z.bal) ∧ w'.cell? ⟨g, o + 3, none⟩ = some (.int .i64 Z.st) ∧ w'.cell? ⟨g, o + 4, none⟩ = some (.int .i64 Z.k) ∧ w'.cell? ⟨g, o + 5, none⟩ = some (.int .i64 Z.key) ∧ w'.cell? ⟨g, o + 6, none⟩ = some (.int .i64 Z.v) ∧ w'.cell? ⟨g, o + 7, none⟩ = some (.int .i64 Z.seq) ∧ w'.cell? ⟨g, o + 8, none⟩ = some (.slice za zn zc))) ∧ Below w10.heap.size w10 w') (first | exact fo_drew H0.out | assumption | exact fo_keep (by assumption) (by assumption))
                (first | (go_at_call 23; (with_reducible refine (se _ (by assumption : ((_ ∧ _ ∧ _ ∧ _ ∧ _ ∧ _ ∧ _ ∧ _ ∧ _) ∧ (_ ∧ _ ∧ _ ∧ _ ∧ _ ∧ _ ∧ _ ∧ _ ∧ _)) ∧ Below w10.heap.size w10 _).2).mono ?_); rintro e w' ⟨rfl, hb⟩))
              rename_i H3
              have K3 := Lib.hid (show (((_ ∧ _ ∧ _ ∧ _ ∧ _ ∧ _ ∧ _ ∧ _ ∧ _) ∧ (_ ∧ _ ∧ _ ∧ _ ∧ _ ∧ _ ∧ _ ∧ _ ∧ _)) ∧ Below w10.heap.size w10 _) from H3).2
              have hR2 := Lib.hid (bstep hR9.out K3.out)
              clear H3 H0 se K3 hR9 I7 ho qb
              go_wp2_with fail
              go_roundw
              case rel => exact ⟨k + 1, by omega, by go_num, hR2⟩
              case measure => simp [intOf]; omega
            · go_wp2_with fail
              go_quiet (fail)
              have hRz := Lib.hid (bdrewN hR.out nq)
              generalize wr.drewN nq = wz at hRz ⊢
              clear b0 b1 b2 b3 b4 b5 b6 b7 b8 bl q0 q1 q2 q3 q4 q5 q6 q7 q8 qi qb hne hne0
              have lf := ilfind_any _ N Z.id.1 Z.id.2 wz (L5.out.up hRz.out (Nat.le_refl _)) hZi.out
              unfold LfP at lf
              rw [show ((Z.id.1, Z.id.2) : Pid) = Z.id from rfl, hfo.out] at lf
              dsimp only at lf
              unfold env at lf
              obtain ⟨q0, q1, q2, q3, q4, q5, q6, q7, q8, qi⟩ := xat _ hRz.out
              have qb := hbl _ hRz.out
              go_wp2_with fail
              refine lf.mono ?_
              rintro e w9 ⟨u7, rfl, O7, B⟩
              obtain ⟨va7, vn7, vc7, rfl⟩ : ∃ ua un uc, u7 = .slice ua un uc := by obtain ⟨a, c, e, _⟩ := O7.read; exact ⟨a, _, c, e⟩
              have BA := (Below.refl w9.heap.size w9).alloc (Nat.le_refl _) (.cells #[.int .i64 Z.id.1, .int .i64 Z.id.2, .int .i64 Z.bal, .int .i64 Z.st, .int .i64 Z.k, .int .i64 Z.key, .int .i64 Z.v, .int .i64 Z.seq, .slice va7 vn7 vc7] 30)
              have G7 := Lib.hid (show BxE (w9.alloc (.cells #[.int .i64 Z.id.1, .int .i64 Z.id.2, .int .i64 Z.bal, .int .i64 Z.st, .int .i64 Z.k, .int .i64 Z.key, .int .i64 Z.v, .int .i64 Z.seq, .slice va7 vn7 vc7] 30)) w9.heap.size Z (.slice va7 vn7 vc7) from heap_alloc_new _ _)
              have I7 := Lib.hid ((O7.up BA).read)
              have B2 := bstep B BA
              have hR9 := Lib.hid (bstep hRz.out B2)
              clear lf B BA B2 O7 q0 q1 q2 q3 q4 q5 q6 q7 q8 qi qb hRz hR
              go_upto_region 13 with fail
              obtain ⟨xb, hxb⟩ : ∃ c, Hid (w9.heap.size = c) := ⟨_, Lib.hid rfl⟩
              rw [hxb.out] at G7 ⊢
              generalize w9.alloc (.cells #[.int .i64 Z.id.1, .int .i64 Z.id.2, .int .i64 Z.bal, .int .i64 Z.st, .int .i64 Z.k, .int .i64 Z.key, .int .i64 Z.v, .int .i64 Z.seq, .slice va7 vn7 vc7] 30) = w10 at G7 I7 hR9 ⊢
              clear hxb
              have EZ := xat _ hR9.out
              have qb := hbl _ hR9.out
              obtain ⟨o, ho⟩ : ∃ o, k * 9 = o := ⟨_, rfl⟩
              rw [ho] at EZ
              obtain ⟨⟨r0, r1, r2, r3, r4, r5, r6, r7, r8⟩, rl⟩ := G7.out.cells
              have H0 := Lib.hid (show ((w10.cell? ⟨xb, 0, none⟩ = some (.int .i64 Z.id.1) ∧ w10.cell? ⟨xb, 1, none⟩ = some (.int .i64 Z.id.2) ∧ w10.cell? ⟨xb, 2, none⟩ = some (.int .i64 Z.bal) ∧ w10.cell? ⟨xb, 3, none⟩ = some (.int .i64 Z.st) ∧ w10.cell? ⟨xb, 4, none⟩ = some (.int .i64 Z.k) ∧ w10.cell? ⟨xb, 5, none⟩ = some (.int .i64 Z.key) ∧ w10.cell? ⟨xb, 6, none⟩ = some (.int .i64 Z.v) ∧ w10.cell? ⟨xb, 7, none⟩ = some (.int .i64 Z.seq) ∧ w10.cell? ⟨xb, 8, none⟩ = some (.slice va7 vn7 vc7)) ∧ (w10.cell? ⟨g, o, none⟩ = some (.int .i64 Z.id.1) ∧ w10.cell? ⟨g, o + 1, none⟩ = some (.int .i64 Z.id.2) ∧ w10.cell? ⟨g, o + 2, none⟩ = some (.int .i64 Z.bal) ∧ w10.cell? ⟨g, o + 3, none⟩ = some (.int .i64 Z.st) ∧ w10.cell? ⟨g, o + 4, none⟩ = some (.int .i64 Z.k) ∧ w10.cell? ⟨g, o + 5, none⟩ = some (.int .i64 Z.key) ∧ w10.cell? ⟨g, o + 6, none⟩ = some (.int .i64 Z.v) ∧ w10.cell? ⟨g, o + 7, none⟩ = some (.int .i64 Z.seq) ∧ w10.cell? ⟨g, o + 8, none⟩ = some (.slice za zn zc))) ∧ Below w10.heap.size w10 w10 from ⟨⟨⟨r0, r1, r2, r3, r4, r5, r6, r7, r8⟩, EZ.c0, EZ.c1, EZ.c2, EZ.c3, EZ.c4, EZ.c5, EZ.c6, EZ.c7, EZ.c8⟩, Below.refl _ _⟩)
              have se := fun W (hb : Below w10.heap.size w10 W) => sameE_self Z (.slice va7 vn7 vc7) (.slice za zn zc) W (I7.out.up hb (Nat.le_refl _)) (EZ.ids.up hb (Nat.le_refl _))
              unfold env at se
              clear r0 r1 r2 r3 r4 r5 r6 r7 r8 rl EZ G7
              go_region_held3 (fun w' => ((w'.cell? ⟨xb, 0, none⟩ = some (.int .i64 Z.id.1) ∧ w'.cell? ⟨xb, 1, none⟩ = some (.int .i64 Z.id.2) ∧ w'.cell? ⟨xb, 2, none⟩ = some (.int .i64 Z.bal) ∧ w'.cell? ⟨xb, 3, none⟩ = some (.int .i64 Z.st) ∧ w'.cell? ⟨xb, 4, none⟩ = some (.int .i64 Z.k) ∧ w'.cell? ⟨xb, 5, none⟩ = some (.int .i64 Z.key) ∧ w'.cell? ⟨xb, 6, none⟩ = some (.int .i64 Z.v) ∧ w'.cell? ⟨xb, 7, none⟩ = some (.int .i64 Z.seq) ∧ w'.cell? ⟨xb, 8, none⟩ = some (.slice va7 vn7 vc7)) ∧ (w'.cell? ⟨g, o, none⟩ = some (.int .i64 Z.id.1) ∧ w'.cell? ⟨g, o + 1, none⟩ = some (.int .i64 Z.id.2) ∧ w'.cell? ⟨g, o + 2, none⟩ = some (.int .i64 Z.bal) ∧ w'.cell? ⟨g, o + 3, none⟩ = some (.int .i64 Z.st) ∧ w'.cell? ⟨g, o + 4, none⟩ = some (.int .i64 Z.k) ∧ w'.cell? ⟨g, o + 5, none⟩ = some (.int .i64 Z.key) ∧ w'.cell? ⟨g, o + 6, none⟩ = some (.int .i64 Z.v) ∧ w'.cell? ⟨g, o + 7, none⟩ = some (.int .i64 Z.seq) ∧ w'.cell? ⟨g, o + 8, none⟩ = some (.slice za zn zc))) ∧ Below w10.heap.size w10 w') (first | exact fo_drew H0.out | assumption | exact fo_keep (by assumption) (by assumption))
                (first | (go_at_call 23; (with_reducible refine (se _ (by assumption : ((_ ∧ _ ∧ _ ∧ _ ∧ _ ∧ _ ∧ _ ∧ _ ∧ _) ∧ (_ ∧ _ ∧ _ ∧ _ ∧ _ ∧ _ ∧ _ ∧ _ ∧ _)) ∧ Below w10.heap.size w10 _).2).mono ?_); rintro e w' ⟨rfl, hb⟩))
              rename_i H3
              have K3 := Lib.hid (show (((_ ∧ _ ∧ _ ∧ _ ∧ _ ∧ _ ∧ _ ∧ _ ∧ _) ∧ (_ ∧ _ ∧ _ ∧ _ ∧ _ ∧ _ ∧ _ ∧ _ ∧ _)) ∧ Below w10.heap.size w10 _) from H3).2
              have hR2 := Lib.hid (bstep hR9.out K3.out)
              clear H3 H0 se K3 hR9 I7 ho qb
              go_wp2_with fail
              go_roundw
              case rel => exact ⟨k + 1, by omega, by go_num, hR2⟩
              case measure => simp [intOf]; omega
        · obtain rfl : k = n := by omega
          have hle : decide ((m : Int) - (k : Int) ≤ 1) = true := decide_eq_true (by omega)
          have D9 := Lib.hid (bstep D8.out hR.out)
          clear hR
          go_wp2_with fail
          go_ret
          exact ⟨by first | rfl | simp | (simp; omega), D9.out⟩
end Go.Proofs.YtiolhjjkjmepcaaGreatDoor
