/- Commands are drawn: spec.l91Commands, DrawStateRun. -/
import Derived.Test.YtmekkjnegmeogaaCmdl
import Derived.Test.YtmekkjnegmeogaaDst
namespace Go.Proofs.Ytmekkjnegmeogaa
open Go.RowKit
set_option linter.unusedVariables false

/-- What l91Commands leaves. -/
def CsPost (r n : Nat) (w : World) (e : Ending) (w' : World) : Prop :=
  ∃ b u C, e = .returned u ∧ w.heap.size ≤ b ∧ OwnC w' b u C ∧ C.length ≤ 21 ∧ Rd w' r (n + 200) ∧ Keep w.heap.size r w w'

/-- The relation of its loop. -/
def CsRel (r n : Nat) (w : World) (k : Nat) (v : Value) (wr : World) : Prop :=
  ∃ C : List Cm, C.length = k ∧ wr.ownsRow w.heap.size 25 3 v k (flat C) ∧ (v ≠ .slice none 0 0) ∧ Rd wr r (n + 3 + 6 * k) ∧ Keep w.heap.size r w wr

theorem cs_next {r n k : Nat} {w w1 w2 : World} {C : List Cm} {v v' : Value} {x y z : Int} (hrl : r < w.heap.size) (hown : w2.ownsRow w.heap.size 25 3 v' (k + 1) (flat C ++ [.int .i64 x, .int .i64 y, .int .i64 z])) (hL : C.length = k)
    (hgrow : w1.grownBy w2 (Value.ownBlock v)) (hv : ∀ j, Value.ownBlock v = some j → w.heap.size ≤ j) (hn : v' ≠ .slice none 0 0) (hrd : Rd w1 r (n + 3 + 6 * (k + 1))) (hk : Keep w.heap.size r w w1) : CsRel r n w (k + 1) v' w2 := by
  refine ⟨C ++ [(x, y, z)], by simp [hL], by rw [flat_app]; exact hown, hn, ?_, ?_⟩
  · exact hrd.kept ⟨hgrow.os, hgrow.tape, hgrow.output, hgrow.size, fun j hj => hgrow.block j (by have := hrd.lt; omega) (fun e => by have := hv j e.symm; omega)⟩
  · exact hk.trans ⟨hgrow.os, hgrow.tape, hgrow.output, hgrow.size, fun j hj _ => hgrow.block j (by have := hk.size; omega) (fun e => by have := hv j e.symm; omega)⟩

/-- Behind the count. -/
def CsCut (r n : Nat) (w : World) (s3 s4 : Value) (wx : World) : Prop :=
  ∃ m : Nat, m ≤ 21 ∧ s4 = .int .i64 m ∧ CsRel r n w 0 s3 wx

set_option maxHeartbeats 4000000 in
theorem cs_any (r n : Nat) (w : World) (hrd : Rd w r n) (hn : n ≤ 800000000) :
    Calls Try.prog 45 #[.pointer (some ⟨r, 0, none⟩)] w (CsPost r n w) := by
  have hrl := hrd.lt
  obtain ⟨i0, hi, hz0, hz1, hz2⟩ := info_parts info_cmd
  have hown0 : Hid ((w.alloc (.cells #[] 25)).ownsRow w.heap.size 25 3 (.slice (some ⟨w.heap.size, 0, none⟩) 0 0) 0 []) := Lib.hid (World.ownsRow_made _ #[] 0 (Nat.le_refl _) (Nat.zero_le _) rfl)
  have hrd := Lib.hid hrd
  go_enter Try.func45, Try.ntmps45
  go_wp2_with fail
  refine (pick_any 7 r n _ (hrd.out.alloc _) (by omega)).mono ?_
  rintro e w1 ⟨m, rfl, m0, m1', hr1, hk1⟩
  have m1 := m1' (by omega)
  have s1 : w.heap.size + 1 ≤ w1.heap.size := by simpa using hk1.size
  have K1 := Lib.hid (((Keep.refl w.heap.size r w).alloc (Nat.le_refl _) (.cells #[] 25)).trans (hk1.mono (by simp)))
  have O1 := Lib.hid (row_keep hown0.out hk1 hrl)
  have hr1 := Lib.hid hr1
  clear hk1 hown0 m1' hrd
  go_wp2_with fail
  refine (pick_any 20 r (n + 1) _ hr1.out (by omega)).mono ?_
  rintro e w2 ⟨q, rfl, q0, q1', hr2, hk2⟩
  have s2 := hk2.size
  have K2 := Lib.hid (K1.out.trans (hk2.mono (by omega)))
  have O2 := Lib.hid (row_keep O1.out hk2 hrl)
  have hr2 := Lib.hid hr2
  clear hk2 O1 K1 hr1 q1'
  obtain ⟨m, rfl⟩ := Int.eq_ofNat_of_zero_le m0
  go_upto_if 11 with (fail)
  go_cut [3, 4] (fun s3 s4 wx => CsCut r n w s3 s4 wx)
  case first =>
    by_cases e0 : q = 0
    · subst e0
      go_wp2_with fail
      refine (pick_any 2 r (n + 2) _ hr2.out (by omega)).mono ?_
      rintro e w3 ⟨z, rfl, z0, z1', hr3, hk3⟩
      have z1 := z1' (by omega)
      have K3 := Lib.hid (K2.out.trans (hk3.mono (by omega)))
      have O3 := Lib.hid (row_keep O2.out hk3 hrl)
      have hr3 := Lib.hid hr3
      obtain ⟨zn, rfl⟩ := Int.eq_ofNat_of_zero_le z0
      clear hk3 O2 K2 hr2 z1'
      go_wp2_with fail
      go_meet
      exact ⟨20 + zn, by omega, by go_num, [], rfl, O3.out, by simp, hr3.out.more (by omega), K3.out⟩
    · have e0' : (q == 0) = false := by simpa using e0
      clear e0
      go_wp2_with fail
      go_meet
      exact ⟨m, by omega, rfl, [], rfl, O2.out, by simp, hr2.out.more (by omega), K2.out⟩
  case rest =>
    obtain ⟨c, hc, rfl, hR0⟩ := hcut
    have hR0 := Lib.hid hR0
    clear O2 K2 hr2 s1 s2
    go_wp2_with fail
    go_loopw [3, 5] (fun v i wr => ∃ k : Nat, k ≤ c ∧ i = .int .i64 k ∧ CsRel r n w k v wr) (fun _ i _ => c - (intOf i).toNat)
    case atStart => exact ⟨0, Nat.zero_le _, rfl, hR0.out⟩
    case round =>
      obtain ⟨k, hk, rfl, C, hL, hown, hvn, hr0, hk0⟩ := hrel
      have hs0 := hk0.size
      have hown := Lib.hid hown
      have hvn := Lib.hid hvn
      have hk0 := Lib.hid hk0
      have hL := Lib.hid hL
      have hr0 := Lib.hid hr0
      clear hR0
      by_cases hlt : k < c
      · go_wp2_with fail
        refine (cmd_any r (n + 3 + 6 * k) _ hr0.out (by omega)).mono ?_
        rintro e w3 ⟨x, y, z, rfl, _, _, _, hr3, hk3⟩
        have s3 := hk3.size
        have K3 := Lib.hid (hk0.out.trans (hk3.mono (by omega)))
        have O3 := Lib.hid (row_keep hown.out hk3 hrl)
        have hr3 := Lib.hid hr3
        clear hk3 hown hk0 hr0
        go_wp2_with (at_builtin; refine wpList_append_own _ rfl _ _ 33 rfl w.heap.size 25 i0 (.agg #[.int .i64 0, .int .i64 0, .int .i64 0]) 3 24 Try.underlying33 hi hz0 hz1 hz2 rfl (by decide) _ _ _ rfl (O3.out.alloc _) ⟨w3.heap.size, 0, none⟩ 1 1 [.int .i64 x, .int .i64 y, .int .i64 z] rfl rfl ?c1 ?c2 ?c3 ?c4 ?c5 ?_)
        case c1 =>
          intro j u hj
          match j, hj with
          | 0, hj => simp at hj; subst hj; simp [Addr.add]
          | 1, hj => simp at hj; subst hj; simp [Addr.add]
          | 2, hj => simp at hj; subst hj; simp [Addr.add]
          | j + 3, hj => simp at hj
        case c2 => intro u hu; simp at hu; rcases hu with rfl | rfl | rfl <;> rfl
        case c3 => unfold maxLen; omega
        case c4 => omega
        case c5 => simp; omega
        intro v' w4 hown' hgrow hnil
        have hnil := Lib.hid hnil
        have R := Lib.hid (cs_next (n := n) (k := k) (x := x) (y := y) (z := z) hrl hown' hL.out hgrow (fun j hj => (O3.out.lt j hj).1) (fun e => hnil.out e) ((hr3.out.alloc _).more (by omega)) (K3.out.alloc (by omega) _))
        clear hown' hgrow hnil hr3 K3 O3 hvn hL
        go_wp2_with fail
        go_roundw
        case rel => exact ⟨k + 1, by omega, by go_num, R.out⟩
        case measure => simp [intOf]; omega
      · obtain rfl : k = c := by omega
        obtain ⟨g, hg, hO⟩ := OwnC.of_row hown.out hL.out.symm (by have := hL.out; omega) hvn.out
        have hO := Lib.hid hO
        clear hown hvn
        go_wp2_with fail
        go_ret
        exact ⟨g, _, C, rfl, hg, hO.out, by have := hL.out; omega, hr0.out.more (by omega), hk0.out⟩

/-- What DrawStateRun leaves. -/
def DrPost (w : World) (e : Ending) (w' : World) : Prop :=
  ∃ (b : Nat) (u : Value) (L : List Int) (b' : Nat) (u' : Value) (C : List Cm), e = .returned (.tuple #[u, u']) ∧ Own w' b u L ∧ OwnC w' b' u' C ∧ C.length ≤ 21 ∧ Below w.heap.size w w'

set_option maxHeartbeats 2000000 in
theorem drun_any (a : Option Addr) (len cap : Nat) (w : World) (hc : CodeIn w a len cap) (hcap : cap ≤ maxLen) :
    Calls Try.prog 20 #[.slice a len cap] w (DrPost w) := by
  have hc := Lib.hid hc
  have hcap := Lib.hid hcap
  go_enter Try.func20, Try.ntmps20
  go_wp2_with fail
  refine (open_any a len cap _ hc.out hcap.out).mono ?_
  rintro e w1 ⟨r, rfl, hr0, hr', hb'⟩
  have s1 := hb'.size
  have D1 : Hid (Below w.heap.size w w1) := Lib.hid hb'
  have hr1 := Lib.hid hr'
  clear hr' hb' hc hcap
  have hrl := hr1.out.lt
  go_wp2_with fail
  refine (st_any r 0 _ hr1.out (by omega)).mono ?_
  rintro e w2 ⟨b, u, L, rfl, hb, hO, hr2, hk2⟩
  have s2 := hk2.size
  have D2 : Hid (Below w.heap.size w w2) := Lib.hid (D1.out.trans ((hk2.mono (by omega)).below (by omega)))
  have hO2 := Lib.hid hO
  have hr2 := Lib.hid hr2
  clear hk2 D1 hr1 hO
  go_wp2_with fail
  refine (cs_any r 21 _ hr2.out (by omega)).mono ?_
  rintro e w3 ⟨b', u', C, rfl, hb', hOC, hCl, hr3, hk3⟩
  have D3 : Hid (Below w.heap.size w w3) := Lib.hid (D2.out.trans ((hk3.mono (by omega)).below (by omega)))
  have hO3 := Lib.hid (hO2.out.same (hk3.block b hO2.out.lt (by omega)))
  have hOC := Lib.hid hOC
  clear hk3 D2 hr2 hO2 hr3
  go_wp2_with fail
  go_ret2
  exact ⟨b, u, L, b', u', C, rfl, hO3.out, hOC.out, hCl, D3.out⟩
end Go.Proofs.Ytmekkjnegmeogaa
