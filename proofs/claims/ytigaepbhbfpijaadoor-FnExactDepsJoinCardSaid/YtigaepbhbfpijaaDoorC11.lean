/- Texts laid together. -/
import Derived.Test.YtigaepbhbfpijaaDoorC05
import Derived.Test.YtigaepbhbfpijaaDoorC10
/- Draws of lists of ids: l91Ids. -/
namespace Go.Proofs.YtigaepbhbfpijaaDoor
open Go.RowKit
set_option linter.unusedVariables false

theorem Row.keep {w w' : World} {B r : Nat} {v : Value} {O : List Pid} (h : Row w B v O) (hk : Keep w.heap.size r w w') (hr : r < B) : Row w' B v O := ⟨row_keep h.1 hk hr, h.2⟩

theorem ids_next {w w1 w2 : World} {r m : Nat} {v v' : Value} {O : List Pid} {x y : Int} {o : Obj} (hrl : r < w.heap.size) (hR : Row w1 w.heap.size v O) (hown : w2.ownsRow w.heap.size 31 2 v' (O.length + 1) (flatP O ++ [.int .i64 x, .int .i64 y]))
    (hg : (w1.alloc o).grownBy w2 (Value.ownBlock v)) (hn : v' ≠ .slice none 0 0) (hrd : Rd w1 r m) (hk : Keep w.heap.size r w w1) : Row w2 w.heap.size v' (O ++ [(x, y)]) ∧ Rd w2 r m ∧ Keep w.heap.size r w w2 := by
  have hR1 : Row (w1.alloc o) w.heap.size v O := hR.up ((Below.refl _ _).alloc (Nat.le_refl _) _)
  have B2 := grown_below hR1 hg (by have := hk.size; simp; omega)
  exact ⟨hR.put hown hn, (hrd.alloc o).kept (B2.mono (by omega)), (hk.alloc hk.size o).trans (Keep.of_below B2)⟩

/-- What l91Ids leaves. -/
def IdsPost (r : Nat) (w : World) (e : Ending) (w' : World) : Prop :=
  ∃ u C, e = .returned u ∧ Ids w' u C ∧ C.length ≤ 13 ∧ Keep w.heap.size r w w'

/-- .. with the reader's place. -/
def IdsPostN (r n : Nat) (w : World) (e : Ending) (w' : World) : Prop :=
  ∃ u C, e = .returned u ∧ Ids w' u C ∧ C.length ≤ 13 ∧ Rd w' r (n + 40) ∧ Keep w.heap.size r w w'

theorem row_ids {w : World} {B g cap : Nat} {O : List Pid} {z : Nat} (h : Row w B (.slice (some ⟨g, 0, none⟩) O.length cap) O) (hz : z ≤ O.length) (hc : O.length ≤ cap) (hl : O.length ≤ 2000000) : Ids w (.slice (some ⟨g, z * 2, none⟩) (O.length - z) (cap - z)) (O.drop z) := by
  obtain ⟨cur, hcur, _, _, _, _, hcs⟩ := h.parts
  refine ⟨_, _, by rw [List.length_drop], by rw [List.length_drop]; omega, by rw [List.length_drop]; omega, .inr ⟨g, z * 2, rfl, lt_of_heap hcur, fun i hi => ?_⟩⟩
  rw [List.length_drop] at hi
  have := flatP_get O (z + i) (by omega)
  have e : (O.drop z).getD i nop = O.getD (z + i) nop := by
    rw [List.getD_eq_getElem?_getD, List.getElem?_drop, ← List.getD_eq_getElem?_getD]
  rw [show z * 2 + i * 2 = (z + i) * 2 by omega, hcs _ (by omega), hcs _ (by omega), e]
  exact this

set_option maxRecDepth 100000 in
set_option maxHeartbeats 4000000 in
theorem ids_anyN (r n : Nat) (w : World) (hrd : Rd w r n) (hn : n ≤ 800000000) :
    Calls Tryd.prog 45 #[.pointer (some ⟨r, 0, none⟩)] w (IdsPostN r n w) := by
  have hrl := hrd.lt
  obtain ⟨i0, hi, hz0, hz1, hz2⟩ := info_parts infoP
  have R0 := Lib.hid (row_new w w.heap.size (Nat.le_refl _))
  have hrd := Lib.hid hrd
  go_enter Tryd.func45, Tryd.ntmps45
  go_wp2_with fail
  refine (pick_any 8 r n _ (hrd.out.alloc _) (by omega)).mono ?_
  rintro e w1 ⟨m, rfl, m0, m1', hr1, hk1⟩
  have m1 := m1' (by omega)
  have s1 : w.heap.size + 1 ≤ w1.heap.size := by simpa using hk1.size
  have K1 := Lib.hid (((Keep.refl w.heap.size r w).alloc (Nat.le_refl _) (.cells #[] 31)).trans (hk1.mono (by simp)))
  have R1 := Lib.hid (R0.out.keep hk1 hrl)
  have hr1 := Lib.hid hr1
  clear hk1 R0 m1' hrd
  go_wp2_with fail
  refine (pick_any 20 r (n + 1) _ hr1.out (by omega)).mono ?_
  rintro e w2 ⟨q, rfl, q0, q1', hr2, hk2⟩
  have s2 := hk2.size
  have K2 := Lib.hid (K1.out.trans (hk2.mono (by omega)))
  have R2 := Lib.hid (R1.out.keep hk2 hrl)
  have hr2 := Lib.hid hr2
  clear hk2 R1 K1 hr1 q1'
  obtain ⟨m, rfl⟩ := Int.eq_ofNat_of_zero_le m0
  by_cases e0 : q = 0
  · subst e0
    go_wp2_with fail
    go_loopw [3, 5] (fun v i wr => ∃ k : Nat, k ≤ 13 ∧ i = .int .i64 k ∧ ∃ O : List Pid, O.length = k ∧ Hid (Row wr w.heap.size v O) ∧ Hid (Rd wr r (n + 2)) ∧ Hid (Keep w.heap.size r w wr)) (fun _ i _ => 13 - (intOf i).toNat)
    case atStart => exact ⟨0, Nat.zero_le _, rfl, [], rfl, R2, hr2, K2⟩
    case round =>
      obtain ⟨k, hk, rfl, O, hL, hR, hr, hK⟩ := hrel
      have hsz := hK.out.size
      clear R2 hr2 K2
      by_cases hlt : k < 13
      · have e5 : (k : Int).tmod 5 = (k : Int) % 5 := Int.tmod_eq_emod_of_nonneg (by omega)
        have e5a : 0 ≤ (k : Int) % 5 := Int.emod_nonneg _ (by omega)
        go_wp2_with (at_builtin; refine wpList_append_own _ rfl _ _ 23 rfl w.heap.size 31 i0 (.agg #[.int .i64 0, .int .i64 0]) 2 16 Tryd.underlying23 hi hz0 hz1 hz2 rfl (by decide) _ _ _ rfl (hR.out.1.alloc _) ⟨wr.heap.size, 0, none⟩ 1 1 [.int .i64 ((k : Int) % 5), .int .i64 (1 + (k : Int))] rfl rfl ?c1 ?c2 ?c3 ?c4 ?c5 ?_)
        case c1 => exact two_cells _ _ _ _ _ (by simp)
        case c2 => intro u hu; simp at hu; rcases hu with rfl | rfl <;> rfl
        case c3 => unfold maxLen; omega
        case c4 => omega
        case c5 => simp; omega
        intro v' w4 hown' hgrow hnil
        have X := ids_next hrl hR.out (by rw [hL]; exact hown') hgrow (fun e => hnil e) hr.out hK.out
        have hR' := Lib.hid X.1
        have hr' := Lib.hid X.2.1
        have hK' := Lib.hid X.2.2
        clear X hown' hgrow hnil hR hr hK
        go_wp2_with fail
        go_roundw
        case rel => exact ⟨k + 1, by omega, by go_num, _, by simp [hL], hR', hr', hK'⟩
        case measure => simp [intOf]; omega
      · obtain rfl : k = 13 := by omega
        obtain ⟨g, cap, rfl, hBg, hgs, hlc, hcm⟩ := hR.out.shape
        unfold maxLen at hcm
        rw [hL] at hlc hR ⊢
        go_wp2_with fail
        refine (pick_any 2 r (n + 2) _ hr.out (by omega)).mono ?_
        rintro e w3 ⟨z, rfl, z0, z1', hr3, hk3⟩
        have z1 := z1' (by omega)
        have K3 := Lib.hid (hK.out.trans (hk3.mono hsz))
        have R3 := hR.out.keep hk3 hrl
        have hI : ∀ z : Nat, z ≤ 13 → Ids w3 (.slice (some ⟨g, z * 2, none⟩) (13 - z) (cap - z)) (O.drop z) := fun z hz => by
          have := row_ids (z := z) (by rw [hL]; exact R3) (by omega) (by omega) (by omega)
          rw [hL] at this; exact this
        have hI := Lib.hid hI
        have b1 : ¬ cap = 0 := by omega
        have b2 : ¬ cap = 1 := by omega
        have hr3 := Lib.hid (hr3.more (show n + 2 + 1 ≤ n + 40 by omega))
        clear hk3 hR hK hr z1' R3
        rcases (show z = 0 ∨ z = 1 by omega) with rfl | rfl
        · go_wp2_with fail
          go_ret
          exact ⟨_, O.drop 0, rfl, by simpa using hI.out 0 (by omega), by rw [List.length_drop]; omega, hr3.out, K3.out⟩
        · go_wp2_with fail
          go_ret
          exact ⟨_, O.drop 1, rfl, by simpa using hI.out 1 (by omega), by rw [List.length_drop]; omega, hr3.out, K3.out⟩
  · have e0' : (q == 0) = false := by simpa using e0
    clear e0
    go_wp2_with fail
    go_loopw [3, 6] (fun v i wr => ∃ k : Nat, k ≤ m ∧ i = .int .i64 k ∧ ∃ O : List Pid, O.length = k ∧ Hid (Row wr w.heap.size v O) ∧ Hid (Rd wr r (n + 2 + 4 * k)) ∧ Hid (Keep w.heap.size r w wr)) (fun _ i _ => m - (intOf i).toNat)
    case atStart => exact ⟨0, Nat.zero_le _, rfl, [], rfl, R2, hr2, K2⟩
    case round =>
      obtain ⟨k, hk, rfl, O, hL, hR, hr, hK⟩ := hrel
      have hsz := hK.out.size
      clear R2 hr2 K2
      by_cases hlt : k < m
      · go_wp2_with fail
        refine (idd_any r (n + 2 + 4 * k) _ hr.out (by omega)).mono ?_
        rintro e w3 ⟨x, y, rfl, _, _, hr3, hk3⟩
        have s3 := hk3.size
        have K3 := Lib.hid (hK.out.trans (hk3.mono hsz))
        have R3 := Lib.hid (hR.out.keep hk3 hrl)
        have hr3 := Lib.hid hr3
        clear hk3 hR hK hr
        go_wp2_with (at_builtin; refine wpList_append_own _ rfl _ _ 23 rfl w.heap.size 31 i0 (.agg #[.int .i64 0, .int .i64 0]) 2 16 Tryd.underlying23 hi hz0 hz1 hz2 rfl (by decide) _ _ _ rfl (R3.out.1.alloc _) ⟨w3.heap.size, 0, none⟩ 1 1 [.int .i64 x, .int .i64 y] rfl rfl ?c1 ?c2 ?c3 ?c4 ?c5 ?_)
        case c1 => exact two_cells _ _ _ _ _ (by simp)
        case c2 => intro u hu; simp at hu; rcases hu with rfl | rfl <;> rfl
        case c3 => unfold maxLen; omega
        case c4 => omega
        case c5 => simp; omega
        intro v' w4 hown' hgrow hnil
        have X := ids_next hrl R3.out (by rw [hL]; exact hown') hgrow (fun e => hnil e) hr3.out K3.out
        have hR' := Lib.hid X.1
        have hr' := Lib.hid X.2.1
        have hK' := Lib.hid X.2.2
        clear X hown' hgrow hnil R3 hr3 K3
        go_wp2_with fail
        go_roundw
        case rel => exact ⟨k + 1, by omega, by go_num, _, by simp [hL], hR', hr', hK'⟩
        case measure => simp [intOf]; omega
      · obtain rfl : k = m := by omega
        obtain ⟨o, ho, hown⟩ := hR.out.own (by omega)
        have hI := Lib.hid hown.read
        have hr3 := Lib.hid (hr.out.more (show n + 2 + 4 * k ≤ n + 40 by omega))
        clear hR hown
        go_wp2_with fail
        go_ret
        exact ⟨_, _, rfl, hI.out, by omega, hr3.out, hK.out⟩

theorem ids_any (r n : Nat) (w : World) (hrd : Rd w r n) (hn : n ≤ 800000000) :
    Calls Tryd.prog 45 #[.pointer (some ⟨r, 0, none⟩)] w (IdsPost r w) :=
  (ids_anyN r n w hrd hn).mono fun e w' ⟨u, C, h1, h2, h3, _, h4⟩ => ⟨u, C, h1, h2, h3, h4⟩
end Go.Proofs.YtigaepbhbfpijaaDoor
