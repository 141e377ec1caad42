/- A state is drawn: spec.l91State. -/
import Derived.Test.YtmekkjnegmeogaaSstep
import Derived.Test.YtmekkjnegmeogaaDraw
namespace Go.Proofs.Ytmekkjnegmeogaa
open Go.RowKit
set_option linter.unusedVariables false

theorem row_keep {w w' : World} {r base n size : Nat} {t : TypeId} {v : Value} {xs : List Value} (h : w.ownsRow base t size v n xs) (hk : Keep w.heap.size r w w') (hr : r < base) : w'.ownsRow base t size v n xs :=
  h.kept (row := some r) ⟨hk.os, hk.tape, hk.output, hk.size, fun k h1 h2 => hk.block k h1 (fun e => h2 (by rw [e]))⟩ (by
    cases hv : v.ownBlock with
    | none => exact .inl rfl
    | some k =>
      have := (h.lt k hv).1
      exact .inr (by intro e; injection e with e; omega))

/-- A block of two cells, known whole. -/
theorem blk2 {w : World} {b : Nat} {x y : Value} {t : TypeId} (h : w.heap[b]? = some (.cells #[x, y] t (0, 0))) :
    w.cell? ⟨b, 0, none⟩ = some x ∧ w.cell? ⟨b, 1, none⟩ = some y ∧ w.frozen? ⟨b, 0, none⟩ = false ∧ w.frozen? ⟨b, 1, none⟩ = false := by
  simp [World.cell?, World.frozen?, h]
theorem own_take {w : World} {g cap : Nat} {L : List Int} (h : Own w g (.slice (some ⟨g, 0, none⟩) 6 cap) L) (hL : L.length = 6) : Own w g (.slice (some ⟨g, 0, none⟩) 5 cap) (L.take 5) := by
  obtain ⟨cap', cur, t, e, h1, h2, h3, h4, h5⟩ := h
  injection e with _ e2 e3
  subst e3
  refine ⟨cap, cur, t, by simp [hL], h1, by rw [List.length_take]; omega, by rw [List.length_take]; omega, by rw [List.length_take]; omega, ?_⟩
  rw [hL] at h5
  rw [List.length_take, hL]
  show cur.toList.take 5 = _
  have : cur.toList.take 5 = (cur.toList.take 6).take 5 := by rw [List.take_take]; rfl
  rw [this, h5, ints, ints, List.map_take]

/-- What l91State leaves. -/
def StPost (r n : Nat) (w : World) (e : Ending) (w' : World) : Prop :=
  ∃ b u L, e = .returned u ∧ w.heap.size ≤ b ∧ Own w' b u L ∧ Rd w' r (n + 21) ∧ Keep w.heap.size r w w'

/-- The relation of its loop. -/
def StRel (r n : Nat) (w : World) (k : Nat) (v : Value) (wr : World) : Prop :=
  ∃ L : List Int, L.length = k ∧ wr.ownsRow w.heap.size 3 1 v k (ints L) ∧ (v ≠ .slice none 0 0) ∧ Rd wr r (n + 3 * k) ∧ Keep w.heap.size r w wr

/-- A round's end. -/
theorem st_next {r n k : Nat} {w w1 w2 : World} {L : List Int} {v v' : Value} {x : Int} (hrl : r < w.heap.size) (hown : w2.ownsRow w.heap.size 3 1 v' (k + 1) (ints L ++ [.int .i64 x])) (hL : L.length = k)
    (hgrow : w1.grownBy w2 (Value.ownBlock v)) (hv : ∀ j, Value.ownBlock v = some j → w.heap.size ≤ j) (hn : v' ≠ .slice none 0 0) (hrd : Rd w1 r (n + 3 * (k + 1))) (hk : Keep w.heap.size r w w1) : StRel r n w (k + 1) v' w2 := by
  refine ⟨L ++ [x], by simp [hL], by simpa [ints] using hown, hn, ?_, ?_⟩
  · exact hrd.kept ⟨hgrow.os, hgrow.tape, hgrow.output, hgrow.size, fun j hj => hgrow.block j (by have := hrd.lt; omega) (fun e => by have := hv j e.symm; omega)⟩
  · exact hk.trans ⟨hgrow.os, hgrow.tape, hgrow.output, hgrow.size, fun j hj _ => hgrow.block j (by have := hk.size; omega) (fun e => by have := hv j e.symm; omega)⟩

set_option maxHeartbeats 4000000 in
theorem st_any (r n : Nat) (w : World) (hrd : Rd w r n) (hn : n ≤ 900000000) :
    Calls Try.prog 39 #[.pointer (some ⟨r, 0, none⟩)] w (StPost r n w) := by
  have hrl := hrd.lt
  obtain ⟨i0, hi, hz0, hz1, hz2⟩ := info_parts info_int
  have hrd := Lib.hid hrd
  go_enter Try.func39, Try.ntmps39
  go_wp2_with fail
  go_loopw [3, 4] (fun v i wr => ∃ k : Nat, k ≤ 6 ∧ i = .int .i64 k ∧ StRel r n w k v wr) (fun _ i _ => 6 - (intOf i).toNat)
  case atStart =>
    refine ⟨0, Nat.zero_le _, rfl, [], rfl, ?_, by simp, ?_, (Keep.refl _ _ _).alloc (Nat.le_refl _) _⟩
    · exact World.ownsRow_made _ #[] 0 (Nat.le_refl _) (Nat.zero_le _) rfl
    · exact hrd.out.alloc _
  case round =>
    obtain ⟨k, hk, rfl, L, hL, hown, hvn, hr0, hk0⟩ := hrel
    have hown := Lib.hid hown
    have hvn := Lib.hid hvn
    have hk0 := Lib.hid hk0
    have hL := Lib.hid hL
    have hr0 := Lib.hid hr0
    by_cases hlt : k < 6
    · have hs0 := hk0.out.size
      go_wp2_with fail
      refine (pick_any 100 r (n + 3 * k) _ hr0.out (by omega)).mono ?_
      rintro e w1 ⟨x, rfl, x0, x1', hr1, hk1⟩
      have x1 := x1' (by omega)
      have hs1 := hk1.size
      have K1 := Lib.hid (hk0.out.trans (hk1.mono (by omega)))
      have O1 := Lib.hid (row_keep hown.out hk1 hrl)
      have hr1 := Lib.hid hr1
      clear hr0 hk0 hown hk1 x1'
      go_wp2_with fail
      refine (pick_any 10 r (n + 3 * k + 1) _ hr1.out (by omega)).mono ?_
      rintro e w2 ⟨y, rfl, y0, y1', hr2, hk2⟩
      have y1 := y1' (by omega)
      have hs2 := hk2.size
      have K2 := Lib.hid (K1.out.trans (hk2.mono (by omega)))
      have O2 := Lib.hid (row_keep O1.out hk2 hrl)
      have hr2 := Lib.hid hr2
      clear hr1 K1 O1 hk2 y1'
      go_wp2_with fail
      refine (pick_any 3 r (n + 3 * k + 2) _ (hr2.out.alloc _) (by omega)).mono ?_
      rintro e w3 ⟨z, rfl, z0, z1', hr3, hk3⟩
      have z1 := z1' (by omega)
      have hs3 : w2.heap.size + 1 ≤ w3.heap.size := by simpa using hk3.size
      have K3 := Lib.hid ((K2.out.alloc (by omega) _).trans (hk3.mono (by simp; omega)))
      have O3 := Lib.hid (row_keep (O2.out.alloc _) hk3 hrl)
      have C3 := (hk3.block w2.heap.size (by simp) (by omega)).trans (heap_alloc_new w2 _)
      obtain ⟨c30, c31, c32, g30, g31, g32⟩ := blk3 C3
      have hr3 := Lib.hid hr3
      clear hr2 K2 O2 hk3 z1' C3
      rcases (show z = 0 ∨ z = 1 ∨ z = 2 by omega) with rfl | rfl | rfl
      · go_wp2_with (at_builtin; refine wpList_append_own _ rfl _ _ 23 rfl w.heap.size 3 i0 (.int .i64 0) 1 8 Try.underlying23 hi hz0 hz1 hz2 rfl (by decide) _ _ _ rfl (O3.out.alloc _) ⟨w3.heap.size, 0, none⟩ 1 1 [.int .i64 0] rfl rfl ?c10 ?c20 ?c30 ?c40 ?c50 ?_)
        case c10 =>
          intro j u hj
          match j, hj with
          | 0, hj => simp at hj; subst hj; simp [Addr.add]
          | j + 1, hj => simp at hj
        case c20 => intro u hu; simp at hu; subst hu; rfl
        case c30 => unfold maxLen; omega
        case c40 => omega
        case c50 => simp; omega
        intro v' w4 hown' hgrow hnil
        have hnil := Lib.hid hnil
        have R := Lib.hid (st_next (n := n) (k := k) (x := 0) hrl hown' hL.out hgrow (fun j hj => (O3.out.lt j hj).1) (fun e => hnil.out e) ((hr3.out.alloc _).more (by omega)) (K3.out.alloc (by omega) _))
        clear hown' hgrow hnil hr3 K3 O3 hvn hL
        go_wp2_with fail
        go_roundw
        case rel => exact ⟨k + 1, by omega, by go_num, R.out⟩
        case measure => simp [intOf]; omega
      · go_wp2_with (at_builtin; refine wpList_append_own _ rfl _ _ 23 rfl w.heap.size 3 i0 (.int .i64 0) 1 8 Try.underlying23 hi hz0 hz1 hz2 rfl (by decide) _ _ _ rfl (O3.out.alloc _) ⟨w3.heap.size, 0, none⟩ 1 1 [.int .i64 x] rfl rfl ?c11 ?c21 ?c31 ?c41 ?c51 ?_)
        case c11 =>
          intro j u hj
          match j, hj with
          | 0, hj => simp at hj; subst hj; simp [Addr.add]
          | j + 1, hj => simp at hj
        case c21 => intro u hu; simp at hu; subst hu; rfl
        case c31 => unfold maxLen; omega
        case c41 => omega
        case c51 => simp; omega
        intro v' w4 hown' hgrow hnil
        have hnil := Lib.hid hnil
        have R := Lib.hid (st_next (n := n) (k := k) (x := x) hrl hown' hL.out hgrow (fun j hj => (O3.out.lt j hj).1) (fun e => hnil.out e) ((hr3.out.alloc _).more (by omega)) (K3.out.alloc (by omega) _))
        clear hown' hgrow hnil hr3 K3 O3 hvn hL
        go_wp2_with fail
        go_roundw
        case rel => exact ⟨k + 1, by omega, by go_num, R.out⟩
        case measure => simp [intOf]; omega
      · go_wp2_with (at_builtin; refine wpList_append_own _ rfl _ _ 23 rfl w.heap.size 3 i0 (.int .i64 0) 1 8 Try.underlying23 hi hz0 hz1 hz2 rfl (by decide) _ _ _ rfl (O3.out.alloc _) ⟨w3.heap.size, 0, none⟩ 1 1 [.int .i64 (990 + y)] rfl rfl ?c12 ?c22 ?c32 ?c42 ?c52 ?_)
        case c12 =>
          intro j u hj
          match j, hj with
          | 0, hj => simp at hj; subst hj; simp [Addr.add]
          | j + 1, hj => simp at hj
        case c22 => intro u hu; simp at hu; subst hu; rfl
        case c32 => unfold maxLen; omega
        case c42 => omega
        case c52 => simp; omega
        intro v' w4 hown' hgrow hnil
        have hnil := Lib.hid hnil
        have R := Lib.hid (st_next (n := n) (k := k) (x := (990 + y)) hrl hown' hL.out hgrow (fun j hj => (O3.out.lt j hj).1) (fun e => hnil.out e) ((hr3.out.alloc _).more (by omega)) (K3.out.alloc (by omega) _))
        clear hown' hgrow hnil hr3 K3 O3 hvn hL
        go_wp2_with fail
        go_roundw
        case rel => exact ⟨k + 1, by omega, by go_num, R.out⟩
        case measure => simp [intOf]; omega
    · obtain rfl : k = 6 := by omega
      have hs0 := hk0.out.size
      obtain ⟨g, hg, hO⟩ := Own.of_row hown.out hL.out.symm (by have := hL.out; omega) hvn.out
      obtain ⟨cap, rfl, hcap⟩ := hO.shape
      rw [hL.out] at hO hcap
      have hO := Lib.hid hO
      clear hown hvn
      go_wp2_with fail
      refine (pick_any 30 r (n + 18) _ hr0.out (by omega)).mono ?_
      rintro e w1 ⟨q, rfl, q0, q1', hr1, hk1⟩
      have hs1 := hk1.size
      have K1 := Lib.hid (hk0.out.trans (hk1.mono (by omega)))
      have O1 := Lib.hid (hO.out.same (hk1.block g hO.out.lt (by omega)))
      have hr1 := Lib.hid hr1
      clear hr0 hk0 hO hk1 q1'
      by_cases e0 : q = 0
      · subst e0
        go_wp2_with fail
        refine (pick_any 6 r (n + 19) _ hr1.out (by omega)).mono ?_
        rintro e w2 ⟨y, rfl, y0, y1', hr2, hk2⟩
        have y1 := y1' (by omega)
        have hs2 := hk2.size
        have K2 := Lib.hid (K1.out.trans (hk2.mono (by omega)))
        have O2 := Lib.hid (O1.out.same (hk2.block g O1.out.lt (by omega)))
        have hr2 := Lib.hid hr2
        clear hr1 K1 O1 hk2 y1'
        go_wp2_with fail
        refine (pick_any 2 r (n + 20) _ (hr2.out.alloc _) (by omega)).mono ?_
        rintro e w3 ⟨z, rfl, z0, z1', hr3, hk3⟩
        have z1 := z1' (by omega)
        have hs3 : w2.heap.size + 1 ≤ w3.heap.size := by simpa using hk3.size
        have K3 := Lib.hid ((K2.out.alloc (by omega) _).trans (hk3.mono (by simp; omega)))
        have O3 := Lib.hid ((O2.out.alloc _).same (hk3.block g (O2.out.alloc _).lt (by omega)))
        have C3 := (hk3.block w2.heap.size (by simp) (by omega)).trans (heap_alloc_new w2 _)
        obtain ⟨c30, c31, g30, g31⟩ := blk2 C3
        have hr3 := Lib.hid hr3
        have ol := O3.out.lt
        obtain ⟨m, rfl⟩ := Int.eq_ofNat_of_zero_le y0
        have oc := O3.out.cell m (by rw [hL.out]; omega)
        have og := O3.out.free m
        clear hr2 K2 O2 hk3 z1' C3
        rcases (show z = 0 ∨ z = 1 by omega) with rfl | rfl
        · go_wp2_with fail
          go_ret
          exact ⟨g, _, L.set m (-1), rfl, hg, O3.out.set m (-1), (hr3.out.setCell (by simp; omega) _).more (by omega), K3.out.setCell (by simp; omega) _⟩
        · go_wp2_with fail
          go_ret
          exact ⟨g, _, L.set m 1000, rfl, hg, O3.out.set m 1000, (hr3.out.setCell (by simp; omega) _).more (by omega), K3.out.setCell (by simp; omega) _⟩
      · have e0' : (q == 0) = false := by simpa using e0
        clear e0
        by_cases e1 : q = 1
        · subst e1
          have O5 := Lib.hid (own_take O1.out hL.out)
          go_wp2_with fail
          go_ret
          exact ⟨g, _, L.take 5, rfl, hg, O5.out, hr1.out.more (by omega), K1.out⟩
        · have e1' : (q == 1) = false := by simpa using e1
          clear e1
          go_wp2_with fail
          go_ret
          exact ⟨g, _, L, rfl, hg, O1.out, hr1.out.more (by omega), K1.out⟩
end Go.Proofs.Ytmekkjnegmeogaa
