/- Draws of ids: l91Id, DrawIdValid, DrawIdBefore. -/
import Derived.Test.YtbhjglapfiegaaaDoorOpen
namespace Go.Proofs.YtbhjglapfiegaaaDoor
open Go.RowKit
set_option linter.unusedVariables false

/-- What l91Id leaves: some id; the reader up to four places further. -/
def IdPost (r n : Nat) (w : World) (e : Ending) (w' : World) : Prop :=
  ∃ k v : Int, e = .returned (.agg #[.int .i64 k, .int .i64 v]) ∧ (-1 ≤ k ∧ k ≤ 5) ∧ (0 ≤ v ∧ v ≤ 51) ∧ Rd w' r (n + 4) ∧ Keep w.heap.size r w w'

set_option maxHeartbeats 2000000 in
theorem idd_any (r n : Nat) (w : World) (hrd : Rd w r n) (hn : n ≤ 900000000) :
    Calls Tryd.prog 53 #[.pointer (some ⟨r, 0, none⟩)] w (IdPost r n w) := by
  have hlt := hrd.lt
  have hb1 := Lib.hid hrd
  clear hrd
  go_enter Tryd.func53, Tryd.ntmps53
  go_wp2_with fail
  refine (pick_any 3 r n _ (hb1.out.kept ((Below.refl _ _).alloc (by omega) _)) (by omega)).mono ?_
  rintro e w1 ⟨x1, rfl, a0, a1', hr1', hk1'⟩
  have a1 := a1' (by omega); have hs1 : w.heap.size + 1 ≤ w1.heap.size := by simpa using hk1'.size
  have hk1 := Lib.hid hk1'; have hr1 := Lib.hid hr1'; clear a1' hr1' hk1'
  go_wp2_with fail
  refine (pick_any 4 r (n + 1) _ hr1.out (by omega)).mono ?_
  rintro e w2 ⟨x2, rfl, b0, b1', hr2', hk2'⟩
  have b1 := b1' (by omega); have hs2 := hk2'.size
  have hk2 := Lib.hid hk2'; have hr2 := Lib.hid hr2'; clear b1' hr2' hk2'
  go_wp2_with fail
  refine (pick_any 40 r (n + 2) _ (hr2.out.alloc _) (by omega)).mono ?_
  rintro e w3 ⟨x3, rfl, d0, d1', hr3', hk3'⟩
  have d1 := d1' (by omega); have hs3 : w2.heap.size + 1 ≤ w3.heap.size := by simpa using hk3'.size
  have hrl2 := hr2.out.lt
  have hrl : r < w.heap.size := hlt
  have hAC : w.heap.size < w2.heap.size := by omega
  have A1 : w1.heap[w.heap.size]? = some (.cells #[.int .i64 0, .int .i64 0] 31 (0, 0)) := (hk1.out.block _ (by simp) (by omega)).trans (heap_alloc_new w _)
  have A2 := (hk2.out.block w.heap.size (by omega) (by omega)).trans A1
  have A3 := (hk3'.block w.heap.size (by simp; omega) (by omega)).trans ((Below.heap_alloc w2 _ _ (by omega)).trans A2)
  have C3 := (hk3'.block w2.heap.size (by simp) (by omega)).trans (heap_alloc_new w2 _)
  have K3 : Hid (Keep w.heap.size r w w3) := Lib.hid ((((Keep.refl _ _ _).alloc (Nat.le_refl _) _).trans (hk1.out.mono (by simp))).trans (hk2.out.mono (by omega)) |>.alloc (by omega) _ |>.trans (hk3'.mono (by simp; omega)))
  obtain ⟨a30, a31, f30, f31⟩ := blk2 A3
  obtain ⟨c30, c31, g30, g31⟩ := blk2 C3
  have A3 := Lib.hid A3
  have C3 := Lib.hid C3
  have hr3 := Lib.hid hr3'; clear d1' hr3' hk3' A1 A2 hk1 hk2 hr1 hr2
  by_cases z0 : x3 = 0
  · subst z0
    go_wp2_with fail
    refine (pick_any 3 r (n + 3) _ (hr3.out.alloc _) (by omega)).mono ?_
    rintro e w6 ⟨x6, rfl, y0, y1', hr6, hk6⟩
    have y1 := y1' (by omega)
    have hs6 : w3.heap.size + 1 ≤ w6.heap.size := by simpa using hk6.size
    have A6 := (hk6.block w.heap.size (by simp; omega) (by omega)).trans ((Below.heap_alloc w3 _ _ (by omega)).trans A3.out)
    have C6 := (hk6.block w2.heap.size (by simp; omega) (by omega)).trans ((Below.heap_alloc w3 _ _ (by omega)).trans C3.out)
    have L6 := (hk6.block w3.heap.size (by simp) (by omega)).trans (heap_alloc_new w3 _)
    have K6 := Lib.hid ((K3.out.alloc (by omega) _).trans (hk6.mono (by simp; omega)))
    obtain ⟨a60, a61, f60, f61⟩ := blk2 A6
    obtain ⟨c60, c61, g60, g61⟩ := blk2 C6
    obtain ⟨l60, l61, l62, _, _, _⟩ := blk3 L6
    have hr6 := Lib.hid hr6
    clear y1' hk6 A6 C6 L6 A3 C3 K3 hr3 a30 a31 f30 f31 c30 c31 g30 g31
    rcases (show x6 = 0 ∨ x6 = 1 ∨ x6 = 2 by omega) with rfl | rfl | rfl
    · go_wp2_with fail
      exact bodyPost_ret (v := .agg #[.int .i64 (-1), .int .i64 (1 + x2)]) (by simp [results, Tryd.results53, go_sem, a60, a61]) rfl ⟨-1, 1 + x2, rfl, by omega, by omega, (((hr6.out.setCell hrl2 _).setCell hrl _).setCell hrl _).more (by omega), ((K6.out.setCell (Nat.le_of_lt hAC) _).setCell (Nat.le_refl _) _).setCell (Nat.le_refl _) _⟩
    · go_wp2_with fail
      exact bodyPost_ret (v := .agg #[.int .i64 4, .int .i64 (1 + x2)]) (by simp [results, Tryd.results53, go_sem, a60, a61]) rfl ⟨4, 1 + x2, rfl, by omega, by omega, (((hr6.out.setCell hrl2 _).setCell hrl _).setCell hrl _).more (by omega), ((K6.out.setCell (Nat.le_of_lt hAC) _).setCell (Nat.le_refl _) _).setCell (Nat.le_refl _) _⟩
    · go_wp2_with fail
      exact bodyPost_ret (v := .agg #[.int .i64 5, .int .i64 (1 + x2)]) (by simp [results, Tryd.results53, go_sem, a60, a61]) rfl ⟨5, 1 + x2, rfl, by omega, by omega, (((hr6.out.setCell hrl2 _).setCell hrl _).setCell hrl _).more (by omega), ((K6.out.setCell (Nat.le_of_lt hAC) _).setCell (Nat.le_refl _) _).setCell (Nat.le_refl _) _⟩
  · have z0' : (x3 == 0) = false := by simpa using z0
    clear z0
    by_cases z1 : x3 = 1
    · subst z1
      go_wp2_with fail
      refine (pick_any 3 r (n + 3) _ (hr3.out.alloc _) (by omega)).mono ?_
      rintro e w6 ⟨x6, rfl, y0, y1', hr6, hk6⟩
      have y1 := y1' (by omega)
      have hs6 : w3.heap.size + 1 ≤ w6.heap.size := by simpa using hk6.size
      have A6 := (hk6.block w.heap.size (by simp; omega) (by omega)).trans ((Below.heap_alloc w3 _ _ (by omega)).trans A3.out)
      have C6 := (hk6.block w2.heap.size (by simp; omega) (by omega)).trans ((Below.heap_alloc w3 _ _ (by omega)).trans C3.out)
      have L6 := (hk6.block w3.heap.size (by simp) (by omega)).trans (heap_alloc_new w3 _)
      have K6 := Lib.hid ((K3.out.alloc (by omega) _).trans (hk6.mono (by simp; omega)))
      obtain ⟨a60, a61, f60, f61⟩ := blk2 A6
      obtain ⟨c60, c61, g60, g61⟩ := blk2 C6
      obtain ⟨l60, l61, l62, _, _, _⟩ := blk3 L6
      have hr6 := Lib.hid hr6
      clear y1' hk6 A6 C6 L6 A3 C3 K3 hr3 a30 a31 f30 f31 c30 c31 g30 g31
      rcases (show x6 = 0 ∨ x6 = 1 ∨ x6 = 2 by omega) with rfl | rfl | rfl
      · go_wp2_with fail
        exact bodyPost_ret (v := .agg #[.int .i64 x1, .int .i64 0]) (by simp [results, Tryd.results53, go_sem, a60, a61]) rfl ⟨x1, 0, rfl, by omega, by omega, (((hr6.out.setCell hrl2 _).setCell hrl _).setCell hrl _).more (by omega), ((K6.out.setCell (Nat.le_of_lt hAC) _).setCell (Nat.le_refl _) _).setCell (Nat.le_refl _) _⟩
      · go_wp2_with fail
        exact bodyPost_ret (v := .agg #[.int .i64 x1, .int .i64 50]) (by simp [results, Tryd.results53, go_sem, a60, a61]) rfl ⟨x1, 50, rfl, by omega, by omega, (((hr6.out.setCell hrl2 _).setCell hrl _).setCell hrl _).more (by omega), ((K6.out.setCell (Nat.le_of_lt hAC) _).setCell (Nat.le_refl _) _).setCell (Nat.le_refl _) _⟩
      · go_wp2_with fail
        exact bodyPost_ret (v := .agg #[.int .i64 x1, .int .i64 51]) (by simp [results, Tryd.results53, go_sem, a60, a61]) rfl ⟨x1, 51, rfl, by omega, by omega, (((hr6.out.setCell hrl2 _).setCell hrl _).setCell hrl _).more (by omega), ((K6.out.setCell (Nat.le_of_lt hAC) _).setCell (Nat.le_refl _) _).setCell (Nat.le_refl _) _⟩
    · have z1' : (x3 == 1) = false := by simpa using z1
      clear z1
      go_wp2_with fail
      exact bodyPost_ret (v := .agg #[.int .i64 x1, .int .i64 (1 + x2)]) (by simp [results, Tryd.results53, go_sem, a30, a31]) rfl ⟨x1, 1 + x2, rfl, by omega, by omega, ((hr3.out.setCell hrl _).setCell hrl _).more (by omega), (K3.out.setCell (Nat.le_refl _) _).setCell (Nat.le_refl _) _⟩
end Go.Proofs.YtbhjglapfiegaaaDoor
