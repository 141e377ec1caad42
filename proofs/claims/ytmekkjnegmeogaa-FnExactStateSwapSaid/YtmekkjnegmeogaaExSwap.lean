/- The walk of FnExactStateSwap. -/
import Derived.Test.YtmekkjnegmeogaaExStep
import Derived.Test.YtmekkjnegmeogaaSwap
namespace Go.Proofs.Ytmekkjnegmeogaa
open Go.RowKit
set_option linter.unusedVariables false

theorem exsw_long (a : Option Addr) (len cap : Nat) (k key v k' key' v' : Int) (w : World) (h : 1048576 < len) :
    Calls Try.prog 14 #[.slice a len cap, .agg #[.int .i64 k, .int .i64 key, .int .i64 v], .agg #[.int .i64 k', .int .i64 key', .int .i64 v']] w fun e w' => e = .returned (.bool true) ∧ Below w.heap.size w w' := by
  go_enter Try.func14, Try.ntmps14
  go_wp2_with fail
  go_ret
  exact ⟨rfl, ((Below.refl _ _).alloc (Nat.le_refl _) _).alloc (by simp) _⟩

/-- Behind a region: the boxes, the memory that was there. -/
def BoxCut (w : World) (k key v k' key' v' : Int) (wx : World) : Prop :=
  Below w.heap.size w wx ∧ w.heap.size + 2 ≤ wx.heap.size ∧ wx.heap[w.heap.size]? = some (.cells #[.int .i64 k, .int .i64 key, .int .i64 v] 45 (0, 0)) ∧ wx.heap[w.heap.size + 1]? = some (.cells #[.int .i64 k', .int .i64 key', .int .i64 v'] 45 (0, 0))

theorem BoxCut.up {w : World} {k key v k' key' v' : Int} {w1 w2 : World} (h : BoxCut w k key v k' key' v' w1) (B : Below w1.heap.size w1 w2) : BoxCut w k key v k' key' v' w2 :=
  ⟨bstep h.1 B, Nat.le_trans h.2.1 B.size, bblk B (Nat.le_trans (Nat.le_succ _) h.2.1) h.2.2.1, bblk B h.2.1 h.2.2.2⟩

set_option maxRecDepth 100000 in
set_option maxHeartbeats 4000000 in
theorem exsw_short (a : Option Addr) (len cap : Nat) (L : List Int) (k key v k' key' v' : Int) (w : World) (h : ¬ 1048576 < len) (hI : Ints w (.slice a len cap) L) :
    Calls Try.prog 14 #[.slice a len cap, .agg #[.int .i64 k, .int .i64 key, .int .i64 v], .agg #[.int .i64 k', .int .i64 key', .int .i64 v']] w fun e w' => e = .returned (.bool true) ∧ Below w.heap.size w w' := by
  have hI := Lib.hid hI
  have J0 : Hid (BoxCut w k key v k' key' v' ((w.alloc (.cells #[.int .i64 k, .int .i64 key, .int .i64 v] 45)).alloc (.cells #[.int .i64 k', .int .i64 key', .int .i64 v'] 45))) := Lib.hid ⟨((Below.refl _ _).alloc (Nat.le_refl _) _).alloc (by simp) _, by simp, (Below.heap_alloc _ _ _ (by simp)).trans (heap_alloc_new w _), heap_alloc_at _ _ _ (by simp)⟩
  go_enter Try.func14, Try.ntmps14
  go_upto_region 3 with fail
  go_cut [7] (fun s7 wx => s7 = .bool (swB L k key v k' key' v') ∧ BoxCut w k key v k' key' v' wx)
  case first =>
    have A := Lib.hid J0.out.2.2.1
    have E := Lib.hid J0.out.2.2.2
    have SA := Lib.hid (Nat.le_trans (Nat.le_succ _) J0.out.2.1)
    have SE := Lib.hid J0.out.2.1
    have hIb := Lib.hid (hI.out.up J0.out.1 (Nat.le_refl _))
    have D0 : Hid (Below ((w.alloc (.cells #[.int .i64 k, .int .i64 key, .int .i64 v] 45)).alloc (.cells #[.int .i64 k', .int .i64 key', .int .i64 v'] 45)).heap.size ((w.alloc (.cells #[.int .i64 k, .int .i64 key, .int .i64 v] 45)).alloc (.cells #[.int .i64 k', .int .i64 key', .int .i64 v'] 45)) ((w.alloc (.cells #[.int .i64 k, .int .i64 key, .int .i64 v] 45)).alloc (.cells #[.int .i64 k', .int .i64 key', .int .i64 v'] 45)).drew) := Lib.hid (Below.refl _ _).drew
    go_region_with (first
      | (go_at_call 29; (with_reducible refine (toI_any _ L _ (hIb.out.up D0.out (Nat.le_refl _))).mono ?_); rintro e wI ⟨bI, uI, gI, rfl, OI, B⟩; have OI := Lib.hid OI; replace D0 := Lib.hid (bstep D0.out B); clear B; obtain ⟨c1, c2, c3, _, _, _⟩ := blk3 (bblk D0.out SA.out A.out); obtain ⟨d1, d2, d3, _, _, _⟩ := blk3 (bblk D0.out SE.out E.out))
      | (go_at_call 31; (with_reducible refine (toCmd_any k key v _).mono ?_); rintro e wC ⟨rfl, B⟩; try (replace OI := Lib.hid (OI.out.up B OI.out.lt)); replace D0 := Lib.hid (bstep D0.out B); clear B; obtain ⟨c1, c2, c3, _, _, _⟩ := blk3 (bblk D0.out SA.out A.out); obtain ⟨d1, d2, d3, _, _, _⟩ := blk3 (bblk D0.out SE.out E.out))
      | (go_at_call 31; (with_reducible refine (toCmd_any k' key' v' _).mono ?_); rintro e wC ⟨rfl, B⟩; try (replace OI := Lib.hid (OI.out.up B OI.out.lt)); replace D0 := Lib.hid (bstep D0.out B); clear B; obtain ⟨c1, c2, c3, _, _, _⟩ := blk3 (bblk D0.out SA.out A.out); obtain ⟨d1, d2, d3, _, _, _⟩ := blk3 (bblk D0.out SE.out E.out))
      | (go_at_call 25; (with_reducible refine (sswap_any _ L k key v k' key' v' _ OI.out.read).mono ?_); rintro e wS ⟨rfl, B⟩; try (replace OI := Lib.hid (OI.out.up B OI.out.lt)); replace D0 := Lib.hid (bstep D0.out B); clear B))
    all_goals
      simp only [List.getElem_toArray, List.getElem_cons_succ, List.getElem_cons_zero, Act.put, List.setIfInBounds_toArray, List.set_cons_zero, List.set_cons_succ]
      go_wp2_with fail
      go_meet
      exact ⟨rfl, J0.out.up D0.out⟩
  case rest =>
    obtain ⟨rfl, J⟩ := hcut
    have J := Lib.hid J
    clear J0
    go_wp2_with fail
    refine (toI_any _ L _ (hI.out.up J.out.1 (Nat.le_refl _))).mono ?_
    rintro e w4 ⟨b4, x0, g, rfl, O4, B⟩
    have O4 := Lib.hid O4
    replace J := Lib.hid (J.out.up B)
    clear B g
    go_upto_region 5 with fail
    go_cut [9] (fun s9 wx => s9 = .bool (swB L k key v k' key' v') ∧ BoxCut w k key v k' key' v' wx ∧ Own wx b4 x0 L)
    case first =>
      have A := Lib.hid J.out.2.2.1
      have E := Lib.hid J.out.2.2.2
      have SA := Lib.hid (Nat.le_trans (Nat.le_succ _) J.out.2.1)
      have SE := Lib.hid J.out.2.1
      obtain ⟨a1, a2, a3, _, _, _⟩ := blk3 A.out
      obtain ⟨b1, b2, b3, _, _, _⟩ := blk3 E.out
      have D0 : Hid (Below w4.heap.size w4 w4.drew) := Lib.hid (Below.refl _ _).drew
      have OI := Lib.hid (O4.out.up D0.out O4.out.lt)
      go_region_with (first
        | (go_at_call 31; (with_reducible refine (toCmd_any k key v _).mono ?_); rintro e wC ⟨rfl, B⟩; try (replace OI := Lib.hid (OI.out.up B OI.out.lt)); replace D0 := Lib.hid (bstep D0.out B); clear B; obtain ⟨c1, c2, c3, _, _, _⟩ := blk3 (bblk D0.out SA.out A.out); obtain ⟨d1, d2, d3, _, _, _⟩ := blk3 (bblk D0.out SE.out E.out))
        | (go_at_call 31; (with_reducible refine (toCmd_any k' key' v' _).mono ?_); rintro e wC ⟨rfl, B⟩; try (replace OI := Lib.hid (OI.out.up B OI.out.lt)); replace D0 := Lib.hid (bstep D0.out B); clear B; obtain ⟨c1, c2, c3, _, _, _⟩ := blk3 (bblk D0.out SA.out A.out); obtain ⟨d1, d2, d3, _, _, _⟩ := blk3 (bblk D0.out SE.out E.out))
        | (go_at_call 24; (with_reducible refine (iswap_any _ L k key v k' key' v' _ OI.out.read).mono ?_); rintro e wS ⟨rfl, B⟩; try (replace OI := Lib.hid (OI.out.up B OI.out.lt)); replace D0 := Lib.hid (bstep D0.out B); clear B))
      all_goals
        simp only [List.getElem_toArray, List.getElem_cons_succ, List.getElem_cons_zero, Act.put, List.setIfInBounds_toArray, List.set_cons_zero, List.set_cons_succ]
        go_wp2_with fail
        go_meet
        exact ⟨rfl, J.out.up D0.out, OI.out⟩
    case rest =>
      obtain ⟨rfl, J5, O5⟩ := hcut
      have J5 := Lib.hid J5
      have O5 := Lib.hid O5
      clear J O4
      go_wp2_with fail
      refine (toI_any _ L _ (hI.out.up J5.out.1 (Nat.le_refl _))).mono ?_
      rintro e w6 ⟨b6, u6, g, rfl, O6, B⟩
      have O6 := Lib.hid O6
      replace O5 := Lib.hid (O5.out.up B O5.out.lt)
      replace J5 := Lib.hid (J5.out.up B)
      clear B g
      go_wp2_with fail
      refine (eqI_any _ _ L L _ O5.out.read O6.out.read).mono ?_
      rintro e w7 ⟨rfl, B⟩
      rw [show decide (L = L) = true from by simp]
      replace J5 := Lib.hid (J5.out.up B)
      clear B O5 O6
      go_wp2_with fail
      go_ret
      exact ⟨rfl, J5.out.1⟩

theorem exsw_any (a : Option Addr) (len cap : Nat) (k key v k' key' v' : Int) (w : World) (h : IntsIn w a len cap) :
    Calls Try.prog 14 #[.slice a len cap, .agg #[.int .i64 k, .int .i64 key, .int .i64 v], .agg #[.int .i64 k', .int .i64 key', .int .i64 v']] w fun e w' => e = .returned (.bool true) ∧ Below w.heap.size w w' := by
  by_cases hl : 1048576 < len
  · exact exsw_long a len cap k key v k' key' v' w hl
  · rcases h with h | ⟨L, h⟩
    · exact absurd h hl
    · exact exsw_short a len cap L k key v k' key' v' w hl h
end Go.Proofs.Ytmekkjnegmeogaa
