/- The walks of FnExactStateValid and FnExactStateStep. -/
import Derived.Test.YtmekkjnegmeogaaMark
import Derived.Test.YtmekkjnegmeogaaToCmd
import Derived.Deep.RegionWith
import Derived.Deep.RegionHeld3
namespace Go.Proofs.Ytmekkjnegmeogaa
open Go.RowKit
set_option linter.unusedVariables false

theorem exsv_long (a : Option Addr) (len cap : Nat) (w : World) (h : 1048576 < len) :
    Calls Try.prog 11 #[.slice a len cap] w fun e w' => e = .returned (.bool true) ∧ Below w.heap.size w w' := by
  go_enter Try.func11, Try.ntmps11
  go_wp2_with fail
  go_ret
  exact ⟨rfl, Below.refl _ _⟩

set_option maxHeartbeats 1000000 in
theorem exsv_short (a : Option Addr) (len cap : Nat) (L : List Int) (w : World) (h : ¬ 1048576 < len) (hI : Ints w (.slice a len cap) L) :
    Calls Try.prog 11 #[.slice a len cap] w fun e w' => e = .returned (.bool true) ∧ Below w.heap.size w w' := by
  have hI := Lib.hid hI
  go_enter Try.func11, Try.ntmps11
  go_wp2_with fail
  refine (toI_any _ L _ hI.out).mono ?_
  rintro e w1 ⟨b1, u1, g1, rfl, O1, B1⟩
  have O1 := Lib.hid O1
  have D1 := Lib.hid B1
  have s1 := B1.size
  clear B1
  go_wp2_with fail
  refine (sstv_any _ L _ O1.out.read).mono ?_
  rintro e w2 ⟨rfl, B2⟩
  have D2 := Lib.hid (D1.out.trans (B2.mono s1))
  have s2 := Nat.le_trans s1 B2.size
  clear B2 D1 O1
  go_wp2_with fail
  refine (toI_any _ L _ (hI.out.up D2.out (Nat.le_refl _))).mono ?_
  rintro e w3 ⟨b3, u3, g3, rfl, O3, B3⟩
  have O3 := Lib.hid O3
  have D3 := Lib.hid (D2.out.trans (B3.mono s2))
  have s3 := Nat.le_trans s2 B3.size
  clear B3 D2
  go_wp2_with fail
  refine (istv_any _ L _ O3.out.read).mono ?_
  rintro e w4 ⟨rfl, B4⟩
  have O4 := Lib.hid (O3.out.up B4 O3.out.lt)
  have D4 := Lib.hid (D3.out.trans (B4.mono s3))
  have s4 := Nat.le_trans s3 B4.size
  clear B4 D3 O3
  go_wp2_with fail
  refine (toI_any _ L _ (hI.out.up D4.out (Nat.le_refl _))).mono ?_
  rintro e w5 ⟨b5, u5, g5, rfl, O5, B5⟩
  have O5 := Lib.hid O5
  have O4 := Lib.hid (O4.out.up B5 O4.out.lt)
  have D5 := Lib.hid (D4.out.trans (B5.mono s4))
  have s5 := Nat.le_trans s4 B5.size
  clear B5 D4
  go_wp2_with fail
  refine (eqI_any _ _ L L _ O4.out.read O5.out.read).mono ?_
  rintro e w6 ⟨rfl, B6⟩
  rw [show decide (L = L) = true from by simp]
  have D6 := Lib.hid (D5.out.trans (B6.mono s5))
  clear B6 D5 O5 O4
  go_wp2_with fail
  go_ret
  exact ⟨rfl, D6.out⟩

theorem exsv_any (a : Option Addr) (len cap : Nat) (w : World) (h : IntsIn w a len cap) :
    Calls Try.prog 11 #[.slice a len cap] w fun e w' => e = .returned (.bool true) ∧ Below w.heap.size w w' := by
  by_cases hl : 1048576 < len
  · exact exsv_long a len cap w hl
  · rcases h with h | ⟨L, h⟩
    · exact absurd h hl
    · exact exsv_short a len cap L w hl h

theorem exss_long (a : Option Addr) (len cap : Nat) (k key v : Int) (w : World) (h : 1048576 < len) :
    Calls Try.prog 12 #[.slice a len cap, .agg #[.int .i64 k, .int .i64 key, .int .i64 v]] w fun e w' => e = .returned (.bool true) ∧ Below w.heap.size w w' := by
  go_enter Try.func12, Try.ntmps12
  go_wp2_with fail
  go_ret
  exact ⟨rfl, (Below.refl _ _).alloc (Nat.le_refl _) _⟩

/-- Behind the region of the first call: the answer. -/
def ExCut (w : World) (R : List Int × Int × Bool) (k key v : Int) (s5 s6 s7 : Value) (wx : World) : Prop :=
  ∃ b, Own wx b s5 R.1 ∧ s6 = .int .i64 R.2.1 ∧ s7 = .bool R.2.2 ∧ Below w.heap.size w wx ∧ w.heap.size + 1 ≤ wx.heap.size ∧ wx.heap[w.heap.size]? = some (.cells #[.int .i64 k, .int .i64 key, .int .i64 v] 45 (0, 0))

set_option maxHeartbeats 2000000 in
set_option maxRecDepth 100000 in
theorem exss_short (a : Option Addr) (len cap : Nat) (L : List Int) (k key v : Int) (w : World) (h : ¬ 1048576 < len) (hI : Ints w (.slice a len cap) L) :
    Calls Try.prog 12 #[.slice a len cap, .agg #[.int .i64 k, .int .i64 key, .int .i64 v]] w fun e w' => e = .returned (.bool true) ∧ Below w.heap.size w w' := by
  have hI := Lib.hid hI
  go_enter Try.func12, Try.ntmps12
  go_upto_region 3 with fail
  go_cut [5, 6, 7] (fun s5 s6 s7 wx => ExCut w (stepR L k key v) k key v s5 s6 s7 wx)
  case first =>
    have S : Hid (w.heap.size + 1 ≤ (w.alloc (.cells #[.int .i64 k, .int .i64 key, .int .i64 v] 45)).heap.size) := Lib.hid (by simp)
    have A : Hid ((w.alloc (.cells #[.int .i64 k, .int .i64 key, .int .i64 v] 45)).heap[w.heap.size]? = some (.cells #[.int .i64 k, .int .i64 key, .int .i64 v] 45 (0, 0))) := Lib.hid (heap_alloc_new w _)
    have D : Hid (Below w.heap.size w (w.alloc (.cells #[.int .i64 k, .int .i64 key, .int .i64 v] 45))) := Lib.hid ((Below.refl _ _).alloc (Nat.le_refl _) _)
    have hIb := Lib.hid (hI.out.up D.out (Nat.le_refl _))
    have D0 : Hid (Below (w.alloc (.cells #[.int .i64 k, .int .i64 key, .int .i64 v] 45)).heap.size (w.alloc (.cells #[.int .i64 k, .int .i64 key, .int .i64 v] 45)) (w.alloc (.cells #[.int .i64 k, .int .i64 key, .int .i64 v] 45)).drew) := Lib.hid (Below.refl _ _).drew
    go_region_with (first
      | (go_at_call 29; (with_reducible refine (toI_any _ L _ (hIb.out.up D0.out (Nat.le_refl _))).mono ?_); rintro e wI ⟨bI, uI, gI, rfl, OI, BI⟩; have DI := Lib.hid (bstep D0.out BI); obtain ⟨c1, c2, c3, _, _, _⟩ := blk3 (bblk DI.out S.out A.out))
      | (go_at_call 31; (with_reducible refine (toCmd_any k key v wI).mono ?_); rintro e wC ⟨rfl, BC⟩; have OC := Lib.hid (OI.up BC OI.lt); have DC := Lib.hid (bstep DI.out BC))
      | (go_at_call 31; (with_reducible refine (toCmd_any k key v _).mono ?_); rintro e wC ⟨rfl, BC⟩; have DC := Lib.hid (bstep D0.out BC))
      | (go_at_call 29; (with_reducible refine (toI_any _ L wC (hIb.out.up DC.out (Nat.le_refl _))).mono ?_); rintro e wI ⟨bI, uI, gI, rfl, OI, BI⟩; have DI := Lib.hid (bstep DC.out BI))
      | (go_at_call 17; (with_reducible refine (sstep_any _ L k key v wC OC.out.read).mono ?_); rintro e wS ⟨bS, uS, gS, rfl, OS, BS⟩; have DS := Lib.hid (bstep DC.out BS))
      | (go_at_call 17; (with_reducible refine (sstep_any _ L k key v wI OI.read).mono ?_); rintro e wS ⟨bS, uS, gS, rfl, OS, BS⟩; have DS := Lib.hid (bstep DI.out BS)))
    all_goals
      simp only [List.getElem_toArray, List.getElem_cons_succ, List.getElem_cons_zero, Act.put, List.setIfInBounds_toArray, List.set_cons_zero, List.set_cons_succ]
      go_wp2_with fail
      go_meet
      exact ⟨bS, OS, rfl, rfl, D.out.trans (DS.out.mono D.out.size), Nat.le_trans S.out DS.out.size, bblk DS.out S.out A.out⟩
  case rest =>
    obtain ⟨b5, O5, rfl, rfl, D, S, A⟩ := hcut
    obtain ⟨R, hR⟩ : ∃ R, Hid (stepR L k key v = R) := ⟨_, Lib.hid rfl⟩
    rw [hR.out] at O5 ⊢
    obtain ⟨RL, rn, rb⟩ := R
    dsimp only at O5 ⊢
    have hst : ∀ (u : Value) (w : World), Ints w u L → Calls Try.prog 16 #[u, .agg #[.int .i64 k, .int .i64 key, .int .i64 v]] w (fun e w' => ∃ b u, w.heap.size ≤ b ∧ e = .returned (.tuple #[u, .int .i64 rn, .bool rb]) ∧ Own w' b u RL ∧ Below w.heap.size w w') := fun u w h => by
      have X := istep_any u L k key v w h
      rw [hR.out] at X
      exact X
    have hst := Lib.hid hst
    have O5 := Lib.hid O5
    have D := Lib.hid D
    have S := Lib.hid S
    have A := Lib.hid A
    go_wp2_with fail
    refine (toI_any _ L _ (hI.out.up D.out (Nat.le_refl _))).mono ?_
    rintro e w4 ⟨b4, x0, g, rfl, O4, B⟩
    have O4 := Lib.hid O4
    have nb5b4 := Lib.hid (Nat.lt_of_lt_of_le O5.out.lt g)
    have lb4 := Lib.hid (Nat.lt_of_lt_of_le S.out g)
    clear g
    replace O5 := Lib.hid (O5.out.up B O5.out.lt)
    replace A := Lib.hid (bblk B S.out A.out)
    replace D := Lib.hid (bstep D.out B)
    replace S := Lib.hid (Nat.le_trans S.out B.size)
    clear B
    obtain ⟨a1, a2, a3, _, _, _⟩ := blk3 A.out
    go_wp2_with fail
    refine (toCmd_any k key v _).mono ?_
    rintro e w5 ⟨rfl, B⟩
    replace O4 := Lib.hid (O4.out.up B O4.out.lt)
    replace O5 := Lib.hid (O5.out.up B O5.out.lt)
    replace A := Lib.hid (bblk B S.out A.out)
    replace D := Lib.hid (bstep D.out B)
    replace S := Lib.hid (Nat.le_trans S.out B.size)
    clear B
    clear a1 a2 a3
    go_wp2_with fail
    refine (hst.out _ _ O4.out.read).mono ?_
    rintro e w6 ⟨b6, g0, g, rfl, O6, B⟩
    have O6 := Lib.hid O6
    have nb4b6 := Lib.hid (Nat.lt_of_lt_of_le O4.out.lt g)
    have lb6 := Lib.hid (Nat.lt_of_lt_of_le S.out g)
    have nb5b6 := Lib.hid (Nat.lt_of_lt_of_le O5.out.lt g)
    clear g
    replace O4 := Lib.hid (O4.out.up B O4.out.lt)
    replace O5 := Lib.hid (O5.out.up B O5.out.lt)
    replace A := Lib.hid (bblk B S.out A.out)
    replace D := Lib.hid (bstep D.out B)
    replace S := Lib.hid (Nat.le_trans S.out B.size)
    clear B
    go_wp2_with fail
    refine (eqI_any _ _ RL RL _ O6.out.read O5.out.read).mono ?_
    rintro e w7 ⟨rfl, B⟩
    rw [show decide (RL = RL) = true from by simp]
    replace O4 := Lib.hid (O4.out.up B O4.out.lt)
    replace O5 := Lib.hid (O5.out.up B O5.out.lt)
    replace O6 := Lib.hid (O6.out.up B O6.out.lt)
    replace A := Lib.hid (bblk B S.out A.out)
    replace D := Lib.hid (bstep D.out B)
    replace S := Lib.hid (Nat.le_trans S.out B.size)
    clear B
    go_wp2_with fail
    refine (toI_any _ L _ (hI.out.up D.out (Nat.le_refl _))).mono ?_
    rintro e w8 ⟨b8, u8, g, rfl, O8, B⟩
    have O8 := Lib.hid O8
    have nb4b8 := Lib.hid (Nat.lt_of_lt_of_le O4.out.lt g)
    have nb5b8 := Lib.hid (Nat.lt_of_lt_of_le O5.out.lt g)
    have nb6b8 := Lib.hid (Nat.lt_of_lt_of_le O6.out.lt g)
    have lb8 := Lib.hid (Nat.lt_of_lt_of_le S.out g)
    clear g
    replace O4 := Lib.hid (O4.out.up B O4.out.lt)
    replace O5 := Lib.hid (O5.out.up B O5.out.lt)
    replace O6 := Lib.hid (O6.out.up B O6.out.lt)
    replace A := Lib.hid (bblk B S.out A.out)
    replace D := Lib.hid (bstep D.out B)
    replace S := Lib.hid (Nat.le_trans S.out B.size)
    clear B
    go_wp2_with fail
    refine (eqI_any _ _ L L _ O4.out.read O8.out.read).mono ?_
    rintro e w9 ⟨rfl, B⟩
    rw [show decide (L = L) = true from by simp]
    replace O4 := Lib.hid (O4.out.up B O4.out.lt)
    replace O5 := Lib.hid (O5.out.up B O5.out.lt)
    replace O6 := Lib.hid (O6.out.up B O6.out.lt)
    replace A := Lib.hid (bblk B S.out A.out)
    replace D := Lib.hid (bstep D.out B)
    replace S := Lib.hid (Nat.le_trans S.out B.size)
    clear B
    go_wp2_with fail
    refine (mark_any b4 x0 L 1 _ O4.out (by omega) (by omega)).mono ?_
    rintro e w10 ⟨rfl, O10M, O10K, O10, hK⟩
    have O10 := Lib.hid O10
    have O10K := Lib.hid O10K
    replace O5 := Lib.hid (O5.out.same (hK.block _ O5.out.lt (by have := nb5b4.out; omega)))
    replace O6 := Lib.hid (O6.out.same (hK.block _ O6.out.lt (by have := nb4b6.out; omega)))
    replace A := Lib.hid ((hK.block _ S.out (by have := lb4.out; omega)).trans A.out)
    replace D := Lib.hid (D.out.trans ((hK.mono D.out.size).below (by have := lb4.out; omega)))
    replace S := Lib.hid (Nat.le_trans S.out hK.size)
    clear hK
    go_wp2_with fail
    refine (eqI_any _ _ RL RL _ O6.out.read O5.out.read).mono ?_
    rintro e w11 ⟨rfl, B⟩
    rw [show decide (RL = RL) = true from by simp]
    replace O5 := Lib.hid (O5.out.up B O5.out.lt)
    replace O6 := Lib.hid (O6.out.up B O6.out.lt)
    replace A := Lib.hid (bblk B S.out A.out)
    replace D := Lib.hid (bstep D.out B)
    replace S := Lib.hid (Nat.le_trans S.out B.size)
    clear B
    go_wp2_with fail
    refine (mark_any b6 g0 RL 1 _ O6.out (by omega) (by omega)).mono ?_
    rintro e w12 ⟨rfl, O12M, O12K, O12, hK⟩
    have O12 := Lib.hid O12
    have O12K := Lib.hid O12K
    replace O5 := Lib.hid (O5.out.same (hK.block _ O5.out.lt (by have := nb5b6.out; omega)))
    replace A := Lib.hid ((hK.block _ S.out (by have := lb6.out; omega)).trans A.out)
    replace D := Lib.hid (D.out.trans ((hK.mono D.out.size).below (by have := lb6.out; omega)))
    replace S := Lib.hid (Nat.le_trans S.out hK.size)
    clear hK
    go_wp2_with fail
    refine (held_any _ 1 _ O12M _ O12K.out O12.out.read (by omega) (by omega)).mono ?_
    rintro e w13 ⟨rfl, B⟩
    replace O5 := Lib.hid (O5.out.up B O5.out.lt)
    replace O12 := Lib.hid (O12.out.up B O12.out.lt)
    replace A := Lib.hid (bblk B S.out A.out)
    replace D := Lib.hid (bstep D.out B)
    replace S := Lib.hid (Nat.le_trans S.out B.size)
    clear B
    go_upto_region 22 with fail
    go_cut [15, 16, 17] (fun s15 s16 s17 wx => ∃ b, Own wx b s15 RL ∧ s16 = .int .i64 rn ∧ s17 = .bool rb ∧ Own wx b5 u5 RL ∧ Own wx b6 g0 O12M ∧ Below w.heap.size w wx)
    case first =>
      obtain ⟨a1, a2, a3, _, _, _⟩ := blk3 A.out
      have hIb := Lib.hid (hI.out.up D.out (Nat.le_refl _))
      have D0 : Hid (Below w13.heap.size w13 w13.drew) := Lib.hid (Below.refl _ _).drew
      go_region_with (first
        | (go_at_call 29; (with_reducible refine (toI_any _ L _ (hIb.out.up D0.out (Nat.le_refl _))).mono ?_); rintro e wI ⟨bI, uI, gI, rfl, OI, BI⟩; have DI := Lib.hid (bstep D0.out BI); obtain ⟨c1, c2, c3, _, _, _⟩ := blk3 (bblk DI.out S.out A.out))
        | (go_at_call 31; (with_reducible refine (toCmd_any k key v wI).mono ?_); rintro e wC ⟨rfl, BC⟩; have OC := Lib.hid (OI.up BC OI.lt); have DC := Lib.hid (bstep DI.out BC))
        | (go_at_call 31; (with_reducible refine (toCmd_any k key v _).mono ?_); rintro e wC ⟨rfl, BC⟩; have DC := Lib.hid (bstep D0.out BC))
        | (go_at_call 29; (with_reducible refine (toI_any _ L wC (hIb.out.up DC.out (Nat.le_refl _))).mono ?_); rintro e wI ⟨bI, uI, gI, rfl, OI, BI⟩; have DI := Lib.hid (bstep DC.out BI))
        | (go_at_call 16; (with_reducible refine (hst.out _ wC OC.out.read).mono ?_); rintro e wS ⟨bS, uS, gS, rfl, OS, BS⟩; have DS := Lib.hid (bstep DC.out BS))
        | (go_at_call 16; (with_reducible refine (hst.out _ wI OI.read).mono ?_); rintro e wS ⟨bS, uS, gS, rfl, OS, BS⟩; have DS := Lib.hid (bstep DI.out BS)))
      all_goals
        simp only [List.getElem_toArray, List.getElem_cons_succ, List.getElem_cons_zero, Act.put, List.setIfInBounds_toArray, List.set_cons_zero, List.set_cons_succ]
        go_wp2_with fail
        go_meet
        exact ⟨bS, OS, rfl, rfl, O5.out.up DS.out O5.out.lt, O12.out.up DS.out O12.out.lt, D.out.trans (DS.out.mono D.out.size)⟩
    case rest =>
      obtain ⟨b7, O7, rfl, rfl, P5, P12, D⟩ := hcut
      have O7 := Lib.hid O7
      have P5 := Lib.hid P5
      have P12 := Lib.hid P12
      have D := Lib.hid D
      clear A S O5 O12
      go_wp2_with fail
      refine (eqI_any _ _ RL RL _ O7.out.read P5.out.read).mono ?_
      rintro e w15 ⟨rfl, B⟩
      rw [show decide (RL = RL) = true from by simp]
      replace P12 := Lib.hid (P12.out.up B P12.out.lt)
      replace D := Lib.hid (bstep D.out B)
      clear B P5 O7
      go_wp2_with fail
      refine (held_any _ 1 _ O12M _ O12K.out P12.out.read (by omega) (by omega)).mono ?_
      rintro e w16 ⟨rfl, B⟩
      replace D := Lib.hid (bstep D.out B)
      clear B P12
      go_wp2_with fail
      go_ret
      exact ⟨rfl, D.out⟩

theorem exss_any (a : Option Addr) (len cap : Nat) (k key v : Int) (w : World) (h : IntsIn w a len cap) :
    Calls Try.prog 12 #[.slice a len cap, .agg #[.int .i64 k, .int .i64 key, .int .i64 v]] w fun e w' => e = .returned (.bool true) ∧ Below w.heap.size w w' := by
  by_cases hl : 1048576 < len
  · exact exss_long a len cap k key v w hl
  · rcases h with h | ⟨L, h⟩
    · exact absurd h hl
    · exact exss_short a len cap L k key v w hl h
end Go.Proofs.Ytmekkjnegmeogaa
