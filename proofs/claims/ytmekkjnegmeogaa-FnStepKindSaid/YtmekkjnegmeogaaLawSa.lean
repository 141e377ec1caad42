/- The walks of FnStep, FnStepKind, FnStepRead. -/
import Derived.Test.YtmekkjnegmeogaaDstep
import Derived.Test.YtmekkjnegmeogaaEqs
namespace Go.Proofs.Ytmekkjnegmeogaa
open Go.RowKit
set_option linter.unusedVariables false

theorem stepL_other {L : List Int} {k key v : Int} {t : Nat} (h0 : 0 ≤ key) (h : ¬ (t : Int) = key) : (stepL L k key v).getD t 0 = L.getD t 0 := by
  have hne : ¬ key.toNat = t := by omega
  unfold stepL
  split
  · simp [List.getD_eq_getElem?_getD, List.getElem?_set_ne hne]
  · split
    · simp [List.getD_eq_getElem?_getD, List.getElem?_set_ne hne]
    · rfl

theorem fnStep_long (a : Option Addr) (len cap : Nat) (w : World) (h : 1048576 < len) :
    Calls Try.prog 3 #[.slice a len cap] w fun e w' => e = .returned (.bool true) ∧ Below w.heap.size w w' := by
  go_enter Try.func3, Try.ntmps3
  go_wp2_with fail
  go_ret
  exact ⟨rfl, Below.refl _ _⟩

set_option maxHeartbeats 4000000 in
theorem fnStep_short (a : Option Addr) (len cap : Nat) (w : World) (h : ¬ 1048576 < len) (hc : CodeIn w a len cap) (hcap : cap ≤ maxLen) :
    Calls Try.prog 3 #[.slice a len cap] w fun e w' => e = .returned (.bool true) ∧ Below w.heap.size w w' := by
  have hc := Lib.hid hc
  have hcap := Lib.hid hcap
  go_enter Try.func3, Try.ntmps3
  go_wp2_with fail
  refine (dstep_any a len cap w hc.out hcap.out).mono ?_
  rintro e w1 ⟨b0, u, L, k, key, v, rfl, g0, O0, D1⟩
  have s1 := D1.size
  have O0 := Lib.hid O0
  have D1 := Lib.hid D1
  have m0 := O0.out.lt
  clear hc hcap
  go_wp2_with fail
  refine (istep_any u L k key v _ ((O0.out.alloc _).read)).mono ?_
  rintro e w2 ⟨b1, u1, g1', rfl, O1, B2⟩
  have g1 : w1.heap.size + 1 ≤ b1 := by simpa using g1'
  have s2 : w1.heap.size + 1 ≤ w2.heap.size := by simpa using B2.size
  have A2 := (B2.block w1.heap.size (by simp)).trans (heap_alloc_new w1 _)
  obtain ⟨a1, a2, a3, f1, f2, f3⟩ := blk3 A2
  have D2 := Lib.hid ((D1.out.alloc (by omega) (.cells #[.int .i64 k, .int .i64 key, .int .i64 v] 25)).trans (B2.mono (by simp; omega)))
  have O02 := Lib.hid ((O0.out.alloc (.cells #[.int .i64 k, .int .i64 key, .int .i64 v] 25)).up B2 (by simp; omega))
  have A2 := Lib.hid A2
  have O1 := Lib.hid O1
  have m1 := O1.out.lt
  clear B2 D1 O0 g1'
  go_wp2_with fail
  refine (sstep_any u L k key v _ O02.out.read).mono ?_
  rintro e w3 ⟨b2, u2, g2, rfl, O2, B3⟩
  have s3 := B3.size
  have A3 := (B3.block w1.heap.size (by omega)).trans A2.out
  clear a1 a2 a3 f1 f2 f3
  obtain ⟨a1, a2, a3, f1, f2, f3⟩ := blk3 A3
  have D3 := Lib.hid (D2.out.trans (B3.mono (by omega)))
  have O03 := Lib.hid (O02.out.up B3 (by omega))
  have O13 := Lib.hid (O1.out.up B3 (by omega))
  have O2 := Lib.hid O2
  have A3 := Lib.hid A3
  clear B3 D2 O02 O1 A2
  by_cases hR : stV L = true ∧ cvB k key v = true
  · obtain ⟨hs, hv⟩ := hR
    rw [stepR_yes hs hv] at O13 O2 ⊢
    have hs := Lib.hid hs
    have hv := Lib.hid hv
    go_wp2_with fail
    refine (same_any u1 u2 _ _ _ O13.out.read O2.out.read).mono ?_
    rintro e w4 ⟨rfl, B4⟩
    rw [show ∀ x : List Int, decide (x = x) = true from fun x => by simp]
    have s4 := B4.size
    have A4 := (B4.block w1.heap.size (by omega)).trans A3.out
    clear a1 a2 a3 f1 f2 f3
    obtain ⟨a1, a2, a3, f1, f2, f3⟩ := blk3 A4
    have D4 := Lib.hid (D3.out.trans (B4.mono (by omega)))
    have O04 := Lib.hid (O03.out.up B4 (by omega))
    have O14 := Lib.hid (O13.out.up B4 (by omega))
    have A4 := Lib.hid A4
    have O2x := Lib.hid (O2.out.up B4 O2.out.lt)
    clear B4 D3 O03 O13 O2 A3
    have hl6 := stV_len hs.out
    have hl6' : (stepL L k key v).length = 6 := by rw [stepL_len]; exact hl6
    obtain ⟨cap0, rfl, hc0⟩ := O04.out.shape
    obtain ⟨cap1, rfl, hc1⟩ := O14.out.shape
    rw [hl6] at O04 hc0
    rw [hl6'] at O14 hc1
    have e0 := O04.out.cell
    have e1 := O14.out.cell
    rw [hl6] at e0
    rw [hl6'] at e1
    have e0 := Lib.hid e0
    have e1 := Lib.hid e1
    have m0' := O04.out.lt
    have m1' := O14.out.lt
    rw [hl6, hl6']
    have hl6 := Lib.hid hl6
    have hl6' := Lib.hid hl6'
    have hkey := Lib.hid (show 0 ≤ key from by have := cv_of hv.out; omega)
    go_wp2_with fail
    go_loopw [11] (fun i wr => ∃ t : Nat, t ≤ 6 ∧ i = .int .i64 t ∧ Below w4.heap.size w4 wr) (fun i _ => 6 - (intOf i).toNat)
    case atStart => exact ⟨0, Nat.zero_le _, rfl, Below.refl _ _⟩
    case round =>
      obtain ⟨t, ht, rfl, hnx⟩ := hrel
      have b2 := (hnx.cell (p := ⟨w1.heap.size, 1, none⟩) (by simp; omega)).trans a2
      have s5 := hnx.size
      by_cases hlt : t < 6
      · have c0 := (hnx.cell (p := ⟨b0, t, none⟩) m0').trans (e0.out t hlt)
        have c1 := (hnx.cell (p := ⟨b1, t, none⟩) m1').trans (e1.out t hlt)
        have hnx := Lib.hid hnx
        clear a1 a2 a3 f1 f2 f3 A4
        by_cases hk : (t : Int) = key
        · subst hk
          go_wp2_with fail
          go_quiet (fail)
          go_wp2_with fail
          go_roundw
          case rel => exact ⟨t + 1, by omega, by go_num, bdrewN hnx.out _⟩
          case measure => simp [intOf]; omega
        · rw [stepL_other hkey.out hk] at c1
          generalize L.getD t 0 = x at c0 c1
          have hk' : ((t : Int) != key) = true := by simpa using hk
          clear hk
          go_wp2_with fail
          go_quiet (fail)
          go_wp2_with fail
          go_roundw
          case rel => exact ⟨t + 1, by omega, by go_num, bdrewN hnx.out _⟩
          case measure => simp [intOf]; omega
      · obtain rfl : t = 6 := by omega
        have O15 := Lib.hid (O14.out.up hnx m1')
        have D5 := Lib.hid (D4.out.trans (hnx.mono (by omega)))
        clear a1 a2 a3 f1 f2 f3 A4 O14 D4 b2 hnx
        go_wp2_with fail
        refine (istv_any _ _ _ O15.out.read).mono ?_
        rintro e w6 ⟨rfl, B6⟩
        rw [stV_step hs.out hv.out]
        have D6 := Lib.hid (D5.out.trans (B6.mono (by omega)))
        clear B6 D5 O15
        go_wp2_with fail
        go_ret
        exact ⟨rfl, D6.out⟩
  · have hno : stepR L k key v = ([], 0, false) := if_neg hR
    rw [hno] at O13 O2 ⊢
    clear hR hno
    go_wp2_with fail
    refine (same_any u1 u2 _ _ _ O13.out.read O2.out.read).mono ?_
    rintro e w4 ⟨rfl, B4⟩
    have s4 := B4.size
    have D4 := Lib.hid (D3.out.trans (B4.mono (by omega)))
    have O14 := Lib.hid (O13.out.up B4 (by omega))
    have O24 := Lib.hid (O2.out.up B4 O2.out.lt)
    clear B4 D3 O03 O13 O2 A3 a1 a2 a3 f1 f2 f3
    go_wp2_with fail
    refine (same_any u1 u2 _ _ _ O14.out.read O24.out.read).mono ?_
    rintro e w5 ⟨rfl, B5⟩
    have D5 := Lib.hid (D4.out.trans (B5.mono (by omega)))
    clear B5 D4 O14 O24
    go_wp2_with fail
    go_ret
    exact ⟨rfl, D5.out⟩

theorem fnStep_any (a : Option Addr) (len cap : Nat) (w : World) (hc : CodeIn w a len cap) (hcap : cap ≤ maxLen) :
    Calls Try.prog 3 #[.slice a len cap] w fun e w' => e = .returned (.bool true) ∧ Below w.heap.size w w' := by
  by_cases h : 1048576 < len
  · exact fnStep_long a len cap w h
  · exact fnStep_short a len cap w h hc hcap

theorem stepN_r (L : List Int) (m : Nat) : stepN L 0 m 0 = L.getD m 0 := rfl
theorem stepN_p (L : List Int) (key v : Int) : stepN L 1 key v = 0 := rfl
theorem stepN_a (L : List Int) (key v : Int) : stepN L 2 key v = 0 := rfl
theorem stepN_n (L : List Int) : stepN L 3 0 0 = 0 := rfl
theorem stepL_r (L : List Int) (key v : Int) : stepL L 0 key v = L := rfl
theorem stepL_n (L : List Int) (key v : Int) : stepL L 3 key v = L := rfl
theorem set_get {L : List Int} {m : Nat} (h : m < L.length) (x : Int) : (L.set m x).getD m 0 = x := by
  rw [List.getD_eq_getElem?_getD, List.getElem?_set_self h]; rfl

theorem fnStepKind_long (a : Option Addr) (len cap : Nat) (w : World) (h : 1048576 < len) :
    Calls Try.prog 4 #[.slice a len cap] w fun e w' => e = .returned (.bool true) ∧ Below w.heap.size w w' := by
  go_enter Try.func4, Try.ntmps4
  go_wp2_with fail
  go_ret
  exact ⟨rfl, Below.refl _ _⟩

set_option maxHeartbeats 4000000 in
theorem fnStepKind_short (a : Option Addr) (len cap : Nat) (w : World) (h : ¬ 1048576 < len) (hc : CodeIn w a len cap) (hcap : cap ≤ maxLen) :
    Calls Try.prog 4 #[.slice a len cap] w fun e w' => e = .returned (.bool true) ∧ Below w.heap.size w w' := by
  have hc := Lib.hid hc
  have hcap := Lib.hid hcap
  go_enter Try.func4, Try.ntmps4
  go_wp2_with fail
  refine (dstep_any a len cap w hc.out hcap.out).mono ?_
  rintro e w1 ⟨b0, u, L, k, key, v, rfl, g0, O0, D1⟩
  have s1 := D1.size
  have O0 := Lib.hid O0
  have D1 := Lib.hid D1
  have m0 := O0.out.lt
  clear hc hcap
  go_wp2_with fail
  refine (istep_any u L k key v _ ((O0.out.alloc _).read)).mono ?_
  rintro e w2 ⟨b1, u1, g1', rfl, O1, B2⟩
  have g1 : w1.heap.size + 1 ≤ b1 := by simpa using g1'
  have s2 : w1.heap.size + 1 ≤ w2.heap.size := by simpa using B2.size
  have A2 := (B2.block w1.heap.size (by simp)).trans (heap_alloc_new w1 _)
  obtain ⟨a1, a2, a3, f1, f2, f3⟩ := blk3 A2
  have D2 := Lib.hid ((D1.out.alloc (by omega) (.cells #[.int .i64 k, .int .i64 key, .int .i64 v] 25)).trans (B2.mono (by simp; omega)))
  have O02 := Lib.hid ((O0.out.alloc (.cells #[.int .i64 k, .int .i64 key, .int .i64 v] 25)).up B2 (by simp; omega))
  have A2 := Lib.hid A2
  have O1 := Lib.hid O1
  have m1 := O1.out.lt
  clear B2 D1 O0 g1'
  go_wp2_with fail
  refine (sstep_any u L k key v _ O02.out.read).mono ?_
  rintro e w3 ⟨b2, u2, g2, rfl, O2, B3⟩
  have s3 := B3.size
  have A3 := (B3.block w1.heap.size (by omega)).trans A2.out
  clear a1 a2 a3 f1 f2 f3
  obtain ⟨a1, a2, a3, f1, f2, f3⟩ := blk3 A3
  have D3 := Lib.hid (D2.out.trans (B3.mono (by omega)))
  have O03 := Lib.hid (O02.out.up B3 (by omega))
  have O13 := Lib.hid (O1.out.up B3 (by omega))
  have O2 := Lib.hid O2
  have A3 := Lib.hid A3
  clear B3 D2 O02 O1 A2
  by_cases hR : stV L = true ∧ cvB k key v = true
  · obtain ⟨hs, hv⟩ := hR
    rw [stepR_yes hs hv] at O13 O2 ⊢
    have hs := Lib.hid hs
    have hv := Lib.hid hv
    go_wp2_with fail
    refine (same_any u1 u2 _ _ _ O13.out.read O2.out.read).mono ?_
    rintro e w4 ⟨rfl, B4⟩
    rw [show ∀ x : List Int, decide (x = x) = true from fun x => by simp]
    have s4 := B4.size
    have A4 := (B4.block w1.heap.size (by omega)).trans A3.out
    clear a1 a2 a3 f1 f2 f3
    obtain ⟨a1, a2, a3, f1, f2, f3⟩ := blk3 A4
    have D4 := Lib.hid (D3.out.trans (B4.mono (by omega)))
    have O04 := Lib.hid (O03.out.up B4 (by omega))
    have O14 := Lib.hid (O13.out.up B4 (by omega))
    have A4 := Lib.hid A4
    have O2x := Lib.hid (O2.out.up B4 O2.out.lt)
    clear B4 D3 O03 O13 O2 A3
    rcases cv_of hv.out with ⟨rfl, h1, h2, rfl⟩ | ⟨rfl, h1, h2, h3, h4⟩ | ⟨rfl, h1, h2, h3, h4⟩ | ⟨rfl, rfl, rfl⟩
    · obtain ⟨m, rfl⟩ := Int.eq_ofNat_of_zero_le h1
      rw [stepN_r]
      rw [stepL_r] at O14
      have hl6 := stV_len hs.out
      obtain ⟨cap0, rfl, hc0⟩ := O04.out.shape
      have e0 := O04.out.cell m (by omega)
      have m0' := O04.out.lt
      rw [hl6] at O04 hc0 ⊢
      have hl6 := Lib.hid hl6
      generalize L.getD m 0 = x at e0
      go_wp2_with fail
      refine (same_any _ _ _ _ _ O14.out.read O04.out.read).mono ?_
      rintro e w6 ⟨rfl, B6⟩
      rw [show decide (L = L) = true from by simp]
      have D6 := Lib.hid (D4.out.trans (B6.mono (by omega)))
      clear B6 D4 O14 O04 a1 a2 a3 f1 f2 f3 A4
      go_wp2_with fail
      go_ret
      exact ⟨rfl, D6.out⟩
    · obtain ⟨m, rfl⟩ := Int.eq_ofNat_of_zero_le h1
      rw [stepN_p]
      rw [stepL_p] at O14
      have hl6 := stV_len hs.out
      obtain ⟨cap1, rfl, hc1⟩ := O14.out.shape
      have e1 := O14.out.cell m (by rw [List.length_set]; omega)
      have m1' := O14.out.lt
      rw [set_get (by omega)] at e1
      rw [List.length_set, hl6] at O14 hc1 ⊢
      have hl6 := Lib.hid hl6
      go_wp2_with fail
      go_quiet (fail)
      go_wp2_with fail
      go_ret
      exact ⟨rfl, bdrewN D4.out _⟩
    · obtain ⟨m, rfl⟩ := Int.eq_ofNat_of_zero_le h1
      rw [stepN_a]
      rw [stepL_a] at O14
      have hl6 := stV_len hs.out
      obtain ⟨cap0, rfl, hc0⟩ := O04.out.shape
      obtain ⟨cap1, rfl, hc1⟩ := O14.out.shape
      have e0 := O04.out.cell m (by omega)
      have e1 := O14.out.cell m (by rw [List.length_set]; omega)
      have m0' := O04.out.lt
      have m1' := O14.out.lt
      rw [set_get (by omega)] at e1
      rw [hl6] at O04 hc0
      rw [List.length_set, hl6] at O14 hc1 ⊢
      have hl6 := Lib.hid hl6
      have hx0 := (stV_get hs.out m).1
      have hx1 := (stV_get hs.out m).2
      clear O04 O14
      generalize L.getD m 0 = x at e0 e1 hx0 hx1
      go_wp2_with fail
      go_quiet (fail)
      go_wp2_with fail
      go_ret
      exact ⟨rfl, bdrewN D4.out _⟩
    · rw [stepN_n]
      rw [stepL_n] at O14
      go_wp2_with fail
      refine (same_any _ _ _ _ _ O14.out.read O04.out.read).mono ?_
      rintro e w6 ⟨rfl, B6⟩
      rw [show decide (L = L) = true from by simp]
      have D6 := Lib.hid (D4.out.trans (B6.mono (by omega)))
      clear B6 D4 O14 O04 a1 a2 a3 f1 f2 f3 A4
      go_wp2_with fail
      go_ret
      exact ⟨rfl, D6.out⟩
  · have hno : stepR L k key v = ([], 0, false) := if_neg hR
    rw [hno] at O13 O2 ⊢
    clear hR hno
    go_wp2_with fail
    refine (same_any u1 u2 _ _ _ O13.out.read O2.out.read).mono ?_
    rintro e w4 ⟨rfl, B4⟩
    have s4 := B4.size
    have D4 := Lib.hid (D3.out.trans (B4.mono (by omega)))
    have O14 := Lib.hid (O13.out.up B4 (by omega))
    have O24 := Lib.hid (O2.out.up B4 O2.out.lt)
    clear B4 D3 O03 O13 O2 A3 a1 a2 a3 f1 f2 f3
    go_wp2_with fail
    refine (same_any u1 u2 _ _ _ O14.out.read O24.out.read).mono ?_
    rintro e w5 ⟨rfl, B5⟩
    have D5 := Lib.hid (D4.out.trans (B5.mono (by omega)))
    clear B5 D4 O14 O24
    go_wp2_with fail
    go_ret
    exact ⟨rfl, D5.out⟩

theorem fnStepKind_any (a : Option Addr) (len cap : Nat) (w : World) (hc : CodeIn w a len cap) (hcap : cap ≤ maxLen) :
    Calls Try.prog 4 #[.slice a len cap] w fun e w' => e = .returned (.bool true) ∧ Below w.heap.size w w' := by
  by_cases h : 1048576 < len
  · exact fnStepKind_long a len cap w h
  · exact fnStepKind_short a len cap w h hc hcap

theorem fnStepRead_long (a : Option Addr) (len cap : Nat) (w : World) (h : 1048576 < len) :
    Calls Try.prog 5 #[.slice a len cap] w fun e w' => e = .returned (.bool true) ∧ Below w.heap.size w w' := by
  go_enter Try.func5, Try.ntmps5
  go_wp2_with fail
  go_ret
  exact ⟨rfl, Below.refl _ _⟩

set_option maxHeartbeats 4000000 in
theorem fnStepRead_short (a : Option Addr) (len cap : Nat) (w : World) (h : ¬ 1048576 < len) (hc : CodeIn w a len cap) (hcap : cap ≤ maxLen) :
    Calls Try.prog 5 #[.slice a len cap] w fun e w' => e = .returned (.bool true) ∧ Below w.heap.size w w' := by
  have hc := Lib.hid hc
  have hcap := Lib.hid hcap
  go_enter Try.func5, Try.ntmps5
  go_wp2_with fail
  refine (dstep_any a len cap w hc.out hcap.out).mono ?_
  rintro e w1 ⟨b0, u, L, k, key, v, rfl, g0, O0, D1⟩
  have s1 := D1.size
  have O0 := Lib.hid O0
  have D1 := Lib.hid D1
  have m0 := O0.out.lt
  clear hc hcap
  go_wp2_with fail
  refine (istep_any u L k key v _ ((O0.out.alloc _).read)).mono ?_
  rintro e w2 ⟨b1, u1, g1', rfl, O1, B2⟩
  have g1 : w1.heap.size + 1 ≤ b1 := by simpa using g1'
  have s2 : w1.heap.size + 1 ≤ w2.heap.size := by simpa using B2.size
  have A2 := (B2.block w1.heap.size (by simp)).trans (heap_alloc_new w1 _)
  obtain ⟨a1, a2, a3, f1, f2, f3⟩ := blk3 A2
  have D2 := Lib.hid ((D1.out.alloc (by omega) (.cells #[.int .i64 k, .int .i64 key, .int .i64 v] 25)).trans (B2.mono (by simp; omega)))
  have O02 := Lib.hid ((O0.out.alloc (.cells #[.int .i64 k, .int .i64 key, .int .i64 v] 25)).up B2 (by simp; omega))
  have A2 := Lib.hid A2
  have O1 := Lib.hid O1
  have m1 := O1.out.lt
  clear B2 D1 O0 g1'
  go_wp2_with fail
  refine (sstep_any u L k key v _ O02.out.read).mono ?_
  rintro e w3 ⟨b2, u2, g2, rfl, O2, B3⟩
  have s3 := B3.size
  have A3 := (B3.block w1.heap.size (by omega)).trans A2.out
  clear a1 a2 a3 f1 f2 f3
  obtain ⟨a1, a2, a3, f1, f2, f3⟩ := blk3 A3
  have D3 := Lib.hid (D2.out.trans (B3.mono (by omega)))
  have O03 := Lib.hid (O02.out.up B3 (by omega))
  have O13 := Lib.hid (O1.out.up B3 (by omega))
  have O2 := Lib.hid O2
  have A3 := Lib.hid A3
  clear B3 D2 O02 O1 A2
  by_cases hR : stV L = true ∧ cvB k key v = true
  · obtain ⟨hs, hv⟩ := hR
    rw [stepR_yes hs hv] at O13 O2 ⊢
    have hs := Lib.hid hs
    have hv := Lib.hid hv
    go_wp2_with fail
    refine (same_any u1 u2 _ _ _ O13.out.read O2.out.read).mono ?_
    rintro e w4 ⟨rfl, B4⟩
    rw [show ∀ x : List Int, decide (x = x) = true from fun x => by simp]
    have s4 := B4.size
    have A4 := (B4.block w1.heap.size (by omega)).trans A3.out
    clear a1 a2 a3 f1 f2 f3
    obtain ⟨a1, a2, a3, f1, f2, f3⟩ := blk3 A4
    have D4 := Lib.hid (D3.out.trans (B4.mono (by omega)))
    have O04 := Lib.hid (O03.out.up B4 (by omega))
    have O14 := Lib.hid (O13.out.up B4 (by omega))
    have A4 := Lib.hid A4
    have O2x := Lib.hid (O2.out.up B4 O2.out.lt)
    clear B4 D3 O03 O13 O2 A3
    rcases cv_of hv.out with ⟨rfl, h1, h2, rfl⟩ | ⟨rfl, h1, h2, h3, h4⟩ | ⟨rfl, h1, h2, h3, h4⟩ | ⟨rfl, rfl, rfl⟩
    · skip
      have O24 := Lib.hid (O14.out)
      go_wp2_with fail
      refine (same_any u1 u2 _ _ _ O14.out.read O2x.out.read).mono ?_
      rintro e w6 ⟨rfl, B6⟩
      rw [show ∀ x : List Int, decide (x = x) = true from fun x => by simp]
      have D6 := Lib.hid (D4.out.trans (B6.mono (by omega)))
      clear B6 D4 O14 O04 a1 a2 a3 f1 f2 f3 A4
      go_wp2_with fail
      go_ret
      exact ⟨rfl, D6.out⟩
    · obtain ⟨m, rfl⟩ := Int.eq_ofNat_of_zero_le h1
      have hl6 := stV_len hs.out
      have hs2 := Lib.hid (stV_step hs.out hv.out)
      have hv2 := Lib.hid (cv_r h1 h2)
      rw [stepN_p]
      go_wp2_with fail
      refine (istep_any u1 _ 0 m 0 _ O14.out.read).mono ?_
      rintro e w6 ⟨b6, u6, g6, rfl, O6, B6⟩
      have s6 := B6.size
      have A6 := (B6.block w1.heap.size (by omega)).trans A4.out
      clear a1 a2 a3 f1 f2 f3
      obtain ⟨a1, a2, a3, f1, f2, f3⟩ := blk3 A6
      have D6 := Lib.hid (D4.out.trans (B6.mono (by omega)))
      have hn6 : Hid (stepN (stepL L 1 m v) 0 m 0 = v) := Lib.hid (by rw [stepN_r, stepL_p, set_get (by omega)])
      rw [stepR_yes hs2.out hv2.out, hn6.out]
      clear B6 D4 A4 A6 O6 O14
      go_wp2_with fail
      go_ret
      exact ⟨rfl, D6.out⟩
    · skip
      have O24 := Lib.hid (O14.out)
      go_wp2_with fail
      refine (same_any u1 u2 _ _ _ O14.out.read O2x.out.read).mono ?_
      rintro e w6 ⟨rfl, B6⟩
      rw [show ∀ x : List Int, decide (x = x) = true from fun x => by simp]
      have D6 := Lib.hid (D4.out.trans (B6.mono (by omega)))
      clear B6 D4 O14 O04 a1 a2 a3 f1 f2 f3 A4
      go_wp2_with fail
      go_ret
      exact ⟨rfl, D6.out⟩
    · skip
      have O24 := Lib.hid (O14.out)
      go_wp2_with fail
      refine (same_any u1 u2 _ _ _ O14.out.read O2x.out.read).mono ?_
      rintro e w6 ⟨rfl, B6⟩
      rw [show ∀ x : List Int, decide (x = x) = true from fun x => by simp]
      have D6 := Lib.hid (D4.out.trans (B6.mono (by omega)))
      clear B6 D4 O14 O04 a1 a2 a3 f1 f2 f3 A4
      go_wp2_with fail
      go_ret
      exact ⟨rfl, D6.out⟩
  · have hno : stepR L k key v = ([], 0, false) := if_neg hR
    rw [hno] at O13 O2 ⊢
    clear hR hno
    go_wp2_with fail
    refine (same_any u1 u2 _ _ _ O13.out.read O2.out.read).mono ?_
    rintro e w4 ⟨rfl, B4⟩
    have s4 := B4.size
    have D4 := Lib.hid (D3.out.trans (B4.mono (by omega)))
    have O14 := Lib.hid (O13.out.up B4 (by omega))
    have O24 := Lib.hid (O2.out.up B4 O2.out.lt)
    clear B4 D3 O03 O13 O2 A3 a1 a2 a3 f1 f2 f3
    go_wp2_with fail
    refine (same_any u1 u2 _ _ _ O14.out.read O24.out.read).mono ?_
    rintro e w5 ⟨rfl, B5⟩
    have D5 := Lib.hid (D4.out.trans (B5.mono (by omega)))
    clear B5 D4 O14 O24
    go_wp2_with fail
    go_ret
    exact ⟨rfl, D5.out⟩

theorem fnStepRead_any (a : Option Addr) (len cap : Nat) (w : World) (hc : CodeIn w a len cap) (hcap : cap ≤ maxLen) :
    Calls Try.prog 5 #[.slice a len cap] w fun e w' => e = .returned (.bool true) ∧ Below w.heap.size w w' := by
  by_cases h : 1048576 < len
  · exact fnStepRead_long a len cap w h
  · exact fnStepRead_short a len cap w h hc hcap
end Go.Proofs.Ytmekkjnegmeogaa
