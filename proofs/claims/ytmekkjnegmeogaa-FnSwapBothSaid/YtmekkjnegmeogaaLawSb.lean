/- The walks of FnSwap, FnSwapBoth, FnSwapNot. -/
import Derived.Test.YtmekkjnegmeogaaDswap
import Derived.Test.YtmekkjnegmeogaaSwap
namespace Go.Proofs.Ytmekkjnegmeogaa
open Go.RowKit
set_option linter.unusedVariables false

theorem getD_set_ne {L : List Int} {m n : Nat} (h : ¬ m = n) (x : Int) : (L.set m x).getD n 0 = L.getD n 0 := by
  rw [List.getD_eq_getElem?_getD, List.getElem?_set_ne h, ← List.getD_eq_getElem?_getD]
theorem getD_set_eq {L : List Int} {m : Nat} (h : m < L.length) (x : Int) : (L.set m x).getD m 0 = x := by
  rw [List.getD_eq_getElem?_getD, List.getElem?_set_self h]; rfl

theorem clB_no {k key v k' key' v' : Int} (h2 : cvB k key v = true) (h3 : cvB k' key' v' = true) (h : clB k key v k' key' v' = false) : ¬ (k ≠ 3 ∧ k' ≠ 3 ∧ key = key' ∧ (k ≠ k' ∨ k = 1)) := by
  unfold clB at h
  rw [h2, h3] at h
  unfold kcB at h
  simpa using h

/-- WHAT DOES NOT CLASH MAY BE EXCHANGED. -/
theorem sw_true {L : List Int} {k key v k' key' v' : Int} (h1 : stV L = true) (h2 : cvB k key v = true) (h3 : cvB k' key' v' = true) (h : clB k key v k' key' v' = false) : swB L k key v k' key' v' = true := by
  have hn := clB_no h2 h3 h
  have hl := stV_len h1
  rw [swB_yes h1 h2 h3]
  have key1 : stepL (stepL L k key v) k' key' v' = stepL (stepL L k' key' v') k key v ∧ stepN L k key v = stepN (stepL L k' key' v') k key v ∧ stepN L k' key' v' = stepN (stepL L k key v) k' key' v' := by
    rcases cv_of h2 with ⟨rfl, a1, a2, rfl⟩ | ⟨rfl, a1, a2, a3, a4⟩ | ⟨rfl, a1, a2, a3, a4⟩ | ⟨rfl, rfl, rfl⟩ <;>
    rcases cv_of h3 with ⟨rfl, b1, b2, rfl⟩ | ⟨rfl, b1, b2, b3, b4⟩ | ⟨rfl, b1, b2, b3, b4⟩ | ⟨rfl, rfl, rfl⟩
    all_goals first
      | exact ⟨rfl, rfl, rfl⟩
      | (obtain ⟨m, rfl⟩ := Int.eq_ofNat_of_zero_le a1
         obtain ⟨n, rfl⟩ := Int.eq_ofNat_of_zero_le b1
         have hne : ¬ m = n := fun e => hn ⟨by decide, by decide, by rw [e], by decide⟩
         have hne' : ¬ n = m := fun e => hne e.symm
         refine ⟨?_, ?_, ?_⟩ <;> simp only [stepL, stepN, Int.toNat_natCast, getD_set_ne hne, getD_set_ne hne', List.set_comm _ _ hne, if_true] <;> simp [List.set_comm _ _ hne, List.getElem?_set_ne hne, List.getElem?_set_ne hne'])
      | (obtain ⟨m, rfl⟩ := Int.eq_ofNat_of_zero_le a1
         obtain ⟨n, rfl⟩ := Int.eq_ofNat_of_zero_le b1
         by_cases hne : m = n
         · subst hne
           have hm : m < L.length := by omega
           refine ⟨?_, rfl, rfl⟩
           rw [stepL_a, stepL_a, stepL_a, stepL_a, getD_set_eq hm, getD_set_eq hm, List.set_set, List.set_set]
           congr 1; omega
         · have hne' : ¬ n = m := fun e => hne e.symm
           refine ⟨?_, rfl, rfl⟩
           rw [stepL_a, stepL_a, stepL_a, stepL_a, getD_set_ne hne, getD_set_ne hne', List.set_comm _ _ hne])
  rw [decide_eq_true key1.1, decide_eq_true key1.2.1, decide_eq_true key1.2.2]
  rfl

theorem decide_comm {A : Type} [DecidableEq A] (x y : A) : decide (x = y) = decide (y = x) := by
  rw [Bool.eq_iff_iff]; simp [eq_comm]

theorem swB_comm (L : List Int) (k key v k' key' v' : Int) : swB L k' key' v' k key v = swB L k key v k' key' v' := by
  by_cases h : stV L = true ∧ cvB k key v = true ∧ cvB k' key' v' = true
  · rw [swB_yes h.1 h.2.1 h.2.2, swB_yes h.1 h.2.2 h.2.1, decide_comm (stepL (stepL L k' key' v') k key v), Bool.and_comm (decide (stepN L k' key' v' = _))]
  · rw [← swB_no h, ← swB_no (fun x => h ⟨x.1, x.2.2, x.2.1⟩)]

theorem sw_not {L : List Int} {v : Int} (h1 : stV L = true) (h : ¬ v = L.getD 2 0) : swB L 0 2 0 1 2 v = false := by
  by_cases hv : cvB 1 2 v = true
  · have hl := stV_len h1
    rw [swB_yes h1 (by decide) hv]
    have e : ¬ stepN L 0 2 0 = stepN (stepL L 1 2 v) 0 2 0 := by
      show ¬ L.getD 2 0 = (L.set 2 v).getD 2 0
      rw [getD_set_eq (by omega)]
      exact fun x => h x.symm
    rw [decide_eq_false e]; simp
  · exact (swB_no (fun x => hv x.2.2)).symm

theorem fnSwap_long (a : Option Addr) (len cap : Nat) (w : World) (h : 1048576 < len) :
    Calls Try.prog 8 #[.slice a len cap] w fun e w' => e = .returned (.bool true) ∧ Below w.heap.size w w' := by
  go_enter Try.func8, Try.ntmps8
  go_wp2_with fail
  go_ret
  exact ⟨rfl, Below.refl _ _⟩

set_option maxHeartbeats 4000000 in
theorem fnSwap_short (a : Option Addr) (len cap : Nat) (w : World) (h : ¬ 1048576 < len) (hc : CodeIn w a len cap) (hcap : cap ≤ maxLen) :
    Calls Try.prog 8 #[.slice a len cap] w fun e w' => e = .returned (.bool true) ∧ Below w.heap.size w w' := by
  have hc := Lib.hid hc
  have hcap := Lib.hid hcap
  go_enter Try.func8, Try.ntmps8
  go_wp2_with fail
  refine (dswap_any a len cap w hc.out hcap.out).mono ?_
  rintro e w1 ⟨b0, u, L, k, key, v, k', key', v', rfl, g0, O0, D1⟩
  have s1 := D1.size
  have D := Lib.hid ((D1.alloc (by omega) (.cells #[.int .i64 k, .int .i64 key, .int .i64 v] 25)).alloc (by simp; omega) (.cells #[.int .i64 k', .int .i64 key', .int .i64 v'] 25))
  have O := Lib.hid ((O0.alloc (.cells #[.int .i64 k, .int .i64 key, .int .i64 v] 25)).alloc (.cells #[.int .i64 k', .int .i64 key', .int .i64 v'] 25))
  have m0 := O0.lt
  clear hc hcap O0 D1
  go_wp2_with fail
  refine (iswap_any u L k key v k' key' v' _ O.out.read).mono ?_
  rintro e w2 ⟨rfl, B⟩
  have A := Lib.hid ((B.block w1.heap.size (by simp; omega)).trans ((Below.heap_alloc _ _ _ (by simp)).trans (heap_alloc_new w1 _)))
  have E := Lib.hid ((B.block (w1.heap.size + 1) (by simp)).trans (heap_alloc_at _ _ _ (by simp)))
  have S : Hid (w1.heap.size + 2 ≤ w2.heap.size) := Lib.hid (by simpa using B.size)
  replace O := Lib.hid (O.out.up B O.out.lt)
  replace D := Lib.hid (bstep D.out B)
  clear B
  obtain ⟨a1, a2, a3, _, _, _⟩ := blk3 A.out
  obtain ⟨b1, b2, b3, _, _, _⟩ := blk3 E.out
  go_wp2_with fail
  refine (sswap_any u L k key v k' key' v' _ O.out.read).mono ?_
  rintro e w3 ⟨rfl, B⟩
  replace O := Lib.hid (O.out.up B O.out.lt)
  replace A := Lib.hid (bblk B (by have := S.out; omega) A.out)
  replace E := Lib.hid (bblk B (by have := S.out; omega) E.out)
  replace D := Lib.hid (bstep D.out B)
  replace S := Lib.hid (Nat.le_trans S.out B.size)
  clear B a1 a2 a3 b1 b2 b3
  have hsw := Lib.hid (fun h1 h2 h3 h => sw_true (L := L) (k := k) (key := key) (v := v) (k' := k') (key' := key') (v' := v') h1 h2 h3 h)
  generalize swB L k key v k' key' v' = sb at hsw ⊢
  obtain ⟨a1, a2, a3, _, _, _⟩ := blk3 A.out
  obtain ⟨b1, b2, b3, _, _, _⟩ := blk3 E.out
  go_wp2_with fail
  refine (sstv_any u L _ O.out.read).mono ?_
  rintro e w4 ⟨rfl, B⟩
  replace O := Lib.hid (O.out.up B O.out.lt)
  replace A := Lib.hid (bblk B (by have := S.out; omega) A.out)
  replace E := Lib.hid (bblk B (by have := S.out; omega) E.out)
  replace D := Lib.hid (bstep D.out B)
  replace S := Lib.hid (Nat.le_trans S.out B.size)
  clear B a1 a2 a3 b1 b2 b3
  cases hs : stV L
  · clear hsw
    go_wp2_with fail
    go_ret
    exact ⟨rfl, D.out⟩
  obtain ⟨a1, a2, a3, _, _, _⟩ := blk3 A.out
  obtain ⟨b1, b2, b3, _, _, _⟩ := blk3 E.out
  go_wp2_with fail
  refine (svalid_any k key v _).mono ?_
  rintro e w5 ⟨rfl, B⟩
  replace O := Lib.hid (O.out.up B O.out.lt)
  replace A := Lib.hid (bblk B (by have := S.out; omega) A.out)
  replace E := Lib.hid (bblk B (by have := S.out; omega) E.out)
  replace D := Lib.hid (bstep D.out B)
  replace S := Lib.hid (Nat.le_trans S.out B.size)
  clear B a1 a2 a3 b1 b2 b3
  cases hv : cvB k key v
  · clear hsw
    go_wp2_with fail
    go_ret
    exact ⟨rfl, D.out⟩
  obtain ⟨a1, a2, a3, _, _, _⟩ := blk3 A.out
  obtain ⟨b1, b2, b3, _, _, _⟩ := blk3 E.out
  go_wp2_with fail
  refine (svalid_any k' key' v' _).mono ?_
  rintro e w6 ⟨rfl, B⟩
  replace O := Lib.hid (O.out.up B O.out.lt)
  replace A := Lib.hid (bblk B (by have := S.out; omega) A.out)
  replace E := Lib.hid (bblk B (by have := S.out; omega) E.out)
  replace D := Lib.hid (bstep D.out B)
  replace S := Lib.hid (Nat.le_trans S.out B.size)
  clear B a1 a2 a3 b1 b2 b3
  cases hv' : cvB k' key' v'
  · clear hsw
    go_wp2_with fail
    go_ret
    exact ⟨rfl, D.out⟩
  have hcl := Lib.hid (hsw.out hs hv hv')
  clear hsw hs hv hv'
  obtain ⟨a1, a2, a3, _, _, _⟩ := blk3 A.out
  obtain ⟨b1, b2, b3, _, _, _⟩ := blk3 E.out
  cases sb
  · go_wp2_with fail
    refine (iclash_any k key v k' key' v' _).mono ?_
    rintro e w7 ⟨rfl, B⟩
    replace D := Lib.hid (bstep D.out B)
    clear B a1 a2 a3 b1 b2 b3
    cases hq : clB k key v k' key' v'
    · exact absurd (hcl.out hq) (by decide)
    · clear hcl
      go_wp2_with fail
      go_ret
      exact ⟨rfl, D.out⟩
  · clear hcl
    go_wp2_with fail
    go_ret
    exact ⟨rfl, D.out⟩

theorem fnSwap_any (a : Option Addr) (len cap : Nat) (w : World) (hc : CodeIn w a len cap) (hcap : cap ≤ maxLen) :
    Calls Try.prog 8 #[.slice a len cap] w fun e w' => e = .returned (.bool true) ∧ Below w.heap.size w w' := by
  by_cases h : 1048576 < len
  · exact fnSwap_long a len cap w h
  · exact fnSwap_short a len cap w h hc hcap

theorem fnSwapBoth_long (a : Option Addr) (len cap : Nat) (w : World) (h : 1048576 < len) :
    Calls Try.prog 9 #[.slice a len cap] w fun e w' => e = .returned (.bool true) ∧ Below w.heap.size w w' := by
  go_enter Try.func9, Try.ntmps9
  go_wp2_with fail
  go_ret
  exact ⟨rfl, Below.refl _ _⟩

set_option maxHeartbeats 4000000 in
theorem fnSwapBoth_short (a : Option Addr) (len cap : Nat) (w : World) (h : ¬ 1048576 < len) (hc : CodeIn w a len cap) (hcap : cap ≤ maxLen) :
    Calls Try.prog 9 #[.slice a len cap] w fun e w' => e = .returned (.bool true) ∧ Below w.heap.size w w' := by
  have hc := Lib.hid hc
  have hcap := Lib.hid hcap
  go_enter Try.func9, Try.ntmps9
  go_wp2_with fail
  refine (dswap_any a len cap w hc.out hcap.out).mono ?_
  rintro e w1 ⟨b0, u, L, k, key, v, k', key', v', rfl, g0, O0, D1⟩
  have s1 := D1.size
  have D := Lib.hid ((D1.alloc (by omega) (.cells #[.int .i64 k, .int .i64 key, .int .i64 v] 25)).alloc (by simp; omega) (.cells #[.int .i64 k', .int .i64 key', .int .i64 v'] 25))
  have O := Lib.hid ((O0.alloc (.cells #[.int .i64 k, .int .i64 key, .int .i64 v] 25)).alloc (.cells #[.int .i64 k', .int .i64 key', .int .i64 v'] 25))
  have m0 := O0.lt
  clear hc hcap O0 D1
  go_wp2_with fail
  refine (iswap_any u L k key v k' key' v' _ O.out.read).mono ?_
  rintro e w2 ⟨rfl, B⟩
  have A := Lib.hid ((B.block w1.heap.size (by simp; omega)).trans ((Below.heap_alloc _ _ _ (by simp)).trans (heap_alloc_new w1 _)))
  have E := Lib.hid ((B.block (w1.heap.size + 1) (by simp)).trans (heap_alloc_at _ _ _ (by simp)))
  have S : Hid (w1.heap.size + 2 ≤ w2.heap.size) := Lib.hid (by simpa using B.size)
  replace O := Lib.hid (O.out.up B O.out.lt)
  replace D := Lib.hid (bstep D.out B)
  clear B
  obtain ⟨a1, a2, a3, _, _, _⟩ := blk3 A.out
  obtain ⟨b1, b2, b3, _, _, _⟩ := blk3 E.out
  go_wp2_with fail
  refine (sswap_any u L k key v k' key' v' _ O.out.read).mono ?_
  rintro e w3 ⟨rfl, B⟩
  replace O := Lib.hid (O.out.up B O.out.lt)
  replace A := Lib.hid (bblk B (by have := S.out; omega) A.out)
  replace E := Lib.hid (bblk B (by have := S.out; omega) E.out)
  replace D := Lib.hid (bstep D.out B)
  replace S := Lib.hid (Nat.le_trans S.out B.size)
  clear B a1 a2 a3 b1 b2 b3
  obtain ⟨a1, a2, a3, _, _, _⟩ := blk3 A.out
  obtain ⟨b1, b2, b3, _, _, _⟩ := blk3 E.out
  go_wp2_with fail
  refine (iswap_any u L k' key' v' k key v _ O.out.read).mono ?_
  rintro e w4 ⟨rfl, B⟩
  replace O := Lib.hid (O.out.up B O.out.lt)
  replace A := Lib.hid (bblk B (by have := S.out; omega) A.out)
  replace E := Lib.hid (bblk B (by have := S.out; omega) E.out)
  replace D := Lib.hid (bstep D.out B)
  replace S := Lib.hid (Nat.le_trans S.out B.size)
  clear B a1 a2 a3 b1 b2 b3
  rw [swB_comm]
  go_wp2_with fail
  go_ret
  exact ⟨rfl, D.out⟩

theorem fnSwapBoth_any (a : Option Addr) (len cap : Nat) (w : World) (hc : CodeIn w a len cap) (hcap : cap ≤ maxLen) :
    Calls Try.prog 9 #[.slice a len cap] w fun e w' => e = .returned (.bool true) ∧ Below w.heap.size w w' := by
  by_cases h : 1048576 < len
  · exact fnSwapBoth_long a len cap w h
  · exact fnSwapBoth_short a len cap w h hc hcap

theorem fnSwapNot_long (a : Option Addr) (len cap : Nat) (w : World) (h : 1048576 < len) :
    Calls Try.prog 10 #[.slice a len cap] w fun e w' => e = .returned (.bool true) ∧ Below w.heap.size w w' := by
  go_enter Try.func10, Try.ntmps10
  go_wp2_with fail
  go_ret
  exact ⟨rfl, Below.refl _ _⟩

set_option maxHeartbeats 4000000 in
theorem fnSwapNot_short (a : Option Addr) (len cap : Nat) (w : World) (h : ¬ 1048576 < len) (hc : CodeIn w a len cap) (hcap : cap ≤ maxLen) :
    Calls Try.prog 10 #[.slice a len cap] w fun e w' => e = .returned (.bool true) ∧ Below w.heap.size w w' := by
  have hc := Lib.hid hc
  have hcap := Lib.hid hcap
  go_enter Try.func10, Try.ntmps10
  go_wp2_with fail
  refine (dswap_any a len cap w hc.out hcap.out).mono ?_
  rintro e w1 ⟨b0, u, L, k, key, v, k', key', v', rfl, g0, O0, D1⟩
  have s1 := D1.size
  have D := Lib.hid ((D1.alloc (by omega) (.cells #[.int .i64 k, .int .i64 key, .int .i64 v] 25)).alloc (by simp; omega) (.cells #[.int .i64 k', .int .i64 key', .int .i64 v'] 25))
  have O := Lib.hid ((O0.alloc (.cells #[.int .i64 k, .int .i64 key, .int .i64 v] 25)).alloc (.cells #[.int .i64 k', .int .i64 key', .int .i64 v'] 25))
  have m0 := O0.lt
  clear hc hcap O0 D1
  go_wp2_with fail
  refine (iswap_any u L k key v k' key' v' _ O.out.read).mono ?_
  rintro e w2 ⟨rfl, B⟩
  have A := Lib.hid ((B.block w1.heap.size (by simp; omega)).trans ((Below.heap_alloc _ _ _ (by simp)).trans (heap_alloc_new w1 _)))
  have E := Lib.hid ((B.block (w1.heap.size + 1) (by simp)).trans (heap_alloc_at _ _ _ (by simp)))
  have S : Hid (w1.heap.size + 2 ≤ w2.heap.size) := Lib.hid (by simpa using B.size)
  replace O := Lib.hid (O.out.up B O.out.lt)
  replace D := Lib.hid (bstep D.out B)
  clear B
  obtain ⟨a1, a2, a3, _, _, _⟩ := blk3 A.out
  obtain ⟨b1, b2, b3, _, _, _⟩ := blk3 E.out
  go_wp2_with fail
  refine (sswap_any u L k key v k' key' v' _ O.out.read).mono ?_
  rintro e w3 ⟨rfl, B⟩
  replace O := Lib.hid (O.out.up B O.out.lt)
  replace A := Lib.hid (bblk B (by have := S.out; omega) A.out)
  replace E := Lib.hid (bblk B (by have := S.out; omega) E.out)
  replace D := Lib.hid (bstep D.out B)
  replace S := Lib.hid (Nat.le_trans S.out B.size)
  clear B a1 a2 a3 b1 b2 b3
  generalize swB L k key v k' key' v' = sb
  go_wp2_with fail
  refine (sstv_any u L _ O.out.read).mono ?_
  rintro e w4 ⟨rfl, B⟩
  replace O := Lib.hid (O.out.up B O.out.lt)
  replace D := Lib.hid (bstep D.out B)
  clear B A E S
  cases hs : stV L
  · go_wp2_with fail
    go_ret
    exact ⟨rfl, D.out⟩
  have hl6 := stV_len hs
  obtain ⟨cap0, rfl, hc0⟩ := O.out.shape
  have e0 := O.out.cell 2 (by omega)
  have hx := stV_get hs 2
  have hsn := Lib.hid (fun v h => sw_not (L := L) (v := v) hs h)
  have O2 := Lib.hid O.out.read
  clear O hs
  rw [hl6] at O2 hc0 ⊢
  have hl6 := Lib.hid hl6
  generalize L.getD 2 0 = x at e0 hx hsn
  obtain ⟨hx0, hx1⟩ := hx
  by_cases hq : (x + 1) % 100 = x
  · go_wp2_with fail
    go_ret
    exact ⟨rfl, D.out⟩
  · have hsb := Lib.hid (hsn.out _ hq)
    have hq' : ((x + 1) % 100 == x) = false := by simpa using hq
    clear hsn hq
    go_wp2_with fail
    refine (iswap_any _ L 0 2 0 1 2 ((x + 1) % 100) _ O2.out).mono ?_
    rintro e w5 ⟨rfl, B⟩
    rw [hsb.out]
    replace D := Lib.hid (bstep D.out B)
    clear B O2
    go_wp2_with fail
    go_ret
    exact ⟨rfl, D.out⟩

theorem fnSwapNot_any (a : Option Addr) (len cap : Nat) (w : World) (hc : CodeIn w a len cap) (hcap : cap ≤ maxLen) :
    Calls Try.prog 10 #[.slice a len cap] w fun e w' => e = .returned (.bool true) ∧ Below w.heap.size w w' := by
  by_cases h : 1048576 < len
  · exact fnSwapNot_long a len cap w h
  · exact fnSwapNot_short a len cap w h hc hcap
end Go.Proofs.Ytmekkjnegmeogaa
