/- The walk of the law FnCommandPart. -/
import Derived.Test.YthdofjfjefcfpaaLawA
import Derived.Test.YthdofjfjefcfpaaDraw
namespace Go.Proofs.Ythdofjfjefcfpaa
open Go.RowKit
set_option linter.unusedVariables false

/-- What DrawCommandValid leaves: a command. -/
def OnePost (w : World) (e : Ending) (w' : World) : Prop :=
  ∃ k key v : Int, e = .returned (.agg #[.int .i64 k, .int .i64 key, .int .i64 v]) ∧ Below w.heap.size w w'

set_option maxHeartbeats 1000000 in
theorem one_any (a : Option Addr) (len cap : Nat) (w : World) (hc : CodeIn w a len cap) (hcap : cap ≤ maxLen) :
    Calls Try.prog 14 #[.slice a len cap] w (OnePost w) := by
  have hc1 := Lib.hid hc
  have hcap1 := Lib.hid hcap
  clear hc hcap
  go_enter Try.func14, Try.ntmps14
  go_wp2_with fail
  refine (open_any a len cap _ (hc1.out.up ((Below.refl _ _).alloc (Nat.le_refl _) _)) hcap1.out).mono ?_
  rintro e w1 ⟨r, rfl, hr0', hr', hb'⟩
  have hr0 : w.heap.size + 1 ≤ r := by simpa using hr0'
  have A1 := Lib.hid ((hb'.block w.heap.size (by simp)).trans (heap_alloc_new w _))
  have D1 := Lib.hid (((Below.refl w.heap.size w).alloc (Nat.le_refl _) (.cells #[.int .i64 0, .int .i64 0, .int .i64 0] 24)).trans (hb'.mono (by simp)))
  have s1 : w.heap.size + 1 ≤ w1.heap.size := by simpa using hb'.size
  have hr1 := Lib.hid hr'
  clear hr0' hr' hb' hc1 hcap1
  go_wp2_with fail
  refine (cmd_any r 0 _ hr1.out (by omega)).mono ?_
  rintro e w2 ⟨k, key, v, rfl, _, _, _, hr2, hk2⟩
  obtain ⟨a1, a2, a3, f1, f2, f3⟩ := blk3 ((hk2.block w.heap.size (by omega) (by omega)).trans A1.out)
  have D2 := Lib.hid (D1.out.trans ((hk2.mono (by omega)).below (by omega)))
  clear hr2 hk2 hr1 A1 D1
  go_wp2_with fail
  exact bodyPost_ret (v := .agg #[.int .i64 k, .int .i64 key, .int .i64 v]) (by simp [results, Try.results14, go_sem, a1, a2, a3]) rfl ⟨k, key, v, rfl, by have X := D2.out; clear D2; repeat (first | with_reducible exact X | with_reducible refine Below.setCell ?_ (by simp) _)⟩

theorem cvB_far (k v : Int) : cvB k 6 v = false := by unfold cvB; simp
theorem cvB_much (k key : Int) : cvB k key 100 = false := by unfold cvB; simp
theorem cvB_read (key : Int) : cvB 0 key 1 = false := by unfold cvB; simp

set_option maxHeartbeats 2000000 in
theorem fnCommandPart_walk (a : Option Addr) (len cap : Nat) (w : World) (hc : CodeIn w a len cap) (hcap : cap ≤ maxLen) :
    Calls Try.prog 5 #[.slice a len cap] w fun e w' => e = .returned (.bool true) ∧ Below w.heap.size w w' := by
  have hm : cap ≤ 9223372036854775807 := by simpa [maxLen] using hcap
  have hlc := hc.1
  by_cases hl : 1048576 < len
  · clear hcap hc
    go_enter Try.func5, Try.ntmps5
    go_wp2_with fail
    go_ret
    exact ⟨rfl, Below.refl _ _⟩
  · have hc1 := Lib.hid hc
    have hcap1 := Lib.hid hcap
    clear hc hcap
    go_enter Try.func5, Try.ntmps5
    go_wp2_with fail
    refine (one_any a len cap w hc1.out hcap1.out).mono ?_
    rintro e w1 ⟨k, key, v, rfl, D1'⟩
    have D1 := Lib.hid D1'
    clear hc1 hcap1 D1'
    have c1 := ivalid_any k key v
    have c2 := svalid_any k key v
    have c3 := ivalid_any k 6 v
    have c4 := ivalid_any k key 100
    have c5 := ivalid_any 0 key 1
    rw [cvB_far] at c3
    rw [cvB_much] at c4
    rw [cvB_read] at c5
    generalize cvB k key v = q at c1 c2
    have c2 := Lib.hid c2; have c3 := Lib.hid c3; have c4 := Lib.hid c4; have c5 := Lib.hid c5
    go_wp2_with fail
    refine (c1 _).mono ?_
    rintro e w2 ⟨rfl, hb2⟩
    have h12 : Below w1.heap.size w1 w2 := ((Below.refl _ _).alloc (Nat.le_refl _) _).trans (hb2.mono (by simp))
    obtain ⟨a1, a2, a3, _, _, _⟩ := blk3 ((hb2.block w1.heap.size (by simp)).trans (heap_alloc_new w1 _))
    have z2 : w1.heap.size + 1 ≤ w2.heap.size := by simpa using hb2.size
    have e2 := Lib.hid (D1.out.trans (h12.mono D1.out.size))
    clear hb2 h12 c1
    go_wp2_with fail
    refine (c2.out _).mono ?_
    rintro e w3 ⟨rfl, h23⟩
    have a1 := cell_later h23 a1; have a2 := cell_later h23 a2; have a3 := cell_later h23 a3
    have e3 := Lib.hid (e2.out.trans (h23.mono e2.out.size))
    have z3 : w1.heap.size < w3.heap.size := by have := h23.size; omega
    clear h23 e2 c2
    cases q
    · go_wp2_with fail
      go_ret
      exact ⟨rfl, e3.out⟩
    · go_wp2_with fail
      refine (c3.out _).mono ?_
      rintro e w4 ⟨rfl, h4⟩
      obtain ⟨y1, y2, y3, _, _, _⟩ := blk3 ((h4.block (w3.heap.size + 1) (by simp)).trans ((Below.heap_alloc _ _ _ (by simp)).trans (heap_alloc_at _ _ _ (by simp))))
      obtain ⟨x1, x2, x3, _, _, _⟩ := blk3 ((h4.block (w3.heap.size + 2) (by simp)).trans (heap_alloc_at _ _ _ (by simp)))
      have e4 := Lib.hid (((((e3.out.alloc (by have := e3.out.size; omega) _).alloc (by have := e3.out.size; simp; omega) _).alloc (by have := e3.out.size; simp; omega) _)).trans (h4.mono (by have := e3.out.size; simp; omega)))
      clear h4 c3 e3 a1 a2 a3
      go_wp2_with fail
      refine (c4.out _).mono ?_
      rintro e w5 ⟨rfl, h5⟩
      have x1 := cell_later h5 x1; have x2 := cell_later h5 x2; have x3 := cell_later h5 x3
      have e5 := Lib.hid (e4.out.trans (h5.mono e4.out.size))
      clear h5 c4 e4 y1 y2 y3
      go_wp2_with fail
      refine (c5.out _).mono ?_
      rintro e w6 ⟨rfl, h6⟩
      have e6 := Lib.hid (e5.out.trans (h6.mono e5.out.size))
      clear h6 c5 e5 x1 x2 x3
      go_wp2_with fail
      go_ret
      exact ⟨rfl, e6.out⟩
end Go.Proofs.Ythdofjfjefcfpaa
