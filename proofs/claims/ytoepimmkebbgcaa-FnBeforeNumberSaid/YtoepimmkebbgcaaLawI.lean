/- The walks of the laws on one id and two (FnIdPart, FnBefore, FnBeforeNumber). -/
import Derived.Test.YtoepimmkebbgcaaIdw
import Derived.Test.YtoepimmkebbgcaaDidv
namespace Go.Proofs.Ytoepimmkebbgcaa
open Go.RowKit
set_option linter.unusedVariables false

theorem idB_zero (k : Int) : idB k 0 = false := idB_f (by omega)
theorem idB_five (v : Int) : idB 5 v = false := idB_f (by omega)

/-- One box of an id, behind callees that only make memory. -/
structure One (w : World) (r n : Int) (w' : World) : Prop where
  a : w'.heap[w.heap.size]? = some (.cells #[.int .i64 r, .int .i64 n] 24 (0, 0))
  z : w.heap.size + 1 ≤ w'.heap.size
  d : Below w.heap.size w w'
theorem One.start (w : World) (r n : Int) : One w r n (w.alloc (.cells #[.int .i64 r, .int .i64 n] 24)) :=
  ⟨heap_alloc_new w _, by simp, (Below.refl _ _).alloc (Nat.le_refl _) _⟩
theorem One.up {w w1 w2 : World} {r n : Int} (h : One w r n w1) (hb : Below w1.heap.size w1 w2) : One w r n w2 :=
  ⟨(hb.block _ (by have := h.z; omega)).trans h.a, Nat.le_trans h.z hb.size, h.d.trans (hb.mono (by have := h.z; omega))⟩

set_option maxHeartbeats 2000000 in
theorem fnIdPart_walk (a : Option Addr) (len cap : Nat) (w : World) (hc : CodeIn w a len cap) (hcap : cap ≤ maxLen) :
    Calls Try.prog 7 #[.slice a len cap] w fun e w' => e = .returned (.bool true) ∧ Below w.heap.size w w' := by
  have hm : cap ≤ 9223372036854775807 := by simpa [maxLen] using hcap
  have hlc := hc.1
  by_cases hl : 1048576 < len
  · clear hcap hc
    go_enter Try.func7, Try.ntmps7
    go_wp2_with fail
    go_ret
    exact ⟨rfl, Below.refl _ _⟩
  · have hc1 := Lib.hid hc
    have hcap1 := Lib.hid hcap
    clear hc hcap
    go_enter Try.func7, Try.ntmps7
    go_wp2_with fail
    refine (didv_any a len cap w hc1.out hcap1.out).mono ?_
    rintro e w1 ⟨k, v, rfl, D1'⟩
    have D1 := Lib.hid D1'
    clear hc1 hcap1 D1'
    have s1 := iidv_any k v
    have s2 := svid_any k v
    have s3 := iidv_any k 0
    have s4 := iidv_any 5 v
    rw [idB_zero] at s3
    rw [idB_five] at s4
    generalize idB k v = q at s1 s2
    have T1 := Lib.hid (One.start w1 k v)
    go_wp2_with fail
    refine (s1 _).mono ?_
    rintro e w2 ⟨rfl, hb⟩
    have T2 := T1.out.up hb
    obtain ⟨a0, a1, _, _⟩ := blk2 T2.a
    have z2 := T2.z
    have T2 := Lib.hid T2
    clear hb T1
    go_wp2_with fail
    refine (s2 _).mono ?_
    rintro e w3 ⟨rfl, hb⟩
    have T3 := T2.out.up hb
    clear hb T2 a0 a1 z2
    obtain ⟨a0, a1, _, _⟩ := blk2 T3.a
    have z3 := T3.z
    have T3 := Lib.hid T3
    cases q
    · go_wp2_with fail
      go_ret
      exact ⟨rfl, D1.out.trans (T3.out.d.mono D1.out.size)⟩
    · go_wp2_with fail
      refine (s3 _).mono ?_
      rintro e w4 ⟨rfl, hb⟩
      have T4 := T3.out.up hb
      clear hb T3 a0 a1 z3
      obtain ⟨a0, a1, _, _⟩ := blk2 T4.a
      have z4 := T4.z
      have T4 := Lib.hid T4
      go_wp2_with fail
      refine (s4 _).mono ?_
      rintro e w5 ⟨rfl, hb⟩
      have T5 := Lib.hid (T4.out.up hb)
      clear hb T4
      go_wp2_with fail
      go_ret
      exact ⟨rfl, D1.out.trans (T5.out.d.mono D1.out.size)⟩

theorem befB_of {r n r' n' : Int} (h : befB r n r' n' = true) : r < r' ∨ r = r' ∧ n < n' := by
  unfold befB ltB at h; simp at h; exact h.2

set_option maxHeartbeats 2000000 in
theorem fnBeforeNumber_walk (a : Option Addr) (len cap : Nat) (w : World) (hc : CodeIn w a len cap) (hcap : cap ≤ maxLen) :
    Calls Try.prog 4 #[.slice a len cap] w fun e w' => e = .returned (.bool true) ∧ Below w.heap.size w w' := by
  have hm : cap ≤ 9223372036854775807 := by simpa [maxLen] using hcap
  have hlc := hc.1
  by_cases hl : 1048576 < len
  · clear hcap hc
    go_enter Try.func4, Try.ntmps4
    go_wp2_with fail
    go_ret
    exact ⟨rfl, Below.refl _ _⟩
  · have hc1 := Lib.hid hc
    have hcap1 := Lib.hid hcap
    clear hc hcap
    go_enter Try.func4, Try.ntmps4
    go_wp2_with fail
    refine (dtwo_any a len cap w hc1.out hcap1.out).mono ?_
    rintro e w1 ⟨k, v, k', v', rfl, D1'⟩
    have D1 := Lib.hid D1'
    clear hc1 hcap1 D1'
    have s1 := ibef_any k v k' v'
    have s2 := sbef_any k v k' v'
    obtain ⟨q, hq⟩ : ∃ q, Hid (befB k v k' v' = q) := ⟨_, Lib.hid rfl⟩
    rw [hq.out] at s1 s2
    have T1 := Lib.hid (Two.start w1 k v k' v')
    go_wp2_with fail
    refine (s1 _).mono ?_
    rintro e w2 ⟨rfl, hb⟩
    have T2 := T1.out.up hb
    obtain ⟨a0, a1, _, _⟩ := blk2 T2.a
    obtain ⟨b0, b1, _, _⟩ := blk2 T2.b
    have z2 := T2.z
    have T2 := Lib.hid T2
    clear hb T1
    go_wp2_with fail
    refine (s2 _).mono ?_
    rintro e w3 ⟨rfl, hb⟩
    have T3 := T2.out.up hb
    clear hb T2 a0 a1 b0 b1 z2
    obtain ⟨a0, a1, _, _⟩ := blk2 T3.a
    obtain ⟨b0, b1, _, _⟩ := blk2 T3.b
    have z3 := T3.z
    have T3 := Lib.hid T3
    cases q
    · go_wp2_with fail
      go_ret
      exact ⟨rfl, D1.out.trans (T3.out.d.mono D1.out.size)⟩
    · rcases befB_of hq.out with h | ⟨rfl, h⟩
      · go_wp2_with fail
        go_ret
        exact ⟨rfl, D1.out.trans (T3.out.d.mono D1.out.size)⟩
      · go_wp2_with fail
        go_ret
        exact ⟨by simp, D1.out.trans (T3.out.d.mono D1.out.size)⟩
end Go.Proofs.Ytoepimmkebbgcaa
