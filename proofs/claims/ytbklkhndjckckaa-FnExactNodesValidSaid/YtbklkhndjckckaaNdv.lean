/- The program's valid of a node. -/
import Derived.Test.YtbklkhndjckckaaNdm
import Derived.Test.YtbklkhndjckckaaIndx
import Derived.Test.YtbklkhndjckckaaDval
namespace Go.Proofs.Ytbklkhndjckckaa
open Go.RowKit
set_option linter.unusedVariables false

def ndB4 (r n s : Int) (v h : Bool) : Bool := idB r n && (decide (1 ≤ s ∧ s ≤ 99) && (v && !h))

set_option maxRecDepth 100000 in
set_option maxHeartbeats 2000000 in
theorem ndv_any (x : Nd) (u : Value) (w : World) (h : Ids w u x.deps) :
    Calls Try.prog 47 #[ndv x u] w fun e w' => e = .returned (.bool (ndB x)) ∧ Below w.heap.size w w' := by
  obtain ⟨⟨p, r⟩, s, L⟩ := x
  unfold ndv
  dsimp only at h ⊢
  have sv := ivid_any p r
  have sd := fun W (H : Ids W u L) => ival_any u L W H
  have sc := fun W (H : Ids W u L) => cont_any u L p r W H
  obtain ⟨c, hc⟩ : ∃ c, Hid (ndB ⟨(p, r), s, L⟩ = c) := ⟨_, Lib.hid rfl⟩
  rw [hc.out]
  have hc := Lib.hid (show ndB4 p r s (srtB L) (hasP L (p, r)) = c from hc.out)
  obtain ⟨q1, h1⟩ : ∃ q, idB p r = q := ⟨_, rfl⟩
  obtain ⟨q2, h2⟩ : ∃ q, srtB L = q := ⟨_, rfl⟩
  obtain ⟨q3, h3⟩ : ∃ q, hasP L (p, r) = q := ⟨_, rfl⟩
  have hc := hc.out
  unfold ndB4 at hc
  rw [h1] at sv hc
  rw [h2] at hc
  rw [h3] at hc
  rw [h2] at sd
  rw [h3] at sc
  clear h1 h2 h3
  have hI := Lib.hid (h.up ((Below.refl _ _).alloc (Nat.le_refl _) (.cells #[.int .i64 p, .int .i64 r, .int .i64 s, u] 33)) (Nat.le_refl _))
  have hD := Lib.hid ((Below.refl w.heap.size w).alloc (Nat.le_refl _) (.cells #[.int .i64 p, .int .i64 r, .int .i64 s, u] 33))
  obtain ⟨a0, a1, a2, a3⟩ := four_cells (heap_alloc_new w (.cells #[.int .i64 p, .int .i64 r, .int .i64 s, u] 33))
  clear h
  cases q1
  · obtain rfl : false = c := by simpa using hc
    clear hc sd sc hI
    go_enter Try.func47, Try.ntmps47
    go_wp2_with fail
    refine (sv _).mono ?_
    rintro e w1 ⟨rfl, B⟩
    have a0 := cell_later B a0
    have a1 := cell_later B a1
    have a2 := cell_later B a2
    have a3 := cell_later B a3
    have hD := Lib.hid (hD.out.trans (B.mono hD.out.size))
    clear B
    go_wp2_with fail
    go_ret
    exact ⟨rfl, hD.out⟩
  · by_cases hs1 : 1 ≤ s
    · by_cases hs2 : s ≤ 99
      · cases q2
        · obtain rfl : false = c := by simpa using hc
          clear hc sc
          go_enter Try.func47, Try.ntmps47
          go_wp2_with fail
          refine (sv _).mono ?_
          rintro e w1 ⟨rfl, B⟩
          have a0 := cell_later B a0
          have a1 := cell_later B a1
          have a2 := cell_later B a2
          have a3 := cell_later B a3
          have hI := Lib.hid (hI.out.up B (Nat.le_refl _))
          have hD := Lib.hid (hD.out.trans (B.mono hD.out.size))
          go_wp2_with fail
          refine (sd _ hI.out).mono ?_
          rintro e w2 ⟨rfl, B2⟩
          have a0 := cell_later B2 a0
          have a1 := cell_later B2 a1
          have a2 := cell_later B2 a2
          have a3 := cell_later B2 a3
          have hD := Lib.hid (hD.out.trans (B2.mono hD.out.size))
          clear B B2 hI sd sv
          go_wp2_with fail
          go_ret
          exact ⟨rfl, hD.out⟩
        · obtain rfl : (!q3) = c := by simpa [hs1, hs2] using hc
          clear hc
          go_enter Try.func47, Try.ntmps47
          go_wp2_with fail
          refine (sv _).mono ?_
          rintro e w1 ⟨rfl, B⟩
          have a0 := cell_later B a0
          have a1 := cell_later B a1
          have a2 := cell_later B a2
          have a3 := cell_later B a3
          have hI := Lib.hid (hI.out.up B (Nat.le_refl _))
          have hD := Lib.hid (hD.out.trans (B.mono hD.out.size))
          go_wp2_with fail
          refine (sd _ hI.out).mono ?_
          rintro e w2 ⟨rfl, B2⟩
          have a0 := cell_later B2 a0
          have a1 := cell_later B2 a1
          have a2 := cell_later B2 a2
          have a3 := cell_later B2 a3
          have hI := Lib.hid (hI.out.up B2 (Nat.le_refl _))
          have hD := Lib.hid (hD.out.trans (B2.mono hD.out.size))
          go_wp2_with fail
          refine (sc _ hI.out).mono ?_
          rintro e w3 ⟨rfl, B3⟩
          have a0 := cell_later B3 a0
          have a1 := cell_later B3 a1
          have a2 := cell_later B3 a2
          have a3 := cell_later B3 a3
          have hD := Lib.hid (hD.out.trans (B3.mono hD.out.size))
          clear B B2 B3 hI sd sv sc
          go_wp2_with fail
          go_ret
          exact ⟨rfl, hD.out⟩
      · obtain rfl : false = c := by simpa [hs2] using hc
        clear hc sd sc hI
        go_enter Try.func47, Try.ntmps47
        go_wp2_with fail
        refine (sv _).mono ?_
        rintro e w1 ⟨rfl, B⟩
        have a0 := cell_later B a0
        have a1 := cell_later B a1
        have a2 := cell_later B a2
        have a3 := cell_later B a3
        have hD := Lib.hid (hD.out.trans (B.mono hD.out.size))
        go_wp2_with fail
        go_ret
        exact ⟨rfl, hD.out⟩
    · obtain rfl : false = c := by simpa [hs1] using hc
      clear hc sd sc hI
      go_enter Try.func47, Try.ntmps47
      go_wp2_with fail
      refine (sv _).mono ?_
      rintro e w1 ⟨rfl, B⟩
      have a0 := cell_later B a0
      have a1 := cell_later B a1
      have a2 := cell_later B a2
      have a3 := cell_later B a3
      have hD := Lib.hid (hD.out.trans (B.mono hD.out.size))
      go_wp2_with fail
      go_ret
      exact ⟨rfl, hD.out⟩
end Go.Proofs.Ytbklkhndjckckaa
