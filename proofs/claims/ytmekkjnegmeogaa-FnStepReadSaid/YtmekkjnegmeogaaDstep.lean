/- A state and a command are drawn: spec.DrawStateStep. -/
import Derived.Test.YtmekkjnegmeogaaDst
namespace Go.Proofs.Ytmekkjnegmeogaa
open Go.RowKit
set_option linter.unusedVariables false

/-- What DrawStateStep leaves. -/
def DsPost (w : World) (e : Ending) (w' : World) : Prop :=
  ∃ (b : Nat) (u : Value) (L : List Int) (k key v : Int), e = .returned (.tuple #[u, .agg #[.int .i64 k, .int .i64 key, .int .i64 v]]) ∧ w.heap.size ≤ b ∧ Own w' b u L ∧ Below w.heap.size w w'

set_option maxHeartbeats 2000000 in
theorem dstep_any (a : Option Addr) (len cap : Nat) (w : World) (hc : CodeIn w a len cap) (hcap : cap ≤ maxLen) :
    Calls Try.prog 15 #[.slice a len cap] w (DsPost w) := by
  have hc := Lib.hid hc
  have hcap := Lib.hid hcap
  go_enter Try.func15, Try.ntmps15
  go_wp2_with fail
  refine (open_any a len cap _ (hc.out.up ((Below.refl _ _).alloc (Nat.le_refl _) _)) hcap.out).mono ?_
  rintro e w1 ⟨r, rfl, hr0', hr', hb'⟩
  have hr0 : w.heap.size + 1 ≤ r := by simpa using hr0'
  have A1 := Lib.hid ((hb'.block w.heap.size (by simp)).trans (heap_alloc_new w _))
  have s1 : w.heap.size + 1 ≤ w1.heap.size := by simpa using hb'.size
  have D1 : Hid (Below w.heap.size w w1) := Lib.hid (((Below.refl _ _).alloc (Nat.le_refl _) _).trans (hb'.mono (by simp)))
  have hr1 := Lib.hid hr'
  clear hr0' hr' hb' hc hcap
  have hrl := hr1.out.lt
  go_wp2_with fail
  refine (st_any r 0 _ hr1.out (by omega)).mono ?_
  rintro e w2 ⟨b, u, L, rfl, hb, hO, hr2, hk2⟩
  have s2 := hk2.size
  have A2 := Lib.hid ((hk2.block w.heap.size (by omega) (by omega)).trans A1.out)
  have D2 : Hid (Below w.heap.size w w2) := Lib.hid (D1.out.trans ((hk2.mono (by omega)).below (by omega)))
  have hO2 := Lib.hid hO
  have hr2 := Lib.hid hr2
  clear hk2 A1 D1 hr1 hO
  go_wp2_with fail
  refine (cmd_any r 21 _ hr2.out (by omega)).mono ?_
  rintro e w3 ⟨k, key, v, rfl, _, _, _, hr3, hk3⟩
  have s3 := hk3.size
  have A3 := (hk3.block w.heap.size (by omega) (by omega)).trans A2.out
  obtain ⟨a1, a2, a3, f1, f2, f3⟩ := blk3 A3
  have D3 : Hid (Below w.heap.size w w3) := Lib.hid (D2.out.trans ((hk3.mono (by omega)).below (by omega)))
  have hO3 := Lib.hid (hO2.out.same (hk3.block b hO2.out.lt (by omega)))
  clear hk3 A2 D2 hr2 hO2 A3 hr3
  go_wp2_with fail
  exact bodyPost_ret (v := .tuple #[u, .agg #[.int .i64 k, .int .i64 key, .int .i64 v]]) (by simp [results, Try.results15, go_sem, a1, a2, a3]) rfl ⟨b, u, L, k, key, v, rfl, by omega, ((hO3.out.setOther (by simp; omega) _).setOther (by simp; omega) _).setOther (by simp; omega) _, by have X := D3.out; clear D3; repeat (first | with_reducible exact X | with_reducible refine Below.drew ?_ | with_reducible refine Below.setCell ?_ (by first | (simp; done) | (simp; omega)) _ | with_reducible refine Below.alloc ?_ (by simp; omega) _)⟩
end Go.Proofs.Ytmekkjnegmeogaa
