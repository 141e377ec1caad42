/- A state and two commands are drawn: spec.DrawStateSwap. -/
import Derived.Test.YtmekkjnegmeogaaDst
import Derived.Deep.RegionWith
namespace Go.Proofs.Ytmekkjnegmeogaa
open Go.RowKit
set_option linter.unusedVariables false

/-- What DrawStateSwap leaves. -/
def DswPost (w : World) (e : Ending) (w' : World) : Prop :=
  ∃ (b : Nat) (u : Value) (L : List Int) (k key v k' key' v' : Int), e = .returned (.tuple #[u, .agg #[.int .i64 k, .int .i64 key, .int .i64 v], .agg #[.int .i64 k', .int .i64 key', .int .i64 v']]) ∧ w.heap.size ≤ b ∧ Own w' b u L ∧ Below w.heap.size w w'

set_option maxRecDepth 100000 in
set_option maxHeartbeats 2000000 in
theorem dswap_any (a : Option Addr) (len cap : Nat) (w : World) (hc : CodeIn w a len cap) (hcap : cap ≤ maxLen) :
    Calls Try.prog 23 #[.slice a len cap] w (DswPost w) := by
  have hc := Lib.hid hc
  have hcap := Lib.hid hcap
  go_enter Try.func23, Try.ntmps23
  go_wp2_with fail
  refine (open_any a len cap _ (hc.out.up (((Below.refl _ _).alloc (Nat.le_refl _) _).alloc (by simp) _)) hcap.out).mono ?_
  rintro e w1 ⟨r, rfl, hr0', hr', hb'⟩
  have hr0 : w.heap.size + 2 ≤ r := by simpa using hr0'
  have A1 := Lib.hid ((hb'.block w.heap.size (by simp; omega)).trans ((Below.heap_alloc _ _ _ (by simp)).trans (heap_alloc_new w _)))
  have E1 := Lib.hid ((hb'.block (w.heap.size + 1) (by simp)).trans (heap_alloc_at _ _ _ (by simp)))
  have s1 : w.heap.size + 2 ≤ w1.heap.size := by simpa using hb'.size
  have D1 : Hid (Below w.heap.size w w1) := Lib.hid ((((Below.refl _ _).alloc (Nat.le_refl _) _).alloc (by simp) _).trans (hb'.mono (by simp; omega)))
  have hr1 := Lib.hid hr'
  clear hr0' hr' hb' hc hcap
  have hrl := hr1.out.lt
  go_wp2_with fail
  refine (st_any r 0 _ hr1.out (by omega)).mono ?_
  rintro e w2 ⟨b, u, L, rfl, hb, hO, hr2, hk2⟩
  have s2 := hk2.size
  have A2 := Lib.hid ((hk2.block w.heap.size (by omega) (by omega)).trans A1.out)
  have E2 := Lib.hid ((hk2.block (w.heap.size + 1) (by omega) (by omega)).trans E1.out)
  have D2 : Hid (Below w.heap.size w w2) := Lib.hid (D1.out.trans ((hk2.mono (by omega)).below (by omega)))
  have hO2 := Lib.hid hO
  have hr2 := Lib.hid hr2
  clear hk2 A1 E1 D1 hr1 hO
  go_wp2_with fail
  refine (cmd_any r 21 _ hr2.out (by omega)).mono ?_
  rintro e w3 ⟨k, key, v, rfl, _, _, _, hr3, hk3⟩
  have s3 := hk3.size
  have A3 := Lib.hid ((hk3.block w.heap.size (by omega) (by omega)).trans A2.out)
  have E3 := Lib.hid ((hk3.block (w.heap.size + 1) (by omega) (by omega)).trans E2.out)
  have D3 : Hid (Below w.heap.size w w3) := Lib.hid (D2.out.trans ((hk3.mono (by omega)).below (by omega)))
  have hO3 := Lib.hid (hO2.out.same (hk3.block b hO2.out.lt (by omega)))
  have hr3 := Lib.hid (hr3.alloc (.cells #[.int .i64 k, .int .i64 key, .int .i64 v] 25))
  clear hk3 A2 E2 D2 hr2 hO2
  have u1 : w.heap.size < w3.heap.size := by omega
  have u2 : w.heap.size + 1 < w3.heap.size := by omega
  have hbl := hO3.out.lt
  go_wp2_with fail
  go_region_with (first
    | (go_at_call 40; refine (cmd_any r 27 _ (hr3.out.drewN 1) (by omega)).mono ?_; rintro e w4 ⟨k', key', v', rfl, _, _, _, hr4, hk4⟩; have s4 : w3.heap.size + 1 ≤ w4.heap.size := (by simpa using hk4.size); have A4 := (hk4.block w.heap.size (by simp; omega) (by omega)).trans ((Below.heap_alloc w3 _ _ u1).trans A3.out); have E4 := (hk4.block (w.heap.size + 1) (by simp; omega) (by omega)).trans ((Below.heap_alloc w3 _ _ u2).trans E3.out); have C4 := (hk4.block w3.heap.size (by simp) (by omega)).trans (heap_alloc_new w3 _); obtain ⟨a1, a2, a3, f1, f2, f3⟩ := blk3 A4; obtain ⟨b1, b2, b3, g1, g2, g3⟩ := blk3 E4; obtain ⟨c1, c2, c3, h1, h2, h3⟩ := blk3 C4; have O4 := Lib.hid ((hO3.out.alloc (.cells #[.int .i64 k, .int .i64 key, .int .i64 v] 25)).same (hk4.block b (by simp; omega) (by omega))); have D4 : Hid (Below w.heap.size w w4) := Lib.hid (((D3.out.alloc (by omega) (.cells #[.int .i64 k, .int .i64 key, .int .i64 v] 25)).drew).trans ((hk4.mono (by simp; omega)).below (by omega)))))
  all_goals
    go_wp2_with fail
    exact bodyPost_ret (v := .tuple #[u, .agg #[.int .i64 k, .int .i64 key, .int .i64 v], .agg #[.int .i64 k', .int .i64 key', .int .i64 v']]) (by simp [results, Try.results23, go_sem, a1, a2, a3, b1, b2, b3]) rfl ⟨b, u, L, k, key, v, k', key', v', rfl, by omega, by have X := O4.out; clear O4; repeat (first | with_reducible exact X | with_reducible refine Own.setOther ?_ (by simp; omega) _), by have X := D4.out; clear D4; repeat (first | with_reducible exact X | with_reducible refine Below.drew ?_ | with_reducible refine Below.setCell ?_ (by first | (simp; done) | (simp; omega)) _ | with_reducible refine Below.alloc ?_ (by simp; omega) _)⟩
end Go.Proofs.Ytmekkjnegmeogaa
