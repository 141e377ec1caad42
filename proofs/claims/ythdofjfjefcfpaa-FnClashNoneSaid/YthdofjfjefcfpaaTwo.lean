/- Two commands are drawn. -/
import Derived.Test.YthdofjfjefcfpaaDraw
namespace Go.Proofs.Ythdofjfjefcfpaa
open Go.RowKit
set_option linter.unusedVariables false

/-- What DrawCommandsClash leaves: two commands. -/
def TwoPost (w : World) (e : Ending) (w' : World) : Prop :=
  ∃ k key v k' key' v' : Int, e = .returned (.tuple #[.agg #[.int .i64 k, .int .i64 key, .int .i64 v], .agg #[.int .i64 k', .int .i64 key', .int .i64 v']]) ∧ Below w.heap.size w w'

set_option maxHeartbeats 2000000 in
theorem two_any (a : Option Addr) (len cap : Nat) (w : World) (hc : CodeIn w a len cap) (hcap : cap ≤ maxLen) :
    Calls Try.prog 10 #[.slice a len cap] w (TwoPost w) := by
  have hc := Lib.hid hc
  have hcap := Lib.hid hcap
  go_enter Try.func10, Try.ntmps10
  go_wp2_with fail
  refine (open_any a len cap _ (hc.out.up (((Below.refl _ _).alloc (Nat.le_refl _) _).alloc (by simp) _)) hcap.out).mono ?_
  rintro e w1 ⟨r, rfl, hr0', hr', hb'⟩
  have hr0 : w.heap.size + 2 ≤ r := by simpa using hr0'
  have A1 := (hb'.block w.heap.size (by simp; omega)).trans ((Below.heap_alloc _ _ _ (by simp)).trans (heap_alloc_new w _))
  have B1 := (hb'.block (w.heap.size + 1) (by simp)).trans (heap_alloc_at _ _ _ (by simp))
  have s1 : w.heap.size + 2 ≤ w1.heap.size := by simpa using hb'.size
  have D1 : Hid (Below w.heap.size w w1) := Lib.hid ((((Below.refl _ _).alloc (Nat.le_refl _) _).alloc (by simp) _).trans (hb'.mono (by simp; omega)))
  have hr1 := Lib.hid hr'
  clear hr0' hr' hb' hc hcap
  have A1 := Lib.hid A1
  have B1 := Lib.hid B1
  have hrl := hr1.out.lt
  go_wp2_with fail
  refine (cmd_any r 0 _ hr1.out (by omega)).mono ?_
  rintro e w2 ⟨k1, k2, k3, rfl, _, _, _, hr2, hk2⟩
  have s2 := hk2.size
  have A2 := (hk2.block w.heap.size (by omega) (by omega)).trans A1.out
  have B2 := (hk2.block (w.heap.size + 1) (by omega) (by omega)).trans B1.out
  have D2 : Hid (Below w.heap.size w w2) := Lib.hid (D1.out.trans ((hk2.mono (by omega)).below (by omega)))
  have A2 := Lib.hid A2
  have B2 := Lib.hid B2
  have hr2 := Lib.hid hr2
  clear hk2 A1 B1 D1 hr1
  go_wp2_with fail
  refine (cmd_any r 6 _ (hr2.out.alloc _) (by omega)).mono ?_
  rintro e w3 ⟨m1, m2, m3, rfl, _, _, _, hr3, hk3⟩
  have s3 : w2.heap.size + 1 ≤ w3.heap.size := by simpa using hk3.size
  have A3 := (hk3.block w.heap.size (by simp; omega) (by omega)).trans ((Below.heap_alloc w2 _ _ (by omega)).trans A2.out)
  have B3 := (hk3.block (w.heap.size + 1) (by simp; omega) (by omega)).trans ((Below.heap_alloc w2 _ _ (by omega)).trans B2.out)
  have C3 := (hk3.block w2.heap.size (by simp) (by omega)).trans (heap_alloc_new w2 _)
  have D3 : Hid (Below w.heap.size w w3) := Lib.hid ((D2.out.alloc (by omega) _).trans ((hk3.mono (by simp; omega)).below (by omega)))
  obtain ⟨a30, a31, a32, f30, f31, f32⟩ := blk3 A3
  obtain ⟨b30, b31, b32, h30, h31, h32⟩ := blk3 B3
  obtain ⟨c30, c31, c32, g30, g31, g32⟩ := blk3 C3
  have A3 := Lib.hid A3
  have B3 := Lib.hid B3
  have C3 := Lib.hid C3
  have hr3 := Lib.hid hr3
  clear hk3 A2 B2 D2 hr2
  have u1 : w2.heap.size < w3.heap.size := by omega
  have u2 : w.heap.size < w3.heap.size := by omega
  have u3 : w.heap.size + 1 < w3.heap.size := by omega
  have D4 : Hid (Below w.heap.size w (w3.alloc (.cells #[.int .i64 m1, .int .i64 m2, .int .i64 m3] 24))) := Lib.hid (D3.out.alloc (by omega) _)
  by_cases z1 : k1 = 3
  · subst z1
    go_wp2_with fail
    go_region
    all_goals
      go_wp2_with fail
      exact bodyPost_ret (v := .tuple #[.agg #[.int .i64 3, .int .i64 k2, .int .i64 k3], .agg #[.int .i64 m1, .int .i64 m2, .int .i64 m3]]) (by simp [results, Try.results10, go_sem, a30, a31, a32, b30, b31, b32, u2, u3]) rfl ⟨3, k2, k3, m1, m2, m3, rfl, by have X := D3.out; clear D3; repeat (first | with_reducible exact X | with_reducible refine Below.drew ?_ | with_reducible refine Below.setCell ?_ (by first | (simp; done) | (simp; omega)) _ | with_reducible refine Below.alloc ?_ (by simp; omega) _)⟩
  · have z1' : (k1 != 3) = true := by simpa using z1
    clear z1
    by_cases z2 : m1 = 3
    · subst z2
      go_wp2_with fail
      go_region
      all_goals
        go_wp2_with fail
        exact bodyPost_ret (v := .tuple #[.agg #[.int .i64 k1, .int .i64 k2, .int .i64 k3], .agg #[.int .i64 3, .int .i64 m2, .int .i64 m3]]) (by simp [results, Try.results10, go_sem, a30, a31, a32, b30, b31, b32, u2, u3]) rfl ⟨k1, k2, k3, 3, m2, m3, rfl, by have X := D3.out; clear D3; repeat (first | with_reducible exact X | with_reducible refine Below.drew ?_ | with_reducible refine Below.setCell ?_ (by first | (simp; done) | (simp; omega)) _ | with_reducible refine Below.alloc ?_ (by simp; omega) _)⟩
    · have z2' : (m1 != 3) = true := by simpa using z2
      clear z2
      go_wp2_with fail
      refine (pick_any 4 r 12 _ (hr3.out.alloc _) (by omega)).mono ?_
      rintro e w5 ⟨x, rfl, y0, y1', hr5, hk5⟩
      have y1 := y1' (by omega)
      have s5 : w3.heap.size + 1 ≤ w5.heap.size := by simpa using hk5.size
      have A5 := (hk5.block w.heap.size (by simp; omega) (by omega)).trans ((Below.heap_alloc w3 _ _ (by omega)).trans A3.out)
      have B5 := (hk5.block (w.heap.size + 1) (by simp; omega) (by omega)).trans ((Below.heap_alloc w3 _ _ (by omega)).trans B3.out)
      have C5 := (hk5.block w2.heap.size (by simp; omega) (by omega)).trans ((Below.heap_alloc w3 _ _ (by omega)).trans C3.out)
      have E5 := (hk5.block w3.heap.size (by simp) (by omega)).trans (heap_alloc_new w3 _)
      have D5 : Hid (Below w.heap.size w w5) := Lib.hid (D4.out.trans ((hk5.mono (by simp; omega)).below (by omega)))
      obtain ⟨a50, a51, a52, f50, f51, f52⟩ := blk3 A5
      obtain ⟨b50, b51, b52, h50, h51, h52⟩ := blk3 B5
      obtain ⟨c50, c51, c52, g50, g51, g52⟩ := blk3 C5
      obtain ⟨d50, d51, d52, i50, i51, i52⟩ := blk3 E5
      clear hr5 hk5 A5 B5 C5 E5 y1' a30 a31 a32 f30 f31 f32 b30 b31 b32 h30 h31 h32 c30 c31 c32 g30 g31 g32
      by_cases z3 : 0 < x
      · go_wp2_with fail
        go_region
        all_goals
          go_wp2_with fail
          exact bodyPost_ret (v := .tuple #[.agg #[.int .i64 k1, .int .i64 k2, .int .i64 k3], .agg #[.int .i64 m1, .int .i64 k2, .int .i64 m3]]) (by simp [results, Try.results10, go_sem, a50, a51, a52, b50, b51, b52]) rfl ⟨k1, k2, k3, m1, k2, m3, rfl, by have X := D5.out; clear D5; repeat (first | with_reducible exact X | with_reducible refine Below.drew ?_ | with_reducible refine Below.setCell ?_ (by first | (simp; done) | (simp; omega)) _ | with_reducible refine Below.alloc ?_ (by simp; omega) _)⟩
      · go_wp2_with fail
        go_region
        all_goals
          go_wp2_with fail
          exact bodyPost_ret (v := .tuple #[.agg #[.int .i64 k1, .int .i64 k2, .int .i64 k3], .agg #[.int .i64 m1, .int .i64 m2, .int .i64 m3]]) (by simp [results, Try.results10, go_sem, a50, a51, a52, b50, b51, b52]) rfl ⟨k1, k2, k3, m1, m2, m3, rfl, by have X := D5.out; clear D5; repeat (first | with_reducible exact X | with_reducible refine Below.drew ?_ | with_reducible refine Below.setCell ?_ (by first | (simp; done) | (simp; omega)) _ | with_reducible refine Below.alloc ?_ (by simp; omega) _)⟩
end Go.Proofs.Ythdofjfjefcfpaa
