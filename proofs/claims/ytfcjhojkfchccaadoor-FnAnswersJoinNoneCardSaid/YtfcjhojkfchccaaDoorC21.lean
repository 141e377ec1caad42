/- Texts laid together. -/
import Derived.Test.YtfcjhojkfchccaaDoorC01
import Derived.IntWalk
import Derived.Laws.Bits64b
import Derived.Laws.Bits128
import Derived.Shelf.Spec.TrailingZeros
/- The sizes of majorities and of fast sets, of the program and of the model. -/
namespace Go.Proofs.YtfcjhojkfchccaaDoor
open Go.RowKit
set_option linter.unusedVariables false

def slowR (n : Int) : Int := if 1 ≤ n ∧ n ≤ 5 then n / 2 + 1 else -1
def fastR (n : Int) : Int := if 1 ≤ n ∧ n ≤ 5 then (3 * n + 3) / 4 else -1
def meetR (n a : Int) : Int := if (1 ≤ n ∧ n ≤ 5) ∧ 0 ≤ a ∧ a ≤ n then max 0 (fastR n + a - n) else -1
theorem five_of {n : Int} (h : 1 ≤ n ∧ n ≤ 5) : n = 1 ∨ n = 2 ∨ n = 3 ∨ n = 4 ∨ n = 5 := by omega
theorem slow_bad {n : Int} (h : ¬ (1 ≤ n ∧ n ≤ 5)) : slowR n = -1 := if_neg h
theorem fast_bad {n : Int} (h : ¬ (1 ≤ n ∧ n ≤ 5)) : fastR n = -1 := if_neg h
theorem meet_bad {n a : Int} (h : ¬ ((1 ≤ n ∧ n ≤ 5) ∧ 0 ≤ a ∧ a ≤ n)) : meetR n a = -1 := if_neg h
theorem fast_ok {n : Int} (h : 1 ≤ n ∧ n ≤ 5) : 1 ≤ fastR n ∧ fastR n ≤ n := by
  rcases five_of h with rfl | rfl | rfl | rfl | rfl <;> decide

set_option maxRecDepth 100000 in
set_option maxHeartbeats 2000000 in
theorem ivr_any (n : Int) (w : World) :
    Calls Tryd.prog 42 #[.int .i64 n] w fun e w' => e = .returned (.bool (decide (1 ≤ n ∧ n ≤ 5))) ∧ w = w' := by
  by_cases h1 : 1 ≤ n
  · by_cases h2 : n ≤ 5
    · go_enter Tryd.func42, Tryd.ntmps42
      go_wp2_with fail
      go_ret
      simp [h1, h2]
    · go_enter Tryd.func42, Tryd.ntmps42
      go_wp2_with fail
      go_ret
      simp [h2]
  · go_enter Tryd.func42, Tryd.ntmps42
    go_wp2_with fail
    go_ret
    simp
    omega

set_option maxRecDepth 100000 in
set_option maxHeartbeats 2000000 in
theorem islow_any (n : Int) (w : World) :
    Calls Tryd.prog 46 #[.int .i64 n] w fun e w' => e = .returned (.int .i64 (slowR n)) ∧ w = w' := by
  have vr := ivr_any n w
  by_cases h : 1 ≤ n ∧ n ≤ 5
  · rw [decide_eq_true h] at vr
    rcases five_of h with rfl | rfl | rfl | rfl | rfl <;>
    · go_enter Tryd.func46, Tryd.ntmps46
      go_wp2_with fail
      refine vr.mono ?_
      rintro e w' ⟨rfl, rfl⟩
      clear vr
      go_wp2_with fail
      go_ret
      exact ⟨rfl, rfl⟩
  · rw [decide_eq_false h] at vr
    rw [slow_bad h]
    go_enter Tryd.func46, Tryd.ntmps46
    go_wp2_with fail
    refine vr.mono ?_
    rintro e w' ⟨rfl, rfl⟩
    clear vr
    go_wp2_with fail
    go_ret
    exact ⟨rfl, rfl⟩

set_option maxRecDepth 100000 in
set_option maxHeartbeats 2000000 in
theorem ifast_any (n : Int) (w : World) :
    Calls Tryd.prog 19 #[.int .i64 n] w fun e w' => e = .returned (.int .i64 (fastR n)) ∧ w = w' := by
  have vr := ivr_any n w
  by_cases h : 1 ≤ n ∧ n ≤ 5
  · rw [decide_eq_true h] at vr
    rcases five_of h with rfl | rfl | rfl | rfl | rfl <;>
    · go_enter Tryd.func19, Tryd.ntmps19
      go_wp2_with fail
      refine vr.mono ?_
      rintro e w' ⟨rfl, rfl⟩
      clear vr
      go_wp2_with fail
      go_ret
      exact ⟨rfl, rfl⟩
  · rw [decide_eq_false h] at vr
    rw [fast_bad h]
    go_enter Tryd.func19, Tryd.ntmps19
    go_wp2_with fail
    refine vr.mono ?_
    rintro e w' ⟨rfl, rfl⟩
    clear vr
    go_wp2_with fail
    go_ret
    exact ⟨rfl, rfl⟩

theorem inB_five (n : Int) : inB n 1 5 = decide (1 ≤ n ∧ n ≤ 5) := by unfold inB; first | rfl | simp
set_option maxRecDepth 100000 in
set_option maxHeartbeats 2000000 in
theorem sslow_any (n : Int) (w : World) :
    Calls Tryd.prog 50 #[.int .i64 n] w fun e w' => e = .returned (.int .i64 (slowR n)) ∧ w = w' := by
  have vr := in_any n 1 5 w
  rw [inB_five] at vr
  by_cases h : 1 ≤ n ∧ n ≤ 5
  · rw [decide_eq_true h] at vr
    rcases five_of h with rfl | rfl | rfl | rfl | rfl <;>
    · go_enter Tryd.func50, Tryd.ntmps50
      go_wp2_with fail
      refine vr.mono ?_
      rintro e w' ⟨rfl, rfl⟩
      clear vr
      go_wp2_with fail
      go_ret
      exact ⟨rfl, rfl⟩
  · rw [decide_eq_false h] at vr
    rw [slow_bad h]
    go_enter Tryd.func50, Tryd.ntmps50
    go_wp2_with fail
    refine vr.mono ?_
    rintro e w' ⟨rfl, rfl⟩
    clear vr
    go_wp2_with fail
    go_ret
    exact ⟨rfl, rfl⟩

set_option maxRecDepth 100000 in
set_option maxHeartbeats 2000000 in
theorem sfast_any (n : Int) (w : World) :
    Calls Tryd.prog 49 #[.int .i64 n] w fun e w' => e = .returned (.int .i64 (fastR n)) ∧ w = w' := by
  have vr := in_any n 1 5 w
  rw [inB_five] at vr
  by_cases h : 1 ≤ n ∧ n ≤ 5
  · rw [decide_eq_true h] at vr
    rcases five_of h with rfl | rfl | rfl | rfl | rfl <;>
    · go_enter Tryd.func49, Tryd.ntmps49
      go_wp2_with fail
      refine vr.mono ?_
      rintro e w' ⟨rfl, rfl⟩
      clear vr
      go_wp2_with fail
      go_ret
      exact ⟨rfl, rfl⟩
  · rw [decide_eq_false h] at vr
    rw [fast_bad h]
    go_enter Tryd.func49, Tryd.ntmps49
    go_wp2_with fail
    refine vr.mono ?_
    rintro e w' ⟨rfl, rfl⟩
    clear vr
    go_wp2_with fail
    go_ret
    exact ⟨rfl, rfl⟩
end Go.Proofs.YtfcjhojkfchccaaDoor

/- math/bits.OnesCount64. -/
namespace Go.Proofs.YtfcjhojkfchccaaDoor
open Go.RowKit
set_option linter.unusedVariables false

theorem wrapN (n : Nat) (h : n < 18446744073709551616) : IntKind.u64.wrap (n : Int) = (n : Int) := by rw [IntKind.wrap_u64]; omega

set_option maxRecDepth 100000 in
set_option maxHeartbeats 1000000 in
theorem ones_any (x : Nat) (w : World) (hx : x < 18446744073709551616) :
    Calls Tryd.prog 89 #[.int .u64 x] w fun e w' => e = .returned (.int .i64 (pc 64 x)) ∧ w = w' := by
  obtain ⟨A1, hA1⟩ : ∃ n, n = x / 2 &&& 6148914691236517205 := ⟨_, rfl⟩
  obtain ⟨A2, hA2⟩ : ∃ n, n = x &&& 6148914691236517205 := ⟨_, rfl⟩
  obtain ⟨a, ha⟩ : ∃ n, n = A1 + A2 := ⟨_, rfl⟩
  obtain ⟨B1, hB1⟩ : ∃ n, n = a / 4 &&& 3689348814741910323 := ⟨_, rfl⟩
  obtain ⟨B2, hB2⟩ : ∃ n, n = a &&& 3689348814741910323 := ⟨_, rfl⟩
  obtain ⟨b, hb⟩ : ∃ n, n = B1 + B2 := ⟨_, rfl⟩
  obtain ⟨c0, hc0⟩ : ∃ n, n = b / 16 + b := ⟨_, rfl⟩
  obtain ⟨c, hc⟩ : ∃ n, n = c0 &&& 1085102592571150095 := ⟨_, rfl⟩
  obtain ⟨d, hd⟩ : ∃ n, n = c + c / 256 := ⟨_, rfl⟩
  obtain ⟨e, he⟩ : ∃ n, n = d + d / 65536 := ⟨_, rfl⟩
  obtain ⟨f, hf⟩ : ∃ n, n = e + e / 4294967296 := ⟨_, rfl⟩
  have T := ones_trick x a b c hx (by rw [ha, hA1, hA2]) (by rw [hb, hB1, hB2]) (by rw [hc, hc0])
  rw [← hd, ← he, ← hf] at T
  obtain ⟨t1, t2, t3, t4, t5⟩ := T
  have a1 : bits .and .u64 ((x : Int) / 2) 6148914691236517205 = (A1 : Int) := by
    have := bits_and_u64_nat (x / 2) 6148914691236517205 (by omega) (by decide)
    rw [← hA1] at this; exact this
  have a2 : bits .and .u64 (x : Int) 6148914691236517205 = (A2 : Int) := by
    have := bits_and_u64_nat x 6148914691236517205 hx (by decide)
    rw [← hA2] at this; exact this
  have wa : IntKind.u64.wrap ((A1 : Int) + (A2 : Int)) = (a : Int) := by rw [← Int.natCast_add, ← ha]; exact wrapN a (by omega)
  have b1 : bits .and .u64 ((a : Int) / 4) 3689348814741910323 = (B1 : Int) := by
    have := bits_and_u64_nat (a / 4) 3689348814741910323 (by omega) (by decide)
    rw [← hB1] at this; exact this
  have b2 : bits .and .u64 (a : Int) 3689348814741910323 = (B2 : Int) := by
    have := bits_and_u64_nat a 3689348814741910323 (by omega) (by decide)
    rw [← hB2] at this; exact this
  have wb : IntKind.u64.wrap ((B1 : Int) + (B2 : Int)) = (b : Int) := by rw [← Int.natCast_add, ← hb]; exact wrapN b (by omega)
  have wc : IntKind.u64.wrap ((b : Int) / 16 + (b : Int)) = (c0 : Int) := by
    have := wrapN c0 (by omega)
    rw [show ((b : Int) / 16 + (b : Int)) = (c0 : Int) by omega]; exact this
  have c1 : bits .and .u64 (c0 : Int) 1085102592571150095 = (c : Int) := by
    have := bits_and_u64_nat c0 1085102592571150095 (by omega) (by decide)
    rw [← hc] at this; exact this
  have wd : IntKind.u64.wrap ((c : Int) + (c : Int) / 256) = (d : Int) := by
    rw [show ((c : Int) + (c : Int) / 256) = (d : Int) by omega]; exact wrapN d (by omega)
  have we : IntKind.u64.wrap ((d : Int) + (d : Int) / 65536) = (e : Int) := by
    rw [show ((d : Int) + (d : Int) / 65536) = (e : Int) by omega]; exact wrapN e (by omega)
  have wf : IntKind.u64.wrap ((e : Int) + (e : Int) / 4294967296) = (f : Int) := by
    rw [show ((e : Int) + (e : Int) / 4294967296) = (f : Int) by omega]; exact wrapN f (by omega)
  have wi : IntKind.i64.wrap (f : Int) = (f : Int) := IntWalk.i64_in _ (by omega)
  have g1 : bits .and .i64 (f : Int) 127 = ((pc 64 x : Nat) : Int) := by rw [i64_and127]; omega
  generalize pc 64 x = q at g1 t4 ⊢
  clear hA1 hA2 ha hB1 hB2 hb hc0 hc hd he hf t1 t2 t3 t4 t5
  go_enter Tryd.func89, Tryd.ntmps89
  go_wp2_with fail
  go_ret
  exact ⟨rfl, rfl⟩
end Go.Proofs.YtfcjhojkfchccaaDoor

/- math/bits.TrailingZeros64. -/
namespace Go.Proofs.YtfcjhojkfchccaaDoor
open Go.RowKit
set_option linter.unusedVariables false

theorem tz_core (x k idx : Nat) (w : World) (hx0 : ((x : Int) == 0) = false)
    (key : IntKind.u64.wrap (bits BinOp.and IntKind.u64 (x : Int) (IntKind.u64.wrap (-(x : Int))) * 285870213051353865) / 288230376151711744 = (idx : Int))
    (hi : idx < 64) (hk : k < 64) (hcell : w.cell? ⟨0, idx, none⟩ = some (.int .u8 k)) :
    Calls Tryd.prog 82 #[.int .u64 x] w fun e w' => e = .returned (.int .i64 k) ∧ w = w' := by
  go_enter Tryd.func82, Tryd.ntmps82
  go_wp2_with (simp only [key])
  go_ret
  exact ⟨rfl, rfl⟩

/-- The library's table lies in its variable. -/
def TabIn (w : World) : Prop := TabAt 0 Lib.deBruijn64tab w

theorem tz_any (x : Nat) (w : World) (hx : x < 18446744073709551616) (h0 : x ≠ 0) (hT : TabIn w) :
    Calls Tryd.prog 82 #[.int .u64 x] w fun e w' => e = .returned (.int .i64 (Lib.ctz 64 x)) ∧ w = w' := by
  obtain ⟨hlow, hk⟩ := Lib.lowest_bit 64 x h0 hx
  obtain ⟨hi, htab⟩ := Lib.deBruijn64_at _ hk
  have hcell := hT _ hi
  rw [htab] at hcell
  exact tz_core x _ _ w (by simp; omega) (tz64_key x _ hx h0 hlow) hi hk hcell
end Go.Proofs.YtfcjhojkfchccaaDoor
