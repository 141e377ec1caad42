/- Draws of sorted ids: l91Deps. -/
import Derived.Test.YtbhjglapfiegaaaDoorDidl
import Derived.Test.YtbhjglapfiegaaaDoorSsort
namespace Go.Proofs.YtbhjglapfiegaaaDoor
open Go.RowKit
set_option linter.unusedVariables false

theorem OwnP.stay {w w' : World} {b r : Nat} {v : Value} {C : List Pid} (h : OwnP w b v C) (hk : Keep w.heap.size r w w') (hr : b ≠ r) : OwnP w' b v C := h.same (hk.block b h.lt hr)

/-- What l91Deps leaves. -/
def DepPost (r n : Nat) (w : World) (e : Ending) (w' : World) : Prop :=
  ∃ b u C, w.heap.size ≤ b ∧ e = .returned u ∧ OwnP w' b u C ∧ C.length ≤ 13 ∧ Rd w' r (n + 40) ∧ Keep w.heap.size r w w'

set_option maxHeartbeats 2000000 in
theorem ddep_any (r n : Nat) (w : World) (hrd : Rd w r n) (hn : n ≤ 800000000) :
    Calls Tryd.prog 30 #[.pointer (some ⟨r, 0, none⟩)] w (DepPost r n w) := by
  have hrl := hrd.lt
  have hrd := Lib.hid hrd
  go_enter Tryd.func30, Tryd.ntmps30
  go_wp2_with fail
  refine (ids_anyN r n _ hrd.out hn).mono ?_
  rintro e w1 ⟨u, C, rfl, hI, hl, hr1, hk1⟩
  have s1 := hk1.size
  have hI := Lib.hid hI
  have hr1 := Lib.hid hr1
  have K1 := Lib.hid hk1
  clear hk1 hrd
  go_wp2_with fail
  refine (ssort_any u C _ hI.out (by omega)).mono ?_
  rintro e w2 ⟨b, v, hb, rfl, hO, hb2⟩
  have s2 := hb2.size
  have hr2 := Lib.hid (hr1.out.kept (hb2.mono (Nat.succ_le_of_lt hr1.out.lt)))
  have K2 := Lib.hid (K1.out.trans (Keep.of_below (hb2.mono s1)))
  have hL := sortR_len C
  have hO := Lib.hid hO
  clear hb2 K1 hr1 hI
  generalize sortR C = R at hO hL ⊢
  obtain ⟨S, f⟩ := R
  dsimp only at hO hL ⊢
  cases f
  · have A3 := heap_alloc_new w2 (.cells #[.int .i64 1, .int .i64 1, .int .i64 0, .int .i64 1] 31)
    have A3 := Lib.hid A3
    have hr3 := Lib.hid (hr2.out.alloc (.cells #[.int .i64 1, .int .i64 1, .int .i64 0, .int .i64 1] 31))
    have K3 := Lib.hid (K2.out.alloc (by omega) (.cells #[.int .i64 1, .int .i64 1, .int .i64 0, .int .i64 1] 31))
    have hI3 : Hid (OwnP (w2.alloc (.cells #[.int .i64 1, .int .i64 1, .int .i64 0, .int .i64 1] 31)) w2.heap.size (.slice (some ⟨w2.heap.size, 0, none⟩) 2 2) [(1, 1), (0, 1)]) := Lib.hid ⟨2, _, _, rfl, A3.out, by simp, by simp, fun i hi => by
      have hi' : i < 2 := by simpa using hi
      rcases (show i = 0 ∨ i = 1 by omega) with rfl | rfl <;> exact ⟨rfl, rfl⟩⟩
    go_wp2_with fail
    go_ret
    exact ⟨w2.heap.size, _, _, by omega, rfl, hI3.out, by simp, hr3.out, K3.out⟩
  · go_wp2_with fail
    go_ret
    exact ⟨b, _, _, by omega, rfl, hO.out, by omega, hr2.out, K2.out⟩
end Go.Proofs.YtbhjglapfiegaaaDoor
