/- Texts laid together. -/
import Derived.Test.YtiolhjjkjmepcaaGreatDoorC11
import Derived.Test.YtiolhjjkjmepcaaGreatDoorC08
import Derived.Test.YtiolhjjkjmepcaaGreatDoorC06
/- What LogFind leaves. -/
namespace Go.Proofs.YtiolhjjkjmepcaaGreatDoor
open Go.RowKit
set_option linter.unusedVariables false

/-- What LogFind leaves. -/
def LfP (E : List En) (a : Pid) (w : World) (e : Ending) (w' : World) : Prop :=
  ∃ u, e = .returned (.tuple #[env (lfindR E a).1 u, .bool (lfindR E a).2]) ∧ OwZ w' w.heap.size w'.heap.size u (lfindR E a).1.deps ∧ Below w.heap.size w w'

end Go.Proofs.YtiolhjjkjmepcaaGreatDoor

/- The program's LogValid. -/
namespace Go.Proofs.YtiolhjjkjmepcaaGreatDoor
open Go.RowKit
set_option linter.unusedVariables false

/-- What LogValid answers. -/
theorem ilogv_any (u : Value) (E : List En) (w : World) (h : Ens w u E) :
    Calls Tryz.prog 17 #[u] w fun e w' => e = .returned (.bool (logB E)) ∧ Below w.heap.size w w' := by
  obtain ⟨a, cap, rfl, h1, h2, h3⟩ := h
  obtain ⟨U, hb⟩ : ∃ U, Calls Tryz.prog 43 #[.slice a E.length cap] w (BkPost E U w) := by
    rcases h3 with h3 | ⟨b, off, U, rfl, h4⟩
    · obtain rfl : E = [] := List.length_eq_zero_iff.1 h3
      exact ⟨fun _ => .slice none 0 0, ibook_nil a cap _ w⟩
    · exact ⟨U, ibook_at b off cap E U w h2 h4⟩
  clear h3
  unfold BkPost at hb
  obtain ⟨c, hc⟩ : ∃ c, logB E = c := ⟨_, rfl⟩
  rw [hc] at hb ⊢
  clear hc
  go_enter Tryz.func17, Tryz.ntmps17
  go_wp2_with fail
  refine hb.mono ?_
  rintro e w1 ⟨⟨rfl, bb, _, rfl, _⟩ | ⟨rfl, rfl⟩, B⟩
  · have D := Lib.hid B
    clear B
    go_wp2_with fail
    go_ret
    exact ⟨rfl, D.out⟩
  · have D := Lib.hid B
    clear B
    go_wp2_with fail
    go_ret
    exact ⟨rfl, D.out⟩
end Go.Proofs.YtiolhjjkjmepcaaGreatDoor
