/- Texts laid together. -/
import Derived.Test.YtdikcenhakfheaaGreatDoorC15
import Derived.Test.YtdikcenhakfheaaGreatDoorC07
/- What LogFind leaves. -/
namespace Go.Proofs.YtdikcenhakfheaaGreatDoor
open Go.RowKit
set_option linter.unusedVariables false

/-- What LogFind leaves. -/
def LfP (E : List En) (a : Pid) (w : World) (e : Ending) (w' : World) : Prop :=
  ∃ u, e = .returned (.tuple #[env (lfindR E a).1 u, .bool (lfindR E a).2]) ∧ OwZ w' w.heap.size w'.heap.size u (lfindR E a).1.deps ∧ Below w.heap.size w w'

end Go.Proofs.YtdikcenhakfheaaGreatDoor
