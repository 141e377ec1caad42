/- The laws' copies of ids. -/
import Derived.Test.YtoepimmkebbgcaaDoorBase
namespace Go.Proofs.YtoepimmkebbgcaaDoor
open Go.RowKit
set_option linter.unusedVariables false

theorem toId_any (r n : Int) (w : World) :
    Calls Tryd.prog 15 #[.agg #[.int .i64 r, .int .i64 n]] w fun e w' => e = .returned (.agg #[.int .i64 r, .int .i64 n]) ∧ Below w.heap.size w w' := by
  go_enter Tryd.func15, Tryd.ntmps15
  go_wp2_with fail
  exact bodyPost_ret (v := .agg #[.int .i64 r, .int .i64 n]) (by simp [results, Tryd.results15, go_sem]) rfl ⟨rfl, by repeat (first | with_reducible exact Below.refl _ _ | with_reducible refine Below.setCell ?_ (by first | (simp; done) | (simp; omega)) _ | with_reducible refine Below.alloc ?_ (by first | (simp; done) | (simp; omega)) _)⟩

end Go.Proofs.YtoepimmkebbgcaaDoor
