/- Texts laid together. -/
import Derived.Test.YtiolhjjkjmepcaaGreatDoorC01
/- The laws' copies of commands. -/
namespace Go.Proofs.YtiolhjjkjmepcaaGreatDoor
open Go.RowKit
set_option linter.unusedVariables false

theorem toCmd_any (k key v : Int) (w : World) :
    Calls Tryz.prog 52 #[.agg #[.int .i64 k, .int .i64 key, .int .i64 v]] w fun e w' => e = .returned (.agg #[.int .i64 k, .int .i64 key, .int .i64 v]) ∧ Below w.heap.size w w' := by
  go_enter Tryz.func52, Tryz.ntmps52
  go_wp2_with fail
  exact bodyPost_ret (v := .agg #[.int .i64 k, .int .i64 key, .int .i64 v]) (by simp [results, Tryz.results52, go_sem]) rfl ⟨rfl, by repeat (first | with_reducible exact Below.refl _ _ | with_reducible refine Below.setCell ?_ (by first | (simp; done) | (simp; omega)) _ | with_reducible refine Below.alloc ?_ (by first | (simp; done) | (simp; omega)) _)⟩
end Go.Proofs.YtiolhjjkjmepcaaGreatDoor
