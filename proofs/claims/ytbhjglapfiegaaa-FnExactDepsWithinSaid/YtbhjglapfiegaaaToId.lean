/- The laws' copies of ids. -/
import Derived.Test.YtbhjglapfiegaaaBase
namespace Go.Proofs.Ytbhjglapfiegaaa
open Go.RowKit
set_option linter.unusedVariables false

theorem toId_any (r n : Int) (w : World) :
    Calls Try.prog 26 #[.agg #[.int .i64 r, .int .i64 n]] w fun e w' => e = .returned (.agg #[.int .i64 r, .int .i64 n]) ∧ Below w.heap.size w w' := by
  go_enter Try.func26, Try.ntmps26
  go_wp2_with fail
  exact bodyPost_ret (v := .agg #[.int .i64 r, .int .i64 n]) (by simp [results, Try.results26, go_sem]) rfl ⟨rfl, by repeat (first | with_reducible exact Below.refl _ _ | with_reducible refine Below.setCell ?_ (by first | (simp; done) | (simp; omega)) _ | with_reducible refine Below.alloc ?_ (by first | (simp; done) | (simp; omega)) _)⟩

end Go.Proofs.Ytbhjglapfiegaaa
