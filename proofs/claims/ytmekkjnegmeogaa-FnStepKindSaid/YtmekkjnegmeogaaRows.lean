/-
  No cell of these rows narrows 'for every input' (looked for: loops, veiled, ifaces, maps, wideKeys, modest, calm, conditions, laid).
  DERIVED. THE GIVEN ROWS OF THIS SEAT. 12 by the template 'for every input the law returns true; each argument reads behind the call as it read before'; 0 by the template 'total and deterministic' (their statements: YtmekkjnegmeogaaTotals.lean).
  GIVEN WITH THE SEED: the statements are not yours to turn. If you find one false, say at which input.
  Laid BY PROGRAM, IN A SANDBOX (cutbox-rows.mjs): the forced cells as the released guide's own fill.sh prints them over the translation 36e6057e92a11af1… (all of the seat's roots in one cut). By AI agents, Wed Nov 11 2026. No macro, syntax, notation, axiom, sorry.
-/
import Derived.Test.YtmekkjnegmeogaaChecked
import GoSem.Claim
import GoSem.ClaimJoined
import GoSem.ClaimMapViews
import Derived.JoinedTies
import Derived.KernelRfl
namespace Go.Proofs.Ytmekkjnegmeogaa
/- THE CELL 'sum', in the pinned program and in every row, IS THE sha256 OF THE DUMP (.gsa) THAT YtmekkjnegmeogaaProg.lean LOADS. Nothing in Lean hashes anything: it is a label: what it is worth is what the hold of that sum in a sandbox is worth. -/
noncomputable def Try.pinned : Pinned := { name := "ytmekkjnegmeogaa", sum := "36e6057e92a11af1d8e16a97feda3b29121cf9118e83c4827badcd612a7b714d", checked := Try.checked }
namespace Rows
def none {H : Type} : Left H := { results := [], args := [] }

/-- 'laws.FnStep': WHATEVER THE INPUT: true; the input reads as it did. -/
def fnStepSpec : ChangeSpec := { name := "fnStep", fn := fun _ => fun
  | [d] => { results := [.lit (.bool true)], args := [d] }
  | _ => none }
def fnStepRow : OpenClaim := { program := "ytmekkjnegmeogaa", sum := "36e6057e92a11af1d8e16a97feda3b29121cf9118e83c4827badcd612a7b714d", func := "loop.example/leaderlesslog/laws.FnStep", spec := "fnStep", apart := false }
def FnStepSaid : Prop := fnStepRow.holds Try.pinned (OpenSpec.ofChange fnStepSpec)

/-- ITS FALSE NEIGHBOUR: 'it returns false'. Refute it at one input. -/
def fnStepWrong : ChangeSpec := { name := "fnStep", fn := fun _ => fun
  | [d] => { results := [.lit (.bool false)], args := [d] }
  | _ => none }
def FnStepWrongFalsely : Prop := fnStepRow.holds Try.pinned (OpenSpec.ofChange fnStepWrong)

/-- 'laws.FnStepKind': WHATEVER THE INPUT: true; the input reads as it did. -/
def fnStepKindSpec : ChangeSpec := { name := "fnStepKind", fn := fun _ => fun
  | [d] => { results := [.lit (.bool true)], args := [d] }
  | _ => none }
def fnStepKindRow : OpenClaim := { program := "ytmekkjnegmeogaa", sum := "36e6057e92a11af1d8e16a97feda3b29121cf9118e83c4827badcd612a7b714d", func := "loop.example/leaderlesslog/laws.FnStepKind", spec := "fnStepKind", apart := false }
def FnStepKindSaid : Prop := fnStepKindRow.holds Try.pinned (OpenSpec.ofChange fnStepKindSpec)

/-- ITS FALSE NEIGHBOUR: 'it returns false'. Refute it at one input. -/
def fnStepKindWrong : ChangeSpec := { name := "fnStepKind", fn := fun _ => fun
  | [d] => { results := [.lit (.bool false)], args := [d] }
  | _ => none }
def FnStepKindWrongFalsely : Prop := fnStepKindRow.holds Try.pinned (OpenSpec.ofChange fnStepKindWrong)

/-- 'laws.FnStepRead': WHATEVER THE INPUT: true; the input reads as it did. -/
def fnStepReadSpec : ChangeSpec := { name := "fnStepRead", fn := fun _ => fun
  | [d] => { results := [.lit (.bool true)], args := [d] }
  | _ => none }
def fnStepReadRow : OpenClaim := { program := "ytmekkjnegmeogaa", sum := "36e6057e92a11af1d8e16a97feda3b29121cf9118e83c4827badcd612a7b714d", func := "loop.example/leaderlesslog/laws.FnStepRead", spec := "fnStepRead", apart := false }
def FnStepReadSaid : Prop := fnStepReadRow.holds Try.pinned (OpenSpec.ofChange fnStepReadSpec)

/-- ITS FALSE NEIGHBOUR: 'it returns false'. Refute it at one input. -/
def fnStepReadWrong : ChangeSpec := { name := "fnStepRead", fn := fun _ => fun
  | [d] => { results := [.lit (.bool false)], args := [d] }
  | _ => none }
def FnStepReadWrongFalsely : Prop := fnStepReadRow.holds Try.pinned (OpenSpec.ofChange fnStepReadWrong)

/-- 'laws.FnRun': WHATEVER THE INPUT: true; the input reads as it did. -/
def fnRunSpec : ChangeSpec := { name := "fnRun", fn := fun _ => fun
  | [d1, d2] => { results := [.lit (.bool true)], args := [d1, d2] }
  | _ => none }
def fnRunRow : OpenClaim := { program := "ytmekkjnegmeogaa", sum := "36e6057e92a11af1d8e16a97feda3b29121cf9118e83c4827badcd612a7b714d", func := "loop.example/leaderlesslog/laws.FnRun", spec := "fnRun", apart := false }
def FnRunSaid : Prop := fnRunRow.holds Try.pinned (OpenSpec.ofChange fnRunSpec)

/-- ITS FALSE NEIGHBOUR: 'it returns false'. Refute it at one input. -/
def fnRunWrong : ChangeSpec := { name := "fnRun", fn := fun _ => fun
  | [d1, d2] => { results := [.lit (.bool false)], args := [d1, d2] }
  | _ => none }
def FnRunWrongFalsely : Prop := fnRunRow.holds Try.pinned (OpenSpec.ofChange fnRunWrong)

/-- 'laws.FnRunSteps': WHATEVER THE INPUT: true; the input reads as it did. -/
def fnRunStepsSpec : ChangeSpec := { name := "fnRunSteps", fn := fun _ => fun
  | [d] => { results := [.lit (.bool true)], args := [d] }
  | _ => none }
def fnRunStepsRow : OpenClaim := { program := "ytmekkjnegmeogaa", sum := "36e6057e92a11af1d8e16a97feda3b29121cf9118e83c4827badcd612a7b714d", func := "loop.example/leaderlesslog/laws.FnRunSteps", spec := "fnRunSteps", apart := false }
def FnRunStepsSaid : Prop := fnRunStepsRow.holds Try.pinned (OpenSpec.ofChange fnRunStepsSpec)

/-- ITS FALSE NEIGHBOUR: 'it returns false'. Refute it at one input. -/
def fnRunStepsWrong : ChangeSpec := { name := "fnRunSteps", fn := fun _ => fun
  | [d] => { results := [.lit (.bool false)], args := [d] }
  | _ => none }
def FnRunStepsWrongFalsely : Prop := fnRunStepsRow.holds Try.pinned (OpenSpec.ofChange fnRunStepsWrong)

/-- 'laws.FnSwap': WHATEVER THE INPUT: true; the input reads as it did. -/
def fnSwapSpec : ChangeSpec := { name := "fnSwap", fn := fun _ => fun
  | [d] => { results := [.lit (.bool true)], args := [d] }
  | _ => none }
def fnSwapRow : OpenClaim := { program := "ytmekkjnegmeogaa", sum := "36e6057e92a11af1d8e16a97feda3b29121cf9118e83c4827badcd612a7b714d", func := "loop.example/leaderlesslog/laws.FnSwap", spec := "fnSwap", unfollowed := true, recurses := true, apart := false }
def FnSwapSaid : Prop := fnSwapRow.holds Try.pinned (OpenSpec.ofChange fnSwapSpec)

/-- ITS FALSE NEIGHBOUR: 'it returns false'. Refute it at one input. -/
def fnSwapWrong : ChangeSpec := { name := "fnSwap", fn := fun _ => fun
  | [d] => { results := [.lit (.bool false)], args := [d] }
  | _ => none }
def FnSwapWrongFalsely : Prop := fnSwapRow.holds Try.pinned (OpenSpec.ofChange fnSwapWrong)

/-- 'laws.FnSwapBoth': WHATEVER THE INPUT: true; the input reads as it did. -/
def fnSwapBothSpec : ChangeSpec := { name := "fnSwapBoth", fn := fun _ => fun
  | [d] => { results := [.lit (.bool true)], args := [d] }
  | _ => none }
def fnSwapBothRow : OpenClaim := { program := "ytmekkjnegmeogaa", sum := "36e6057e92a11af1d8e16a97feda3b29121cf9118e83c4827badcd612a7b714d", func := "loop.example/leaderlesslog/laws.FnSwapBoth", spec := "fnSwapBoth", apart := false }
def FnSwapBothSaid : Prop := fnSwapBothRow.holds Try.pinned (OpenSpec.ofChange fnSwapBothSpec)

/-- ITS FALSE NEIGHBOUR: 'it returns false'. Refute it at one input. -/
def fnSwapBothWrong : ChangeSpec := { name := "fnSwapBoth", fn := fun _ => fun
  | [d] => { results := [.lit (.bool false)], args := [d] }
  | _ => none }
def FnSwapBothWrongFalsely : Prop := fnSwapBothRow.holds Try.pinned (OpenSpec.ofChange fnSwapBothWrong)

/-- 'laws.FnSwapNot': WHATEVER THE INPUT: true; the input reads as it did. -/
def fnSwapNotSpec : ChangeSpec := { name := "fnSwapNot", fn := fun _ => fun
  | [d] => { results := [.lit (.bool true)], args := [d] }
  | _ => none }
def fnSwapNotRow : OpenClaim := { program := "ytmekkjnegmeogaa", sum := "36e6057e92a11af1d8e16a97feda3b29121cf9118e83c4827badcd612a7b714d", func := "loop.example/leaderlesslog/laws.FnSwapNot", spec := "fnSwapNot", apart := false }
def FnSwapNotSaid : Prop := fnSwapNotRow.holds Try.pinned (OpenSpec.ofChange fnSwapNotSpec)

/-- ITS FALSE NEIGHBOUR: 'it returns false'. Refute it at one input. -/
def fnSwapNotWrong : ChangeSpec := { name := "fnSwapNot", fn := fun _ => fun
  | [d] => { results := [.lit (.bool false)], args := [d] }
  | _ => none }
def FnSwapNotWrongFalsely : Prop := fnSwapNotRow.holds Try.pinned (OpenSpec.ofChange fnSwapNotWrong)

/-- 'laws.FnExactStateValid': WHATEVER THE INPUT: true; the input reads as it did. -/
def fnExactStateValidSpec : ChangeSpec := { name := "fnExactStateValid", fn := fun _ => fun
  | [d] => { results := [.lit (.bool true)], args := [d] }
  | _ => none }
def fnExactStateValidRow : OpenClaim := { program := "ytmekkjnegmeogaa", sum := "36e6057e92a11af1d8e16a97feda3b29121cf9118e83c4827badcd612a7b714d", func := "loop.example/leaderlesslog/laws.FnExactStateValid", spec := "fnExactStateValid", apart := false }
def FnExactStateValidSaid : Prop := fnExactStateValidRow.holds Try.pinned (OpenSpec.ofChange fnExactStateValidSpec)

/-- ITS FALSE NEIGHBOUR: 'it returns false'. Refute it at one input. -/
def fnExactStateValidWrong : ChangeSpec := { name := "fnExactStateValid", fn := fun _ => fun
  | [d] => { results := [.lit (.bool false)], args := [d] }
  | _ => none }
def FnExactStateValidWrongFalsely : Prop := fnExactStateValidRow.holds Try.pinned (OpenSpec.ofChange fnExactStateValidWrong)

/-- 'laws.FnExactStateStep': WHATEVER THE INPUT: true; the input reads as it did. -/
def fnExactStateStepSpec : ChangeSpec := { name := "fnExactStateStep", fn := fun _ => fun
  | [d1, d2] => { results := [.lit (.bool true)], args := [d1, d2] }
  | _ => none }
def fnExactStateStepRow : OpenClaim := { program := "ytmekkjnegmeogaa", sum := "36e6057e92a11af1d8e16a97feda3b29121cf9118e83c4827badcd612a7b714d", func := "loop.example/leaderlesslog/laws.FnExactStateStep", spec := "fnExactStateStep", apart := false }
def FnExactStateStepSaid : Prop := fnExactStateStepRow.holds Try.pinned (OpenSpec.ofChange fnExactStateStepSpec)

/-- ITS FALSE NEIGHBOUR: 'it returns false'. Refute it at one input. -/
def fnExactStateStepWrong : ChangeSpec := { name := "fnExactStateStep", fn := fun _ => fun
  | [d1, d2] => { results := [.lit (.bool false)], args := [d1, d2] }
  | _ => none }
def FnExactStateStepWrongFalsely : Prop := fnExactStateStepRow.holds Try.pinned (OpenSpec.ofChange fnExactStateStepWrong)

/-- 'laws.FnExactStateRun': WHATEVER THE INPUT: true; the input reads as it did. -/
def fnExactStateRunSpec : ChangeSpec := { name := "fnExactStateRun", fn := fun _ => fun
  | [d1, d2] => { results := [.lit (.bool true)], args := [d1, d2] }
  | _ => none }
def fnExactStateRunRow : OpenClaim := { program := "ytmekkjnegmeogaa", sum := "36e6057e92a11af1d8e16a97feda3b29121cf9118e83c4827badcd612a7b714d", func := "loop.example/leaderlesslog/laws.FnExactStateRun", spec := "fnExactStateRun", apart := false }
def FnExactStateRunSaid : Prop := fnExactStateRunRow.holds Try.pinned (OpenSpec.ofChange fnExactStateRunSpec)

/-- ITS FALSE NEIGHBOUR: 'it returns false'. Refute it at one input. -/
def fnExactStateRunWrong : ChangeSpec := { name := "fnExactStateRun", fn := fun _ => fun
  | [d1, d2] => { results := [.lit (.bool false)], args := [d1, d2] }
  | _ => none }
def FnExactStateRunWrongFalsely : Prop := fnExactStateRunRow.holds Try.pinned (OpenSpec.ofChange fnExactStateRunWrong)

/-- 'laws.FnExactStateSwap': WHATEVER THE INPUT: true; the input reads as it did. -/
def fnExactStateSwapSpec : ChangeSpec := { name := "fnExactStateSwap", fn := fun _ => fun
  | [d1, d2, d3] => { results := [.lit (.bool true)], args := [d1, d2, d3] }
  | _ => none }
def fnExactStateSwapRow : OpenClaim := { program := "ytmekkjnegmeogaa", sum := "36e6057e92a11af1d8e16a97feda3b29121cf9118e83c4827badcd612a7b714d", func := "loop.example/leaderlesslog/laws.FnExactStateSwap", spec := "fnExactStateSwap", apart := false }
def FnExactStateSwapSaid : Prop := fnExactStateSwapRow.holds Try.pinned (OpenSpec.ofChange fnExactStateSwapSpec)

/-- ITS FALSE NEIGHBOUR: 'it returns false'. Refute it at one input. -/
def fnExactStateSwapWrong : ChangeSpec := { name := "fnExactStateSwap", fn := fun _ => fun
  | [d1, d2, d3] => { results := [.lit (.bool false)], args := [d1, d2, d3] }
  | _ => none }
def FnExactStateSwapWrongFalsely : Prop := fnExactStateSwapRow.holds Try.pinned (OpenSpec.ofChange fnExactStateSwapWrong)

/- THE SECOND FORM. 'bulk': how many values and letters a reading holds, each counted each time it is reached (what is shared counts as often as it is met; a slice's spare places count too). A statement '..UptoSaid' is the law's where the arguments, and the package variables that the reading takes, are together of bulk at most 1048576: NARROWER than '..Said'. Prove '..Said' where nothing that the law and all that it calls make is longer than what came in: it says more and counts as full. Else prove '..UptoSaid'. A law counts once. -/
mutual
def uptoBulk {H : Type} : DataW H → Nat
  | .lit (.string bytes) => bytes.length + 1
  | .lit _ => 1
  | .nil => 1
  | .ptr d => uptoBulk d + 1
  | .slice elems spare => uptoBulkAll elems + uptoBulkAll spare + 1
  | .agg parts => uptoBulkAll parts + 1
  | .iface _ d => uptoBulk d + 1
  | .map entries => uptoBulkEntries entries + 1
  | .held _ => 1
def uptoBulkAll {H : Type} : List (DataW H) → Nat
  | [] => 0
  | d :: r => uptoBulk d + uptoBulkAll r
def uptoBulkEntries {H : Type} : List (Lit × DataW H) → Nat
  | [] => 0
  | x :: r => uptoBulkEntry x + uptoBulkEntries r
def uptoBulkEntry {H : Type} : Lit × DataW H → Nat
  | (.string bytes, d) => bytes.length + uptoBulk d + 1
  | (_, d) => uptoBulk d + 1
 end
def uptoSmall : (H : Type) → List (DataW H) → Bool := fun _ ds => decide (uptoBulkAll ds ≤ 1048576)
def OpenSpec.upto (s : _root_.Go.ChangeSpec) : _root_.Go.OpenSpec := { _root_.Go.OpenSpec.ofChange s with cond := some uptoSmall }

/-- 'laws.FnStep', WHERE WHAT IT READS IS OF BULK AT MOST 1048576: true; the input reads as it did. -/
def fnStepUptoRow : OpenClaim := { program := "ytmekkjnegmeogaa", sum := "36e6057e92a11af1d8e16a97feda3b29121cf9118e83c4827badcd612a7b714d", func := "loop.example/leaderlesslog/laws.FnStep", spec := "fnStep", apart := false, narrowed := true }
def FnStepUptoSaid : Prop := fnStepUptoRow.holds Try.pinned (OpenSpec.upto fnStepSpec)

/-- 'laws.FnStepKind', WHERE WHAT IT READS IS OF BULK AT MOST 1048576: true; the input reads as it did. -/
def fnStepKindUptoRow : OpenClaim := { program := "ytmekkjnegmeogaa", sum := "36e6057e92a11af1d8e16a97feda3b29121cf9118e83c4827badcd612a7b714d", func := "loop.example/leaderlesslog/laws.FnStepKind", spec := "fnStepKind", apart := false, narrowed := true }
def FnStepKindUptoSaid : Prop := fnStepKindUptoRow.holds Try.pinned (OpenSpec.upto fnStepKindSpec)

/-- 'laws.FnStepRead', WHERE WHAT IT READS IS OF BULK AT MOST 1048576: true; the input reads as it did. -/
def fnStepReadUptoRow : OpenClaim := { program := "ytmekkjnegmeogaa", sum := "36e6057e92a11af1d8e16a97feda3b29121cf9118e83c4827badcd612a7b714d", func := "loop.example/leaderlesslog/laws.FnStepRead", spec := "fnStepRead", apart := false, narrowed := true }
def FnStepReadUptoSaid : Prop := fnStepReadUptoRow.holds Try.pinned (OpenSpec.upto fnStepReadSpec)

/-- 'laws.FnRun', WHERE WHAT IT READS IS OF BULK AT MOST 1048576: true; the input reads as it did. -/
def fnRunUptoRow : OpenClaim := { program := "ytmekkjnegmeogaa", sum := "36e6057e92a11af1d8e16a97feda3b29121cf9118e83c4827badcd612a7b714d", func := "loop.example/leaderlesslog/laws.FnRun", spec := "fnRun", apart := false, narrowed := true }
def FnRunUptoSaid : Prop := fnRunUptoRow.holds Try.pinned (OpenSpec.upto fnRunSpec)

/-- 'laws.FnRunSteps', WHERE WHAT IT READS IS OF BULK AT MOST 1048576: true; the input reads as it did. -/
def fnRunStepsUptoRow : OpenClaim := { program := "ytmekkjnegmeogaa", sum := "36e6057e92a11af1d8e16a97feda3b29121cf9118e83c4827badcd612a7b714d", func := "loop.example/leaderlesslog/laws.FnRunSteps", spec := "fnRunSteps", apart := false, narrowed := true }
def FnRunStepsUptoSaid : Prop := fnRunStepsUptoRow.holds Try.pinned (OpenSpec.upto fnRunStepsSpec)

/-- 'laws.FnSwap', WHERE WHAT IT READS IS OF BULK AT MOST 1048576: true; the input reads as it did. -/
def fnSwapUptoRow : OpenClaim := { program := "ytmekkjnegmeogaa", sum := "36e6057e92a11af1d8e16a97feda3b29121cf9118e83c4827badcd612a7b714d", func := "loop.example/leaderlesslog/laws.FnSwap", spec := "fnSwap", unfollowed := true, recurses := true, apart := false, narrowed := true }
def FnSwapUptoSaid : Prop := fnSwapUptoRow.holds Try.pinned (OpenSpec.upto fnSwapSpec)

/-- 'laws.FnSwapBoth', WHERE WHAT IT READS IS OF BULK AT MOST 1048576: true; the input reads as it did. -/
def fnSwapBothUptoRow : OpenClaim := { program := "ytmekkjnegmeogaa", sum := "36e6057e92a11af1d8e16a97feda3b29121cf9118e83c4827badcd612a7b714d", func := "loop.example/leaderlesslog/laws.FnSwapBoth", spec := "fnSwapBoth", apart := false, narrowed := true }
def FnSwapBothUptoSaid : Prop := fnSwapBothUptoRow.holds Try.pinned (OpenSpec.upto fnSwapBothSpec)

/-- 'laws.FnSwapNot', WHERE WHAT IT READS IS OF BULK AT MOST 1048576: true; the input reads as it did. -/
def fnSwapNotUptoRow : OpenClaim := { program := "ytmekkjnegmeogaa", sum := "36e6057e92a11af1d8e16a97feda3b29121cf9118e83c4827badcd612a7b714d", func := "loop.example/leaderlesslog/laws.FnSwapNot", spec := "fnSwapNot", apart := false, narrowed := true }
def FnSwapNotUptoSaid : Prop := fnSwapNotUptoRow.holds Try.pinned (OpenSpec.upto fnSwapNotSpec)

/-- 'laws.FnExactStateValid', WHERE WHAT IT READS IS OF BULK AT MOST 1048576: true; the input reads as it did. -/
def fnExactStateValidUptoRow : OpenClaim := { program := "ytmekkjnegmeogaa", sum := "36e6057e92a11af1d8e16a97feda3b29121cf9118e83c4827badcd612a7b714d", func := "loop.example/leaderlesslog/laws.FnExactStateValid", spec := "fnExactStateValid", apart := false, narrowed := true }
def FnExactStateValidUptoSaid : Prop := fnExactStateValidUptoRow.holds Try.pinned (OpenSpec.upto fnExactStateValidSpec)

/-- 'laws.FnExactStateStep', WHERE WHAT IT READS IS OF BULK AT MOST 1048576: true; the input reads as it did. -/
def fnExactStateStepUptoRow : OpenClaim := { program := "ytmekkjnegmeogaa", sum := "36e6057e92a11af1d8e16a97feda3b29121cf9118e83c4827badcd612a7b714d", func := "loop.example/leaderlesslog/laws.FnExactStateStep", spec := "fnExactStateStep", apart := false, narrowed := true }
def FnExactStateStepUptoSaid : Prop := fnExactStateStepUptoRow.holds Try.pinned (OpenSpec.upto fnExactStateStepSpec)

/-- 'laws.FnExactStateRun', WHERE WHAT IT READS IS OF BULK AT MOST 1048576: true; the input reads as it did. -/
def fnExactStateRunUptoRow : OpenClaim := { program := "ytmekkjnegmeogaa", sum := "36e6057e92a11af1d8e16a97feda3b29121cf9118e83c4827badcd612a7b714d", func := "loop.example/leaderlesslog/laws.FnExactStateRun", spec := "fnExactStateRun", apart := false, narrowed := true }
def FnExactStateRunUptoSaid : Prop := fnExactStateRunUptoRow.holds Try.pinned (OpenSpec.upto fnExactStateRunSpec)

/-- 'laws.FnExactStateSwap', WHERE WHAT IT READS IS OF BULK AT MOST 1048576: true; the input reads as it did. -/
def fnExactStateSwapUptoRow : OpenClaim := { program := "ytmekkjnegmeogaa", sum := "36e6057e92a11af1d8e16a97feda3b29121cf9118e83c4827badcd612a7b714d", func := "loop.example/leaderlesslog/laws.FnExactStateSwap", spec := "fnExactStateSwap", apart := false, narrowed := true }
def FnExactStateSwapUptoSaid : Prop := fnExactStateSwapUptoRow.holds Try.pinned (OpenSpec.upto fnExactStateSwapSpec)

end Rows
end Go.Proofs.Ytmekkjnegmeogaa
