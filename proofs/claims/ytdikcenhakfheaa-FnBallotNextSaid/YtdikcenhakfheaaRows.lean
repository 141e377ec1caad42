/-
  No cell of these rows narrows 'for every input' (looked for: loops, veiled, ifaces, maps, wideKeys, modest, calm, conditions, laid).
  DERIVED. THE GIVEN ROWS OF THIS SEAT. 5 by the template 'for every input the law returns true; each argument reads behind the call as it read before'; 0 by the template 'total and deterministic' (their statements: YtdikcenhakfheaaTotals.lean).
  GIVEN WITH THE SEED: the statements are not yours to turn. If you find one false, say at which input.
  Laid BY PROGRAM, IN A SANDBOX (cutbox-rows.mjs): the forced cells as the released guide's own fill.sh prints them over the translation c3e9deeeaadef27e… (all of the seat's roots in one cut). By AI agents, Wed Nov 11 2026. No macro, syntax, notation, axiom, sorry.
-/
import Derived.Test.YtdikcenhakfheaaChecked
import GoSem.Claim
import GoSem.ClaimJoined
import GoSem.ClaimMapViews
import Derived.JoinedTies
import Derived.KernelRfl
namespace Go.Proofs.Ytdikcenhakfheaa
/- THE CELL 'sum', in the pinned program and in every row, IS THE sha256 OF THE DUMP (.gsa) THAT YtdikcenhakfheaaProg.lean LOADS. Nothing in Lean hashes anything: it is a label: what it is worth is what the hold of that sum in a sandbox is worth. -/
noncomputable def Try.pinned : Pinned := { name := "ytdikcenhakfheaa", sum := "c3e9deeeaadef27e845df7e273fbb33919bea88545f3b787359987b66cc7b2f8", checked := Try.checked }
namespace Rows
def none {H : Type} : Left H := { results := [], args := [] }

/-- 'laws.FnBallot': WHATEVER THE INPUT: true; the input reads as it did. -/
def fnBallotSpec : ChangeSpec := { name := "fnBallot", fn := fun _ => fun
  | [d] => { results := [.lit (.bool true)], args := [d] }
  | _ => none }
def fnBallotRow : OpenClaim := { program := "ytdikcenhakfheaa", sum := "c3e9deeeaadef27e845df7e273fbb33919bea88545f3b787359987b66cc7b2f8", func := "loop.example/leaderlesslog/laws.FnBallot", spec := "fnBallot", apart := false }
def FnBallotSaid : Prop := fnBallotRow.holds Try.pinned (OpenSpec.ofChange fnBallotSpec)

/-- ITS FALSE NEIGHBOUR: 'it returns false'. Refute it at one input. -/
def fnBallotWrong : ChangeSpec := { name := "fnBallot", fn := fun _ => fun
  | [d] => { results := [.lit (.bool false)], args := [d] }
  | _ => none }
def FnBallotWrongFalsely : Prop := fnBallotRow.holds Try.pinned (OpenSpec.ofChange fnBallotWrong)

/-- 'laws.FnBallotNext': WHATEVER THE INPUT: true; the input reads as it did. -/
def fnBallotNextSpec : ChangeSpec := { name := "fnBallotNext", fn := fun _ => fun
  | [d] => { results := [.lit (.bool true)], args := [d] }
  | _ => none }
def fnBallotNextRow : OpenClaim := { program := "ytdikcenhakfheaa", sum := "c3e9deeeaadef27e845df7e273fbb33919bea88545f3b787359987b66cc7b2f8", func := "loop.example/leaderlesslog/laws.FnBallotNext", spec := "fnBallotNext", apart := false }
def FnBallotNextSaid : Prop := fnBallotNextRow.holds Try.pinned (OpenSpec.ofChange fnBallotNextSpec)

/-- ITS FALSE NEIGHBOUR: 'it returns false'. Refute it at one input. -/
def fnBallotNextWrong : ChangeSpec := { name := "fnBallotNext", fn := fun _ => fun
  | [d] => { results := [.lit (.bool false)], args := [d] }
  | _ => none }
def FnBallotNextWrongFalsely : Prop := fnBallotNextRow.holds Try.pinned (OpenSpec.ofChange fnBallotNextWrong)

/-- 'laws.FnBallotNextOther': WHATEVER THE INPUT: true; the input reads as it did. -/
def fnBallotNextOtherSpec : ChangeSpec := { name := "fnBallotNextOther", fn := fun _ => fun
  | [d] => { results := [.lit (.bool true)], args := [d] }
  | _ => none }
def fnBallotNextOtherRow : OpenClaim := { program := "ytdikcenhakfheaa", sum := "c3e9deeeaadef27e845df7e273fbb33919bea88545f3b787359987b66cc7b2f8", func := "loop.example/leaderlesslog/laws.FnBallotNextOther", spec := "fnBallotNextOther", apart := false }
def FnBallotNextOtherSaid : Prop := fnBallotNextOtherRow.holds Try.pinned (OpenSpec.ofChange fnBallotNextOtherSpec)

/-- ITS FALSE NEIGHBOUR: 'it returns false'. Refute it at one input. -/
def fnBallotNextOtherWrong : ChangeSpec := { name := "fnBallotNextOther", fn := fun _ => fun
  | [d] => { results := [.lit (.bool false)], args := [d] }
  | _ => none }
def FnBallotNextOtherWrongFalsely : Prop := fnBallotNextOtherRow.holds Try.pinned (OpenSpec.ofChange fnBallotNextOtherWrong)

/-- 'laws.FnExactBallotOf': WHATEVER THE INPUT: true; the input reads as it did. -/
def fnExactBallotOfSpec : ChangeSpec := { name := "fnExactBallotOf", fn := fun _ => fun
  | [d1, d2] => { results := [.lit (.bool true)], args := [d1, d2] }
  | _ => none }
def fnExactBallotOfRow : OpenClaim := { program := "ytdikcenhakfheaa", sum := "c3e9deeeaadef27e845df7e273fbb33919bea88545f3b787359987b66cc7b2f8", func := "loop.example/leaderlesslog/laws.FnExactBallotOf", spec := "fnExactBallotOf", apart := false }
def FnExactBallotOfSaid : Prop := fnExactBallotOfRow.holds Try.pinned (OpenSpec.ofChange fnExactBallotOfSpec)

/-- ITS FALSE NEIGHBOUR: 'it returns false'. Refute it at one input. -/
def fnExactBallotOfWrong : ChangeSpec := { name := "fnExactBallotOf", fn := fun _ => fun
  | [d1, d2] => { results := [.lit (.bool false)], args := [d1, d2] }
  | _ => none }
def FnExactBallotOfWrongFalsely : Prop := fnExactBallotOfRow.holds Try.pinned (OpenSpec.ofChange fnExactBallotOfWrong)

/-- 'laws.FnExactBallotNext': WHATEVER THE INPUT: true; the input reads as it did. -/
def fnExactBallotNextSpec : ChangeSpec := { name := "fnExactBallotNext", fn := fun _ => fun
  | [d1, d2] => { results := [.lit (.bool true)], args := [d1, d2] }
  | _ => none }
def fnExactBallotNextRow : OpenClaim := { program := "ytdikcenhakfheaa", sum := "c3e9deeeaadef27e845df7e273fbb33919bea88545f3b787359987b66cc7b2f8", func := "loop.example/leaderlesslog/laws.FnExactBallotNext", spec := "fnExactBallotNext", apart := false }
def FnExactBallotNextSaid : Prop := fnExactBallotNextRow.holds Try.pinned (OpenSpec.ofChange fnExactBallotNextSpec)

/-- ITS FALSE NEIGHBOUR: 'it returns false'. Refute it at one input. -/
def fnExactBallotNextWrong : ChangeSpec := { name := "fnExactBallotNext", fn := fun _ => fun
  | [d1, d2] => { results := [.lit (.bool false)], args := [d1, d2] }
  | _ => none }
def FnExactBallotNextWrongFalsely : Prop := fnExactBallotNextRow.holds Try.pinned (OpenSpec.ofChange fnExactBallotNextWrong)

/- THE SECOND FORM. 'bulk': how many values and letters a reading holds, each counted each time it is reached (what is shared counts as often as it is met; a slice's spare places count too). A statement '..UptoSaid' is the law's where the arguments, and the package variables that the reading takes, are together of bulk at most 1048576: NARROWER than '..Said'. Prove '..Said' where nothing that the law and all that it calls make is longer than what came in: it says more and counts as full. Else prove '..UptoSaid'. A law counts once. -/
mutual
def uptoBulk {H : Type} : DataW H → Nat
  | .lit (.string bytes) => bytes.length + 1
  | .lit _ => 1
  | .nil => 1
  | .ptr d => uptoBulk d + 1
  | .slice elems spare => uptoBulkAll elems + uptoBulkAll spare + 1
  | .agg parts => uptoBulkAll parts + 1
  | .iface _ d => uptoBulk d + 1
  | .map entries => uptoBulkEntries entries + 1
  | .held _ => 1
def uptoBulkAll {H : Type} : List (DataW H) → Nat
  | [] => 0
  | d :: r => uptoBulk d + uptoBulkAll r
def uptoBulkEntries {H : Type} : List (Lit × DataW H) → Nat
  | [] => 0
  | x :: r => uptoBulkEntry x + uptoBulkEntries r
def uptoBulkEntry {H : Type} : Lit × DataW H → Nat
  | (.string bytes, d) => bytes.length + uptoBulk d + 1
  | (_, d) => uptoBulk d + 1
 end
def uptoSmall : (H : Type) → List (DataW H) → Bool := fun _ ds => decide (uptoBulkAll ds ≤ 1048576)
def OpenSpec.upto (s : _root_.Go.ChangeSpec) : _root_.Go.OpenSpec := { _root_.Go.OpenSpec.ofChange s with cond := some uptoSmall }

/-- 'laws.FnBallot', WHERE WHAT IT READS IS OF BULK AT MOST 1048576: true; the input reads as it did. -/
def fnBallotUptoRow : OpenClaim := { program := "ytdikcenhakfheaa", sum := "c3e9deeeaadef27e845df7e273fbb33919bea88545f3b787359987b66cc7b2f8", func := "loop.example/leaderlesslog/laws.FnBallot", spec := "fnBallot", apart := false, narrowed := true }
def FnBallotUptoSaid : Prop := fnBallotUptoRow.holds Try.pinned (OpenSpec.upto fnBallotSpec)

/-- 'laws.FnBallotNext', WHERE WHAT IT READS IS OF BULK AT MOST 1048576: true; the input reads as it did. -/
def fnBallotNextUptoRow : OpenClaim := { program := "ytdikcenhakfheaa", sum := "c3e9deeeaadef27e845df7e273fbb33919bea88545f3b787359987b66cc7b2f8", func := "loop.example/leaderlesslog/laws.FnBallotNext", spec := "fnBallotNext", apart := false, narrowed := true }
def FnBallotNextUptoSaid : Prop := fnBallotNextUptoRow.holds Try.pinned (OpenSpec.upto fnBallotNextSpec)

/-- 'laws.FnBallotNextOther', WHERE WHAT IT READS IS OF BULK AT MOST 1048576: true; the input reads as it did. -/
def fnBallotNextOtherUptoRow : OpenClaim := { program := "ytdikcenhakfheaa", sum := "c3e9deeeaadef27e845df7e273fbb33919bea88545f3b787359987b66cc7b2f8", func := "loop.example/leaderlesslog/laws.FnBallotNextOther", spec := "fnBallotNextOther", apart := false, narrowed := true }
def FnBallotNextOtherUptoSaid : Prop := fnBallotNextOtherUptoRow.holds Try.pinned (OpenSpec.upto fnBallotNextOtherSpec)

/-- 'laws.FnExactBallotOf', WHERE WHAT IT READS IS OF BULK AT MOST 1048576: true; the input reads as it did. -/
def fnExactBallotOfUptoRow : OpenClaim := { program := "ytdikcenhakfheaa", sum := "c3e9deeeaadef27e845df7e273fbb33919bea88545f3b787359987b66cc7b2f8", func := "loop.example/leaderlesslog/laws.FnExactBallotOf", spec := "fnExactBallotOf", apart := false, narrowed := true }
def FnExactBallotOfUptoSaid : Prop := fnExactBallotOfUptoRow.holds Try.pinned (OpenSpec.upto fnExactBallotOfSpec)

/-- 'laws.FnExactBallotNext', WHERE WHAT IT READS IS OF BULK AT MOST 1048576: true; the input reads as it did. -/
def fnExactBallotNextUptoRow : OpenClaim := { program := "ytdikcenhakfheaa", sum := "c3e9deeeaadef27e845df7e273fbb33919bea88545f3b787359987b66cc7b2f8", func := "loop.example/leaderlesslog/laws.FnExactBallotNext", spec := "fnExactBallotNext", apart := false, narrowed := true }
def FnExactBallotNextUptoSaid : Prop := fnExactBallotNextUptoRow.holds Try.pinned (OpenSpec.upto fnExactBallotNextSpec)

end Rows
end Go.Proofs.Ytdikcenhakfheaa
