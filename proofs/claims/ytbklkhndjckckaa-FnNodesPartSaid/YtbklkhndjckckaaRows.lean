/-
  No cell of these rows narrows 'for every input' (looked for: loops, veiled, ifaces, maps, wideKeys, modest, calm, conditions, laid).
  DERIVED. THE GIVEN ROWS OF THIS SEAT. 7 by the template 'for every input the law returns true; each argument reads behind the call as it read before'; 0 by the template 'total and deterministic' (their statements: YtbklkhndjckckaaTotals.lean).
  GIVEN WITH THE SEED: the statements are not yours to turn. If you find one false, say at which input.
  Laid BY PROGRAM, IN A SANDBOX (cutbox-rows.mjs): the forced cells as the released guide's own fill.sh prints them over the translation d942e8d13ebe5b79… (all of the seat's roots in one cut). By AI agents, Wed Nov 11 2026. No macro, syntax, notation, axiom, sorry.
-/
import Derived.Test.YtbklkhndjckckaaChecked
import GoSem.Claim
import GoSem.ClaimJoined
import GoSem.ClaimMapViews
import Derived.JoinedTies
import Derived.KernelRfl
namespace Go.Proofs.Ytbklkhndjckckaa
/- THE CELL 'sum', in the pinned program and in every row, IS THE sha256 OF THE DUMP (.gsa) THAT YtbklkhndjckckaaProg.lean LOADS. Nothing in Lean hashes anything: it is a label: what it is worth is what the hold of that sum in a sandbox is worth. -/
noncomputable def Try.pinned : Pinned := { name := "ytbklkhndjckckaa", sum := "d942e8d13ebe5b79c57a395b2ece2bbd6adf6e6dee57fdc48f9afb15ebf1189a", checked := Try.checked }
namespace Rows
def none {H : Type} : Left H := { results := [], args := [] }

/-- 'laws.FnOrder': WHATEVER THE INPUT: true; the input reads as it did. -/
def fnOrderSpec : ChangeSpec := { name := "fnOrder", fn := fun _ => fun
  | [d] => { results := [.lit (.bool true)], args := [d] }
  | _ => none }
def fnOrderRow : OpenClaim := { program := "ytbklkhndjckckaa", sum := "d942e8d13ebe5b79c57a395b2ece2bbd6adf6e6dee57fdc48f9afb15ebf1189a", func := "loop.example/leaderlesslog/laws.FnOrder", spec := "fnOrder", unfollowed := true, recurses := true, apart := false }
def FnOrderSaid : Prop := fnOrderRow.holds Try.pinned (OpenSpec.ofChange fnOrderSpec)

/-- ITS FALSE NEIGHBOUR: 'it returns false'. Refute it at one input. -/
def fnOrderWrong : ChangeSpec := { name := "fnOrder", fn := fun _ => fun
  | [d] => { results := [.lit (.bool false)], args := [d] }
  | _ => none }
def FnOrderWrongFalsely : Prop := fnOrderRow.holds Try.pinned (OpenSpec.ofChange fnOrderWrong)

/-- 'laws.FnOrderLess': WHATEVER THE INPUT: true; the input reads as it did. -/
def fnOrderLessSpec : ChangeSpec := { name := "fnOrderLess", fn := fun _ => fun
  | [d1, d2] => { results := [.lit (.bool true)], args := [d1, d2] }
  | _ => none }
def fnOrderLessRow : OpenClaim := { program := "ytbklkhndjckckaa", sum := "d942e8d13ebe5b79c57a395b2ece2bbd6adf6e6dee57fdc48f9afb15ebf1189a", func := "loop.example/leaderlesslog/laws.FnOrderLess", spec := "fnOrderLess", unfollowed := true, recurses := true, apart := false }
def FnOrderLessSaid : Prop := fnOrderLessRow.holds Try.pinned (OpenSpec.ofChange fnOrderLessSpec)

/-- ITS FALSE NEIGHBOUR: 'it returns false'. Refute it at one input. -/
def fnOrderLessWrong : ChangeSpec := { name := "fnOrderLess", fn := fun _ => fun
  | [d1, d2] => { results := [.lit (.bool false)], args := [d1, d2] }
  | _ => none }
def FnOrderLessWrongFalsely : Prop := fnOrderLessRow.holds Try.pinned (OpenSpec.ofChange fnOrderLessWrong)

/-- 'laws.FnNodesPart': WHATEVER THE INPUT: true; the input reads as it did. -/
def fnNodesPartSpec : ChangeSpec := { name := "fnNodesPart", fn := fun _ => fun
  | [d1, d2] => { results := [.lit (.bool true)], args := [d1, d2] }
  | _ => none }
def fnNodesPartRow : OpenClaim := { program := "ytbklkhndjckckaa", sum := "d942e8d13ebe5b79c57a395b2ece2bbd6adf6e6dee57fdc48f9afb15ebf1189a", func := "loop.example/leaderlesslog/laws.FnNodesPart", spec := "fnNodesPart", apart := false }
def FnNodesPartSaid : Prop := fnNodesPartRow.holds Try.pinned (OpenSpec.ofChange fnNodesPartSpec)

/-- ITS FALSE NEIGHBOUR: 'it returns false'. Refute it at one input. -/
def fnNodesPartWrong : ChangeSpec := { name := "fnNodesPart", fn := fun _ => fun
  | [d1, d2] => { results := [.lit (.bool false)], args := [d1, d2] }
  | _ => none }
def FnNodesPartWrongFalsely : Prop := fnNodesPartRow.holds Try.pinned (OpenSpec.ofChange fnNodesPartWrong)

/-- 'laws.FnOrderRank': WHATEVER THE INPUT: true; the input reads as it did. -/
def fnOrderRankSpec : ChangeSpec := { name := "fnOrderRank", fn := fun _ => fun
  | [d] => { results := [.lit (.bool true)], args := [d] }
  | _ => none }
def fnOrderRankRow : OpenClaim := { program := "ytbklkhndjckckaa", sum := "d942e8d13ebe5b79c57a395b2ece2bbd6adf6e6dee57fdc48f9afb15ebf1189a", func := "loop.example/leaderlesslog/laws.FnOrderRank", spec := "fnOrderRank", unfollowed := true, recurses := true, apart := false }
def FnOrderRankSaid : Prop := fnOrderRankRow.holds Try.pinned (OpenSpec.ofChange fnOrderRankSpec)

/-- ITS FALSE NEIGHBOUR: 'it returns false'. Refute it at one input. -/
def fnOrderRankWrong : ChangeSpec := { name := "fnOrderRank", fn := fun _ => fun
  | [d] => { results := [.lit (.bool false)], args := [d] }
  | _ => none }
def FnOrderRankWrongFalsely : Prop := fnOrderRankRow.holds Try.pinned (OpenSpec.ofChange fnOrderRankWrong)

/-- 'laws.FnExactNodesValid': WHATEVER THE INPUT: true; the input reads as it did. -/
def fnExactNodesValidSpec : ChangeSpec := { name := "fnExactNodesValid", fn := fun _ => fun
  | [d] => { results := [.lit (.bool true)], args := [d] }
  | _ => none }
def fnExactNodesValidRow : OpenClaim := { program := "ytbklkhndjckckaa", sum := "d942e8d13ebe5b79c57a395b2ece2bbd6adf6e6dee57fdc48f9afb15ebf1189a", func := "loop.example/leaderlesslog/laws.FnExactNodesValid", spec := "fnExactNodesValid", apart := false }
def FnExactNodesValidSaid : Prop := fnExactNodesValidRow.holds Try.pinned (OpenSpec.ofChange fnExactNodesValidSpec)

/-- ITS FALSE NEIGHBOUR: 'it returns false'. Refute it at one input. -/
def fnExactNodesValidWrong : ChangeSpec := { name := "fnExactNodesValid", fn := fun _ => fun
  | [d] => { results := [.lit (.bool false)], args := [d] }
  | _ => none }
def FnExactNodesValidWrongFalsely : Prop := fnExactNodesValidRow.holds Try.pinned (OpenSpec.ofChange fnExactNodesValidWrong)

/-- 'laws.FnExactNodesReady': WHATEVER THE INPUT: true; the input reads as it did. -/
def fnExactNodesReadySpec : ChangeSpec := { name := "fnExactNodesReady", fn := fun _ => fun
  | [d1, d2] => { results := [.lit (.bool true)], args := [d1, d2] }
  | _ => none }
def fnExactNodesReadyRow : OpenClaim := { program := "ytbklkhndjckckaa", sum := "d942e8d13ebe5b79c57a395b2ece2bbd6adf6e6dee57fdc48f9afb15ebf1189a", func := "loop.example/leaderlesslog/laws.FnExactNodesReady", spec := "fnExactNodesReady", unfollowed := true, recurses := true, apart := false }
def FnExactNodesReadySaid : Prop := fnExactNodesReadyRow.holds Try.pinned (OpenSpec.ofChange fnExactNodesReadySpec)

/-- ITS FALSE NEIGHBOUR: 'it returns false'. Refute it at one input. -/
def fnExactNodesReadyWrong : ChangeSpec := { name := "fnExactNodesReady", fn := fun _ => fun
  | [d1, d2] => { results := [.lit (.bool false)], args := [d1, d2] }
  | _ => none }
def FnExactNodesReadyWrongFalsely : Prop := fnExactNodesReadyRow.holds Try.pinned (OpenSpec.ofChange fnExactNodesReadyWrong)

/-- 'laws.FnExactNodesOrder': WHATEVER THE INPUT: true; the input reads as it did. -/
def fnExactNodesOrderSpec : ChangeSpec := { name := "fnExactNodesOrder", fn := fun _ => fun
  | [d] => { results := [.lit (.bool true)], args := [d] }
  | _ => none }
def fnExactNodesOrderRow : OpenClaim := { program := "ytbklkhndjckckaa", sum := "d942e8d13ebe5b79c57a395b2ece2bbd6adf6e6dee57fdc48f9afb15ebf1189a", func := "loop.example/leaderlesslog/laws.FnExactNodesOrder", spec := "fnExactNodesOrder", unfollowed := true, recurses := true, apart := false }
def FnExactNodesOrderSaid : Prop := fnExactNodesOrderRow.holds Try.pinned (OpenSpec.ofChange fnExactNodesOrderSpec)

/-- ITS FALSE NEIGHBOUR: 'it returns false'. Refute it at one input. -/
def fnExactNodesOrderWrong : ChangeSpec := { name := "fnExactNodesOrder", fn := fun _ => fun
  | [d] => { results := [.lit (.bool false)], args := [d] }
  | _ => none }
def FnExactNodesOrderWrongFalsely : Prop := fnExactNodesOrderRow.holds Try.pinned (OpenSpec.ofChange fnExactNodesOrderWrong)

/- THE SECOND FORM. 'bulk': how many values and letters a reading holds, each counted each time it is reached (what is shared counts as often as it is met; a slice's spare places count too). A statement '..UptoSaid' is the law's where the arguments, and the package variables that the reading takes, are together of bulk at most 1048576: NARROWER than '..Said'. Prove '..Said' where nothing that the law and all that it calls make is longer than what came in: it says more and counts as full. Else prove '..UptoSaid'. A law counts once. -/
mutual
def uptoBulk {H : Type} : DataW H → Nat
  | .lit (.string bytes) => bytes.length + 1
  | .lit _ => 1
  | .nil => 1
  | .ptr d => uptoBulk d + 1
  | .slice elems spare => uptoBulkAll elems + uptoBulkAll spare + 1
  | .agg parts => uptoBulkAll parts + 1
  | .iface _ d => uptoBulk d + 1
  | .map entries => uptoBulkEntries entries + 1
  | .held _ => 1
def uptoBulkAll {H : Type} : List (DataW H) → Nat
  | [] => 0
  | d :: r => uptoBulk d + uptoBulkAll r
def uptoBulkEntries {H : Type} : List (Lit × DataW H) → Nat
  | [] => 0
  | x :: r => uptoBulkEntry x + uptoBulkEntries r
def uptoBulkEntry {H : Type} : Lit × DataW H → Nat
  | (.string bytes, d) => bytes.length + uptoBulk d + 1
  | (_, d) => uptoBulk d + 1
 end
def uptoSmall : (H : Type) → List (DataW H) → Bool := fun _ ds => decide (uptoBulkAll ds ≤ 1048576)
def OpenSpec.upto (s : _root_.Go.ChangeSpec) : _root_.Go.OpenSpec := { _root_.Go.OpenSpec.ofChange s with cond := some uptoSmall }

/-- 'laws.FnOrder', WHERE WHAT IT READS IS OF BULK AT MOST 1048576: true; the input reads as it did. -/
def fnOrderUptoRow : OpenClaim := { program := "ytbklkhndjckckaa", sum := "d942e8d13ebe5b79c57a395b2ece2bbd6adf6e6dee57fdc48f9afb15ebf1189a", func := "loop.example/leaderlesslog/laws.FnOrder", spec := "fnOrder", unfollowed := true, recurses := true, apart := false, narrowed := true }
def FnOrderUptoSaid : Prop := fnOrderUptoRow.holds Try.pinned (OpenSpec.upto fnOrderSpec)

/-- 'laws.FnOrderLess', WHERE WHAT IT READS IS OF BULK AT MOST 1048576: true; the input reads as it did. -/
def fnOrderLessUptoRow : OpenClaim := { program := "ytbklkhndjckckaa", sum := "d942e8d13ebe5b79c57a395b2ece2bbd6adf6e6dee57fdc48f9afb15ebf1189a", func := "loop.example/leaderlesslog/laws.FnOrderLess", spec := "fnOrderLess", unfollowed := true, recurses := true, apart := false, narrowed := true }
def FnOrderLessUptoSaid : Prop := fnOrderLessUptoRow.holds Try.pinned (OpenSpec.upto fnOrderLessSpec)

/-- 'laws.FnNodesPart', WHERE WHAT IT READS IS OF BULK AT MOST 1048576: true; the input reads as it did. -/
def fnNodesPartUptoRow : OpenClaim := { program := "ytbklkhndjckckaa", sum := "d942e8d13ebe5b79c57a395b2ece2bbd6adf6e6dee57fdc48f9afb15ebf1189a", func := "loop.example/leaderlesslog/laws.FnNodesPart", spec := "fnNodesPart", apart := false, narrowed := true }
def FnNodesPartUptoSaid : Prop := fnNodesPartUptoRow.holds Try.pinned (OpenSpec.upto fnNodesPartSpec)

/-- 'laws.FnOrderRank', WHERE WHAT IT READS IS OF BULK AT MOST 1048576: true; the input reads as it did. -/
def fnOrderRankUptoRow : OpenClaim := { program := "ytbklkhndjckckaa", sum := "d942e8d13ebe5b79c57a395b2ece2bbd6adf6e6dee57fdc48f9afb15ebf1189a", func := "loop.example/leaderlesslog/laws.FnOrderRank", spec := "fnOrderRank", unfollowed := true, recurses := true, apart := false, narrowed := true }
def FnOrderRankUptoSaid : Prop := fnOrderRankUptoRow.holds Try.pinned (OpenSpec.upto fnOrderRankSpec)

/-- 'laws.FnExactNodesValid', WHERE WHAT IT READS IS OF BULK AT MOST 1048576: true; the input reads as it did. -/
def fnExactNodesValidUptoRow : OpenClaim := { program := "ytbklkhndjckckaa", sum := "d942e8d13ebe5b79c57a395b2ece2bbd6adf6e6dee57fdc48f9afb15ebf1189a", func := "loop.example/leaderlesslog/laws.FnExactNodesValid", spec := "fnExactNodesValid", apart := false, narrowed := true }
def FnExactNodesValidUptoSaid : Prop := fnExactNodesValidUptoRow.holds Try.pinned (OpenSpec.upto fnExactNodesValidSpec)

/-- 'laws.FnExactNodesReady', WHERE WHAT IT READS IS OF BULK AT MOST 1048576: true; the input reads as it did. -/
def fnExactNodesReadyUptoRow : OpenClaim := { program := "ytbklkhndjckckaa", sum := "d942e8d13ebe5b79c57a395b2ece2bbd6adf6e6dee57fdc48f9afb15ebf1189a", func := "loop.example/leaderlesslog/laws.FnExactNodesReady", spec := "fnExactNodesReady", unfollowed := true, recurses := true, apart := false, narrowed := true }
def FnExactNodesReadyUptoSaid : Prop := fnExactNodesReadyUptoRow.holds Try.pinned (OpenSpec.upto fnExactNodesReadySpec)

/-- 'laws.FnExactNodesOrder', WHERE WHAT IT READS IS OF BULK AT MOST 1048576: true; the input reads as it did. -/
def fnExactNodesOrderUptoRow : OpenClaim := { program := "ytbklkhndjckckaa", sum := "d942e8d13ebe5b79c57a395b2ece2bbd6adf6e6dee57fdc48f9afb15ebf1189a", func := "loop.example/leaderlesslog/laws.FnExactNodesOrder", spec := "fnExactNodesOrder", unfollowed := true, recurses := true, apart := false, narrowed := true }
def FnExactNodesOrderUptoSaid : Prop := fnExactNodesOrderUptoRow.holds Try.pinned (OpenSpec.upto fnExactNodesOrderSpec)

end Rows
end Go.Proofs.Ytbklkhndjckckaa
