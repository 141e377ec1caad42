/-
  No cell of these rows narrows 'for every input' (looked for: loops, veiled, ifaces, maps, wideKeys, modest, calm, conditions, laid).
  DERIVED. THE GIVEN ROWS OF THIS SEAT. 8 by the template 'for every input the law returns true; each argument reads behind the call as it read before'; 0 by the template 'total and deterministic' (their statements: YtoepimmkebbgcaaTotals.lean).
  GIVEN WITH THE SEED: the statements are not yours to turn. If you find one false, say at which input.
  Laid BY PROGRAM, IN A SANDBOX (cutbox-rows.mjs): the forced cells as the released guide's own fill.sh prints them over the translation 24965cb7b83f732f… (all of the seat's roots in one cut). By AI agents, Wed Nov 11 2026. No macro, syntax, notation, axiom, sorry.
-/
import Derived.Test.YtoepimmkebbgcaaChecked
import GoSem.Claim
import GoSem.ClaimJoined
import GoSem.ClaimMapViews
import Derived.JoinedTies
import Derived.KernelRfl
namespace Go.Proofs.Ytoepimmkebbgcaa
/- THE CELL 'sum', in the pinned program and in every row, IS THE sha256 OF THE DUMP (.gsa) THAT YtoepimmkebbgcaaProg.lean LOADS. Nothing in Lean hashes anything: it is a label: what it is worth is what the hold of that sum in a sandbox is worth. -/
noncomputable def Try.pinned : Pinned := { name := "ytoepimmkebbgcaa", sum := "24965cb7b83f732f5a679510090a24c8bdd02b711b014c7ecbe46f7f1a691f2e", checked := Try.checked }
namespace Rows
def none {H : Type} : Left H := { results := [], args := [] }

/-- 'laws.FnBefore': WHATEVER THE INPUT: true; the input reads as it did. -/
def fnBeforeSpec : ChangeSpec := { name := "fnBefore", fn := fun _ => fun
  | [d] => { results := [.lit (.bool true)], args := [d] }
  | _ => none }
def fnBeforeRow : OpenClaim := { program := "ytoepimmkebbgcaa", sum := "24965cb7b83f732f5a679510090a24c8bdd02b711b014c7ecbe46f7f1a691f2e", func := "loop.example/leaderlesslog/laws.FnBefore", spec := "fnBefore", apart := false }
def FnBeforeSaid : Prop := fnBeforeRow.holds Try.pinned (OpenSpec.ofChange fnBeforeSpec)

/-- ITS FALSE NEIGHBOUR: 'it returns false'. Refute it at one input. -/
def fnBeforeWrong : ChangeSpec := { name := "fnBefore", fn := fun _ => fun
  | [d] => { results := [.lit (.bool false)], args := [d] }
  | _ => none }
def FnBeforeWrongFalsely : Prop := fnBeforeRow.holds Try.pinned (OpenSpec.ofChange fnBeforeWrong)

/-- 'laws.FnBeforeNumber': WHATEVER THE INPUT: true; the input reads as it did. -/
def fnBeforeNumberSpec : ChangeSpec := { name := "fnBeforeNumber", fn := fun _ => fun
  | [d] => { results := [.lit (.bool true)], args := [d] }
  | _ => none }
def fnBeforeNumberRow : OpenClaim := { program := "ytoepimmkebbgcaa", sum := "24965cb7b83f732f5a679510090a24c8bdd02b711b014c7ecbe46f7f1a691f2e", func := "loop.example/leaderlesslog/laws.FnBeforeNumber", spec := "fnBeforeNumber", apart := false }
def FnBeforeNumberSaid : Prop := fnBeforeNumberRow.holds Try.pinned (OpenSpec.ofChange fnBeforeNumberSpec)

/-- ITS FALSE NEIGHBOUR: 'it returns false'. Refute it at one input. -/
def fnBeforeNumberWrong : ChangeSpec := { name := "fnBeforeNumber", fn := fun _ => fun
  | [d] => { results := [.lit (.bool false)], args := [d] }
  | _ => none }
def FnBeforeNumberWrongFalsely : Prop := fnBeforeNumberRow.holds Try.pinned (OpenSpec.ofChange fnBeforeNumberWrong)

/-- 'laws.FnSort': WHATEVER THE INPUT: true; the input reads as it did. -/
def fnSortSpec : ChangeSpec := { name := "fnSort", fn := fun _ => fun
  | [d] => { results := [.lit (.bool true)], args := [d] }
  | _ => none }
def fnSortRow : OpenClaim := { program := "ytoepimmkebbgcaa", sum := "24965cb7b83f732f5a679510090a24c8bdd02b711b014c7ecbe46f7f1a691f2e", func := "loop.example/leaderlesslog/laws.FnSort", spec := "fnSort", inPlace := ["slices.overlaps[loop.example/leaderlesslog/impl.Id]"], unfollowed := true, recurses := true, apart := false }
def FnSortSaid : Prop := fnSortRow.holds Try.pinned (OpenSpec.ofChange fnSortSpec)

/-- ITS FALSE NEIGHBOUR: 'it returns false'. Refute it at one input. -/
def fnSortWrong : ChangeSpec := { name := "fnSort", fn := fun _ => fun
  | [d] => { results := [.lit (.bool false)], args := [d] }
  | _ => none }
def FnSortWrongFalsely : Prop := fnSortRow.holds Try.pinned (OpenSpec.ofChange fnSortWrong)

/-- 'laws.FnSortTwice': WHATEVER THE INPUT: true; the input reads as it did. -/
def fnSortTwiceSpec : ChangeSpec := { name := "fnSortTwice", fn := fun _ => fun
  | [d] => { results := [.lit (.bool true)], args := [d] }
  | _ => none }
def fnSortTwiceRow : OpenClaim := { program := "ytoepimmkebbgcaa", sum := "24965cb7b83f732f5a679510090a24c8bdd02b711b014c7ecbe46f7f1a691f2e", func := "loop.example/leaderlesslog/laws.FnSortTwice", spec := "fnSortTwice", inPlace := ["slices.overlaps[loop.example/leaderlesslog/impl.Id]"], unfollowed := true, recurses := true, apart := false }
def FnSortTwiceSaid : Prop := fnSortTwiceRow.holds Try.pinned (OpenSpec.ofChange fnSortTwiceSpec)

/-- ITS FALSE NEIGHBOUR: 'it returns false'. Refute it at one input. -/
def fnSortTwiceWrong : ChangeSpec := { name := "fnSortTwice", fn := fun _ => fun
  | [d] => { results := [.lit (.bool false)], args := [d] }
  | _ => none }
def FnSortTwiceWrongFalsely : Prop := fnSortTwiceRow.holds Try.pinned (OpenSpec.ofChange fnSortTwiceWrong)

/-- 'laws.FnIdPart': WHATEVER THE INPUT: true; the input reads as it did. -/
def fnIdPartSpec : ChangeSpec := { name := "fnIdPart", fn := fun _ => fun
  | [d] => { results := [.lit (.bool true)], args := [d] }
  | _ => none }
def fnIdPartRow : OpenClaim := { program := "ytoepimmkebbgcaa", sum := "24965cb7b83f732f5a679510090a24c8bdd02b711b014c7ecbe46f7f1a691f2e", func := "loop.example/leaderlesslog/laws.FnIdPart", spec := "fnIdPart", apart := false }
def FnIdPartSaid : Prop := fnIdPartRow.holds Try.pinned (OpenSpec.ofChange fnIdPartSpec)

/-- ITS FALSE NEIGHBOUR: 'it returns false'. Refute it at one input. -/
def fnIdPartWrong : ChangeSpec := { name := "fnIdPart", fn := fun _ => fun
  | [d] => { results := [.lit (.bool false)], args := [d] }
  | _ => none }
def FnIdPartWrongFalsely : Prop := fnIdPartRow.holds Try.pinned (OpenSpec.ofChange fnIdPartWrong)

/-- 'laws.FnExactIdValid': WHATEVER THE INPUT: true; the input reads as it did. -/
def fnExactIdValidSpec : ChangeSpec := { name := "fnExactIdValid", fn := fun _ => fun
  | [d] => { results := [.lit (.bool true)], args := [d] }
  | _ => none }
def fnExactIdValidRow : OpenClaim := { program := "ytoepimmkebbgcaa", sum := "24965cb7b83f732f5a679510090a24c8bdd02b711b014c7ecbe46f7f1a691f2e", func := "loop.example/leaderlesslog/laws.FnExactIdValid", spec := "fnExactIdValid", apart := false }
def FnExactIdValidSaid : Prop := fnExactIdValidRow.holds Try.pinned (OpenSpec.ofChange fnExactIdValidSpec)

/-- ITS FALSE NEIGHBOUR: 'it returns false'. Refute it at one input. -/
def fnExactIdValidWrong : ChangeSpec := { name := "fnExactIdValid", fn := fun _ => fun
  | [d] => { results := [.lit (.bool false)], args := [d] }
  | _ => none }
def FnExactIdValidWrongFalsely : Prop := fnExactIdValidRow.holds Try.pinned (OpenSpec.ofChange fnExactIdValidWrong)

/-- 'laws.FnExactIdBefore': WHATEVER THE INPUT: true; the input reads as it did. -/
def fnExactIdBeforeSpec : ChangeSpec := { name := "fnExactIdBefore", fn := fun _ => fun
  | [d1, d2] => { results := [.lit (.bool true)], args := [d1, d2] }
  | _ => none }
def fnExactIdBeforeRow : OpenClaim := { program := "ytoepimmkebbgcaa", sum := "24965cb7b83f732f5a679510090a24c8bdd02b711b014c7ecbe46f7f1a691f2e", func := "loop.example/leaderlesslog/laws.FnExactIdBefore", spec := "fnExactIdBefore", apart := false }
def FnExactIdBeforeSaid : Prop := fnExactIdBeforeRow.holds Try.pinned (OpenSpec.ofChange fnExactIdBeforeSpec)

/-- ITS FALSE NEIGHBOUR: 'it returns false'. Refute it at one input. -/
def fnExactIdBeforeWrong : ChangeSpec := { name := "fnExactIdBefore", fn := fun _ => fun
  | [d1, d2] => { results := [.lit (.bool false)], args := [d1, d2] }
  | _ => none }
def FnExactIdBeforeWrongFalsely : Prop := fnExactIdBeforeRow.holds Try.pinned (OpenSpec.ofChange fnExactIdBeforeWrong)

/-- 'laws.FnExactIdsSort': WHATEVER THE INPUT: true; the input reads as it did. -/
def fnExactIdsSortSpec : ChangeSpec := { name := "fnExactIdsSort", fn := fun _ => fun
  | [d] => { results := [.lit (.bool true)], args := [d] }
  | _ => none }
def fnExactIdsSortRow : OpenClaim := { program := "ytoepimmkebbgcaa", sum := "24965cb7b83f732f5a679510090a24c8bdd02b711b014c7ecbe46f7f1a691f2e", func := "loop.example/leaderlesslog/laws.FnExactIdsSort", spec := "fnExactIdsSort", inPlace := ["slices.overlaps[loop.example/leaderlesslog/impl.Id]"], unfollowed := true, recurses := true, apart := false }
def FnExactIdsSortSaid : Prop := fnExactIdsSortRow.holds Try.pinned (OpenSpec.ofChange fnExactIdsSortSpec)

/-- ITS FALSE NEIGHBOUR: 'it returns false'. Refute it at one input. -/
def fnExactIdsSortWrong : ChangeSpec := { name := "fnExactIdsSort", fn := fun _ => fun
  | [d] => { results := [.lit (.bool false)], args := [d] }
  | _ => none }
def FnExactIdsSortWrongFalsely : Prop := fnExactIdsSortRow.holds Try.pinned (OpenSpec.ofChange fnExactIdsSortWrong)

/- THE SECOND FORM. 'bulk': how many values and letters a reading holds, each counted each time it is reached (what is shared counts as often as it is met; a slice's spare places count too). A statement '..UptoSaid' is the law's where the arguments, and the package variables that the reading takes, are together of bulk at most 1048576: NARROWER than '..Said'. Prove '..Said' where nothing that the law and all that it calls make is longer than what came in: it says more and counts as full. Else prove '..UptoSaid'. A law counts once. -/
mutual
def uptoBulk {H : Type} : DataW H → Nat
  | .lit (.string bytes) => bytes.length + 1
  | .lit _ => 1
  | .nil => 1
  | .ptr d => uptoBulk d + 1
  | .slice elems spare => uptoBulkAll elems + uptoBulkAll spare + 1
  | .agg parts => uptoBulkAll parts + 1
  | .iface _ d => uptoBulk d + 1
  | .map entries => uptoBulkEntries entries + 1
  | .held _ => 1
def uptoBulkAll {H : Type} : List (DataW H) → Nat
  | [] => 0
  | d :: r => uptoBulk d + uptoBulkAll r
def uptoBulkEntries {H : Type} : List (Lit × DataW H) → Nat
  | [] => 0
  | x :: r => uptoBulkEntry x + uptoBulkEntries r
def uptoBulkEntry {H : Type} : Lit × DataW H → Nat
  | (.string bytes, d) => bytes.length + uptoBulk d + 1
  | (_, d) => uptoBulk d + 1
 end
def uptoSmall : (H : Type) → List (DataW H) → Bool := fun _ ds => decide (uptoBulkAll ds ≤ 1048576)
def OpenSpec.upto (s : _root_.Go.ChangeSpec) : _root_.Go.OpenSpec := { _root_.Go.OpenSpec.ofChange s with cond := some uptoSmall }

/-- 'laws.FnBefore', WHERE WHAT IT READS IS OF BULK AT MOST 1048576: true; the input reads as it did. -/
def fnBeforeUptoRow : OpenClaim := { program := "ytoepimmkebbgcaa", sum := "24965cb7b83f732f5a679510090a24c8bdd02b711b014c7ecbe46f7f1a691f2e", func := "loop.example/leaderlesslog/laws.FnBefore", spec := "fnBefore", apart := false, narrowed := true }
def FnBeforeUptoSaid : Prop := fnBeforeUptoRow.holds Try.pinned (OpenSpec.upto fnBeforeSpec)

/-- 'laws.FnBeforeNumber', WHERE WHAT IT READS IS OF BULK AT MOST 1048576: true; the input reads as it did. -/
def fnBeforeNumberUptoRow : OpenClaim := { program := "ytoepimmkebbgcaa", sum := "24965cb7b83f732f5a679510090a24c8bdd02b711b014c7ecbe46f7f1a691f2e", func := "loop.example/leaderlesslog/laws.FnBeforeNumber", spec := "fnBeforeNumber", apart := false, narrowed := true }
def FnBeforeNumberUptoSaid : Prop := fnBeforeNumberUptoRow.holds Try.pinned (OpenSpec.upto fnBeforeNumberSpec)

/-- 'laws.FnSort', WHERE WHAT IT READS IS OF BULK AT MOST 1048576: true; the input reads as it did. -/
def fnSortUptoRow : OpenClaim := { program := "ytoepimmkebbgcaa", sum := "24965cb7b83f732f5a679510090a24c8bdd02b711b014c7ecbe46f7f1a691f2e", func := "loop.example/leaderlesslog/laws.FnSort", spec := "fnSort", inPlace := ["slices.overlaps[loop.example/leaderlesslog/impl.Id]"], unfollowed := true, recurses := true, apart := false, narrowed := true }
def FnSortUptoSaid : Prop := fnSortUptoRow.holds Try.pinned (OpenSpec.upto fnSortSpec)

/-- 'laws.FnSortTwice', WHERE WHAT IT READS IS OF BULK AT MOST 1048576: true; the input reads as it did. -/
def fnSortTwiceUptoRow : OpenClaim := { program := "ytoepimmkebbgcaa", sum := "24965cb7b83f732f5a679510090a24c8bdd02b711b014c7ecbe46f7f1a691f2e", func := "loop.example/leaderlesslog/laws.FnSortTwice", spec := "fnSortTwice", inPlace := ["slices.overlaps[loop.example/leaderlesslog/impl.Id]"], unfollowed := true, recurses := true, apart := false, narrowed := true }
def FnSortTwiceUptoSaid : Prop := fnSortTwiceUptoRow.holds Try.pinned (OpenSpec.upto fnSortTwiceSpec)

/-- 'laws.FnIdPart', WHERE WHAT IT READS IS OF BULK AT MOST 1048576: true; the input reads as it did. -/
def fnIdPartUptoRow : OpenClaim := { program := "ytoepimmkebbgcaa", sum := "24965cb7b83f732f5a679510090a24c8bdd02b711b014c7ecbe46f7f1a691f2e", func := "loop.example/leaderlesslog/laws.FnIdPart", spec := "fnIdPart", apart := false, narrowed := true }
def FnIdPartUptoSaid : Prop := fnIdPartUptoRow.holds Try.pinned (OpenSpec.upto fnIdPartSpec)

/-- 'laws.FnExactIdValid', WHERE WHAT IT READS IS OF BULK AT MOST 1048576: true; the input reads as it did. -/
def fnExactIdValidUptoRow : OpenClaim := { program := "ytoepimmkebbgcaa", sum := "24965cb7b83f732f5a679510090a24c8bdd02b711b014c7ecbe46f7f1a691f2e", func := "loop.example/leaderlesslog/laws.FnExactIdValid", spec := "fnExactIdValid", apart := false, narrowed := true }
def FnExactIdValidUptoSaid : Prop := fnExactIdValidUptoRow.holds Try.pinned (OpenSpec.upto fnExactIdValidSpec)

/-- 'laws.FnExactIdBefore', WHERE WHAT IT READS IS OF BULK AT MOST 1048576: true; the input reads as it did. -/
def fnExactIdBeforeUptoRow : OpenClaim := { program := "ytoepimmkebbgcaa", sum := "24965cb7b83f732f5a679510090a24c8bdd02b711b014c7ecbe46f7f1a691f2e", func := "loop.example/leaderlesslog/laws.FnExactIdBefore", spec := "fnExactIdBefore", apart := false, narrowed := true }
def FnExactIdBeforeUptoSaid : Prop := fnExactIdBeforeUptoRow.holds Try.pinned (OpenSpec.upto fnExactIdBeforeSpec)

/-- 'laws.FnExactIdsSort', WHERE WHAT IT READS IS OF BULK AT MOST 1048576: true; the input reads as it did. -/
def fnExactIdsSortUptoRow : OpenClaim := { program := "ytoepimmkebbgcaa", sum := "24965cb7b83f732f5a679510090a24c8bdd02b711b014c7ecbe46f7f1a691f2e", func := "loop.example/leaderlesslog/laws.FnExactIdsSort", spec := "fnExactIdsSort", inPlace := ["slices.overlaps[loop.example/leaderlesslog/impl.Id]"], unfollowed := true, recurses := true, apart := false, narrowed := true }
def FnExactIdsSortUptoSaid : Prop := fnExactIdsSortUptoRow.holds Try.pinned (OpenSpec.upto fnExactIdsSortSpec)

end Rows
end Go.Proofs.Ytoepimmkebbgcaa
