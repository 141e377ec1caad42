/-
  No cell of these rows narrows 'for every input' (looked for: loops, veiled, ifaces, maps, wideKeys, modest, calm, conditions, laid).
  DERIVED. THE GIVEN ROWS OF THIS SEAT. 4 by the template 'for every input the law returns true; each argument reads behind the call as it read before'; 0 by the template 'total and deterministic' (their statements: YtigaepbhbfpijaaTotals.lean).
  GIVEN WITH THE SEED: the statements are not yours to turn. If you find one false, say at which input.
  Laid BY PROGRAM, IN A SANDBOX (cutbox-rows.mjs): the forced cells as the released guide's own fill.sh prints them over the translation 10be8664a7f3f39e… (all of the seat's roots in one cut). By AI agents, Wed Nov 11 2026. No macro, syntax, notation, axiom, sorry.
-/
import Derived.Test.YtigaepbhbfpijaaChecked
import GoSem.Claim
import GoSem.ClaimJoined
import GoSem.ClaimMapViews
import Derived.JoinedTies
import Derived.KernelRfl
namespace Go.Proofs.Ytigaepbhbfpijaa
/- THE CELL 'sum', in the pinned program and in every row, IS THE sha256 OF THE DUMP (.gsa) THAT YtigaepbhbfpijaaProg.lean LOADS. Nothing in Lean hashes anything: it is a label: what it is worth is what the hold of that sum in a sandbox is worth. -/
noncomputable def Try.pinned : Pinned := { name := "ytigaepbhbfpijaa", sum := "10be8664a7f3f39e7eb716a2f538f7bf9400d6e49027c2e3a94a9e5187acda0c", checked := Try.checked }
namespace Rows
def none {H : Type} : Left H := { results := [], args := [] }

/-- 'laws.FnWithinBoth': WHATEVER THE INPUT: true; the input reads as it did. -/
def fnWithinBothSpec : ChangeSpec := { name := "fnWithinBoth", fn := fun _ => fun
  | [d] => { results := [.lit (.bool true)], args := [d] }
  | _ => none }
def fnWithinBothRow : OpenClaim := { program := "ytigaepbhbfpijaa", sum := "10be8664a7f3f39e7eb716a2f538f7bf9400d6e49027c2e3a94a9e5187acda0c", func := "loop.example/leaderlesslog/laws.FnWithinBoth", spec := "fnWithinBoth", apart := false }
def FnWithinBothSaid : Prop := fnWithinBothRow.holds Try.pinned (OpenSpec.ofChange fnWithinBothSpec)

/-- ITS FALSE NEIGHBOUR: 'it returns false'. Refute it at one input. -/
def fnWithinBothWrong : ChangeSpec := { name := "fnWithinBoth", fn := fun _ => fun
  | [d] => { results := [.lit (.bool false)], args := [d] }
  | _ => none }
def FnWithinBothWrongFalsely : Prop := fnWithinBothRow.holds Try.pinned (OpenSpec.ofChange fnWithinBothWrong)

/-- 'laws.FnDepsPart': WHATEVER THE INPUT: true; the input reads as it did. -/
def fnDepsPartSpec : ChangeSpec := { name := "fnDepsPart", fn := fun _ => fun
  | [d1, d2] => { results := [.lit (.bool true)], args := [d1, d2] }
  | _ => none }
def fnDepsPartRow : OpenClaim := { program := "ytigaepbhbfpijaa", sum := "10be8664a7f3f39e7eb716a2f538f7bf9400d6e49027c2e3a94a9e5187acda0c", func := "loop.example/leaderlesslog/laws.FnDepsPart", spec := "fnDepsPart", apart := false }
def FnDepsPartSaid : Prop := fnDepsPartRow.holds Try.pinned (OpenSpec.ofChange fnDepsPartSpec)

/-- ITS FALSE NEIGHBOUR: 'it returns false'. Refute it at one input. -/
def fnDepsPartWrong : ChangeSpec := { name := "fnDepsPart", fn := fun _ => fun
  | [d1, d2] => { results := [.lit (.bool false)], args := [d1, d2] }
  | _ => none }
def FnDepsPartWrongFalsely : Prop := fnDepsPartRow.holds Try.pinned (OpenSpec.ofChange fnDepsPartWrong)

/-- 'laws.FnExactDepsValid': WHATEVER THE INPUT: true; the input reads as it did. -/
def fnExactDepsValidSpec : ChangeSpec := { name := "fnExactDepsValid", fn := fun _ => fun
  | [d] => { results := [.lit (.bool true)], args := [d] }
  | _ => none }
def fnExactDepsValidRow : OpenClaim := { program := "ytigaepbhbfpijaa", sum := "10be8664a7f3f39e7eb716a2f538f7bf9400d6e49027c2e3a94a9e5187acda0c", func := "loop.example/leaderlesslog/laws.FnExactDepsValid", spec := "fnExactDepsValid", apart := false }
def FnExactDepsValidSaid : Prop := fnExactDepsValidRow.holds Try.pinned (OpenSpec.ofChange fnExactDepsValidSpec)

/-- ITS FALSE NEIGHBOUR: 'it returns false'. Refute it at one input. -/
def fnExactDepsValidWrong : ChangeSpec := { name := "fnExactDepsValid", fn := fun _ => fun
  | [d] => { results := [.lit (.bool false)], args := [d] }
  | _ => none }
def FnExactDepsValidWrongFalsely : Prop := fnExactDepsValidRow.holds Try.pinned (OpenSpec.ofChange fnExactDepsValidWrong)

/-- 'laws.FnExactDepsWithin': WHATEVER THE INPUT: true; the input reads as it did. -/
def fnExactDepsWithinSpec : ChangeSpec := { name := "fnExactDepsWithin", fn := fun _ => fun
  | [d1, d2] => { results := [.lit (.bool true)], args := [d1, d2] }
  | _ => none }
def fnExactDepsWithinRow : OpenClaim := { program := "ytigaepbhbfpijaa", sum := "10be8664a7f3f39e7eb716a2f538f7bf9400d6e49027c2e3a94a9e5187acda0c", func := "loop.example/leaderlesslog/laws.FnExactDepsWithin", spec := "fnExactDepsWithin", apart := false }
def FnExactDepsWithinSaid : Prop := fnExactDepsWithinRow.holds Try.pinned (OpenSpec.ofChange fnExactDepsWithinSpec)

/-- ITS FALSE NEIGHBOUR: 'it returns false'. Refute it at one input. -/
def fnExactDepsWithinWrong : ChangeSpec := { name := "fnExactDepsWithin", fn := fun _ => fun
  | [d1, d2] => { results := [.lit (.bool false)], args := [d1, d2] }
  | _ => none }
def FnExactDepsWithinWrongFalsely : Prop := fnExactDepsWithinRow.holds Try.pinned (OpenSpec.ofChange fnExactDepsWithinWrong)

/- THE SECOND FORM. 'bulk': how many values and letters a reading holds, each counted each time it is reached (what is shared counts as often as it is met; a slice's spare places count too). A statement '..UptoSaid' is the law's where the arguments, and the package variables that the reading takes, are together of bulk at most 1048576: NARROWER than '..Said'. Prove '..Said' where nothing that the law and all that it calls make is longer than what came in: it says more and counts as full. Else prove '..UptoSaid'. A law counts once. -/
mutual
def uptoBulk {H : Type} : DataW H → Nat
  | .lit (.string bytes) => bytes.length + 1
  | .lit _ => 1
  | .nil => 1
  | .ptr d => uptoBulk d + 1
  | .slice elems spare => uptoBulkAll elems + uptoBulkAll spare + 1
  | .agg parts => uptoBulkAll parts + 1
  | .iface _ d => uptoBulk d + 1
  | .map entries => uptoBulkEntries entries + 1
  | .held _ => 1
def uptoBulkAll {H : Type} : List (DataW H) → Nat
  | [] => 0
  | d :: r => uptoBulk d + uptoBulkAll r
def uptoBulkEntries {H : Type} : List (Lit × DataW H) → Nat
  | [] => 0
  | x :: r => uptoBulkEntry x + uptoBulkEntries r
def uptoBulkEntry {H : Type} : Lit × DataW H → Nat
  | (.string bytes, d) => bytes.length + uptoBulk d + 1
  | (_, d) => uptoBulk d + 1
 end
def uptoSmall : (H : Type) → List (DataW H) → Bool := fun _ ds => decide (uptoBulkAll ds ≤ 1048576)
def OpenSpec.upto (s : _root_.Go.ChangeSpec) : _root_.Go.OpenSpec := { _root_.Go.OpenSpec.ofChange s with cond := some uptoSmall }

/-- 'laws.FnWithinBoth', WHERE WHAT IT READS IS OF BULK AT MOST 1048576: true; the input reads as it did. -/
def fnWithinBothUptoRow : OpenClaim := { program := "ytigaepbhbfpijaa", sum := "10be8664a7f3f39e7eb716a2f538f7bf9400d6e49027c2e3a94a9e5187acda0c", func := "loop.example/leaderlesslog/laws.FnWithinBoth", spec := "fnWithinBoth", apart := false, narrowed := true }
def FnWithinBothUptoSaid : Prop := fnWithinBothUptoRow.holds Try.pinned (OpenSpec.upto fnWithinBothSpec)

/-- 'laws.FnDepsPart', WHERE WHAT IT READS IS OF BULK AT MOST 1048576: true; the input reads as it did. -/
def fnDepsPartUptoRow : OpenClaim := { program := "ytigaepbhbfpijaa", sum := "10be8664a7f3f39e7eb716a2f538f7bf9400d6e49027c2e3a94a9e5187acda0c", func := "loop.example/leaderlesslog/laws.FnDepsPart", spec := "fnDepsPart", apart := false, narrowed := true }
def FnDepsPartUptoSaid : Prop := fnDepsPartUptoRow.holds Try.pinned (OpenSpec.upto fnDepsPartSpec)

/-- 'laws.FnExactDepsValid', WHERE WHAT IT READS IS OF BULK AT MOST 1048576: true; the input reads as it did. -/
def fnExactDepsValidUptoRow : OpenClaim := { program := "ytigaepbhbfpijaa", sum := "10be8664a7f3f39e7eb716a2f538f7bf9400d6e49027c2e3a94a9e5187acda0c", func := "loop.example/leaderlesslog/laws.FnExactDepsValid", spec := "fnExactDepsValid", apart := false, narrowed := true }
def FnExactDepsValidUptoSaid : Prop := fnExactDepsValidUptoRow.holds Try.pinned (OpenSpec.upto fnExactDepsValidSpec)

/-- 'laws.FnExactDepsWithin', WHERE WHAT IT READS IS OF BULK AT MOST 1048576: true; the input reads as it did. -/
def fnExactDepsWithinUptoRow : OpenClaim := { program := "ytigaepbhbfpijaa", sum := "10be8664a7f3f39e7eb716a2f538f7bf9400d6e49027c2e3a94a9e5187acda0c", func := "loop.example/leaderlesslog/laws.FnExactDepsWithin", spec := "fnExactDepsWithin", apart := false, narrowed := true }
def FnExactDepsWithinUptoSaid : Prop := fnExactDepsWithinUptoRow.holds Try.pinned (OpenSpec.upto fnExactDepsWithinSpec)

end Rows
end Go.Proofs.Ytigaepbhbfpijaa
