/-
  No cell of these rows narrows 'for every input' (looked for: loops, veiled, ifaces, maps, wideKeys, modest, calm, conditions, laid).
  DERIVED. THE GIVEN ROWS OF THIS SEAT. 9 by the template 'for every input the law returns true; each argument reads behind the call as it read before'; 0 by the template 'total and deterministic' (their statements: YtpckhghcjedblaaTotals.lean).
  GIVEN WITH THE SEED: the statements are not yours to turn. If you find one false, say at which input.
  Laid BY PROGRAM, IN A SANDBOX (cutbox-rows.mjs): the forced cells as the released guide's own fill.sh prints them over the translation 491325850c9be9dc… (all of the seat's roots in one cut). By AI agents, Wed Nov 11 2026. No macro, syntax, notation, axiom, sorry.
-/
import Derived.Test.YtpckhghcjedblaaChecked
import GoSem.Claim
import GoSem.ClaimJoined
import GoSem.ClaimMapViews
import Derived.JoinedTies
import Derived.KernelRfl
namespace Go.Proofs.Ytpckhghcjedblaa
/- THE CELL 'sum', in the pinned program and in every row, IS THE sha256 OF THE DUMP (.gsa) THAT YtpckhghcjedblaaProg.lean LOADS. Nothing in Lean hashes anything: it is a label: what it is worth is what the hold of that sum in a sandbox is worth. -/
noncomputable def Try.pinned : Pinned := { name := "ytpckhghcjedblaa", sum := "491325850c9be9dcabd92ae7bb39af34ea4a6476380d264a125e7181cce7da03", checked := Try.checked }
namespace Rows
def none {H : Type} : Left H := { results := [], args := [] }

/-- 'laws.FnLogPut': WHATEVER THE INPUT: true; the input reads as it did. -/
def fnLogPutSpec : ChangeSpec := { name := "fnLogPut", fn := fun _ => fun
  | [d] => { results := [.lit (.bool true)], args := [d] }
  | _ => none }
def fnLogPutRow : OpenClaim := { program := "ytpckhghcjedblaa", sum := "491325850c9be9dcabd92ae7bb39af34ea4a6476380d264a125e7181cce7da03", func := "loop.example/leaderlesslog/laws.FnLogPut", spec := "fnLogPut", unfollowed := true, recurses := true, plainKeys := false, apart := false }
def FnLogPutSaid : Prop := fnLogPutRow.holds Try.pinned (OpenSpec.ofChange fnLogPutSpec)

/-- ITS FALSE NEIGHBOUR: 'it returns false'. Refute it at one input. -/
def fnLogPutWrong : ChangeSpec := { name := "fnLogPut", fn := fun _ => fun
  | [d] => { results := [.lit (.bool false)], args := [d] }
  | _ => none }
def FnLogPutWrongFalsely : Prop := fnLogPutRow.holds Try.pinned (OpenSpec.ofChange fnLogPutWrong)

/-- 'laws.FnLogPutTwice': WHATEVER THE INPUT: true; the input reads as it did. -/
def fnLogPutTwiceSpec : ChangeSpec := { name := "fnLogPutTwice", fn := fun _ => fun
  | [d] => { results := [.lit (.bool true)], args := [d] }
  | _ => none }
def fnLogPutTwiceRow : OpenClaim := { program := "ytpckhghcjedblaa", sum := "491325850c9be9dcabd92ae7bb39af34ea4a6476380d264a125e7181cce7da03", func := "loop.example/leaderlesslog/laws.FnLogPutTwice", spec := "fnLogPutTwice", unfollowed := true, recurses := true, plainKeys := false, apart := false }
def FnLogPutTwiceSaid : Prop := fnLogPutTwiceRow.holds Try.pinned (OpenSpec.ofChange fnLogPutTwiceSpec)

/-- ITS FALSE NEIGHBOUR: 'it returns false'. Refute it at one input. -/
def fnLogPutTwiceWrong : ChangeSpec := { name := "fnLogPutTwice", fn := fun _ => fun
  | [d] => { results := [.lit (.bool false)], args := [d] }
  | _ => none }
def FnLogPutTwiceWrongFalsely : Prop := fnLogPutTwiceRow.holds Try.pinned (OpenSpec.ofChange fnLogPutTwiceWrong)

/-- 'laws.FnLogFind': WHATEVER THE INPUT: true; the input reads as it did. -/
def fnLogFindSpec : ChangeSpec := { name := "fnLogFind", fn := fun _ => fun
  | [d] => { results := [.lit (.bool true)], args := [d] }
  | _ => none }
def fnLogFindRow : OpenClaim := { program := "ytpckhghcjedblaa", sum := "491325850c9be9dcabd92ae7bb39af34ea4a6476380d264a125e7181cce7da03", func := "loop.example/leaderlesslog/laws.FnLogFind", spec := "fnLogFind", plainKeys := false, apart := false }
def FnLogFindSaid : Prop := fnLogFindRow.holds Try.pinned (OpenSpec.ofChange fnLogFindSpec)

/-- ITS FALSE NEIGHBOUR: 'it returns false'. Refute it at one input. -/
def fnLogFindWrong : ChangeSpec := { name := "fnLogFind", fn := fun _ => fun
  | [d] => { results := [.lit (.bool false)], args := [d] }
  | _ => none }
def FnLogFindWrongFalsely : Prop := fnLogFindRow.holds Try.pinned (OpenSpec.ofChange fnLogFindWrong)

/-- 'laws.FnLogFindWhen': WHATEVER THE INPUT: true; the input reads as it did. -/
def fnLogFindWhenSpec : ChangeSpec := { name := "fnLogFindWhen", fn := fun _ => fun
  | [d] => { results := [.lit (.bool true)], args := [d] }
  | _ => none }
def fnLogFindWhenRow : OpenClaim := { program := "ytpckhghcjedblaa", sum := "491325850c9be9dcabd92ae7bb39af34ea4a6476380d264a125e7181cce7da03", func := "loop.example/leaderlesslog/laws.FnLogFindWhen", spec := "fnLogFindWhen", plainKeys := false, apart := false }
def FnLogFindWhenSaid : Prop := fnLogFindWhenRow.holds Try.pinned (OpenSpec.ofChange fnLogFindWhenSpec)

/-- ITS FALSE NEIGHBOUR: 'it returns false'. Refute it at one input. -/
def fnLogFindWhenWrong : ChangeSpec := { name := "fnLogFindWhen", fn := fun _ => fun
  | [d] => { results := [.lit (.bool false)], args := [d] }
  | _ => none }
def FnLogFindWhenWrongFalsely : Prop := fnLogFindWhenRow.holds Try.pinned (OpenSpec.ofChange fnLogFindWhenWrong)

/-- 'laws.FnLogPart': WHATEVER THE INPUT: true; the input reads as it did. -/
def fnLogPartSpec : ChangeSpec := { name := "fnLogPart", fn := fun _ => fun
  | [d1, d2] => { results := [.lit (.bool true)], args := [d1, d2] }
  | _ => none }
def fnLogPartRow : OpenClaim := { program := "ytpckhghcjedblaa", sum := "491325850c9be9dcabd92ae7bb39af34ea4a6476380d264a125e7181cce7da03", func := "loop.example/leaderlesslog/laws.FnLogPart", spec := "fnLogPart", plainKeys := false, apart := false }
def FnLogPartSaid : Prop := fnLogPartRow.holds Try.pinned (OpenSpec.ofChange fnLogPartSpec)

/-- ITS FALSE NEIGHBOUR: 'it returns false'. Refute it at one input. -/
def fnLogPartWrong : ChangeSpec := { name := "fnLogPart", fn := fun _ => fun
  | [d1, d2] => { results := [.lit (.bool false)], args := [d1, d2] }
  | _ => none }
def FnLogPartWrongFalsely : Prop := fnLogPartRow.holds Try.pinned (OpenSpec.ofChange fnLogPartWrong)

/-- 'laws.FnNextNumber': WHATEVER THE INPUT: true; the input reads as it did. -/
def fnNextNumberSpec : ChangeSpec := { name := "fnNextNumber", fn := fun _ => fun
  | [d] => { results := [.lit (.bool true)], args := [d] }
  | _ => none }
def fnNextNumberRow : OpenClaim := { program := "ytpckhghcjedblaa", sum := "491325850c9be9dcabd92ae7bb39af34ea4a6476380d264a125e7181cce7da03", func := "loop.example/leaderlesslog/laws.FnNextNumber", spec := "fnNextNumber", plainKeys := false, apart := false }
def FnNextNumberSaid : Prop := fnNextNumberRow.holds Try.pinned (OpenSpec.ofChange fnNextNumberSpec)

/-- ITS FALSE NEIGHBOUR: 'it returns false'. Refute it at one input. -/
def fnNextNumberWrong : ChangeSpec := { name := "fnNextNumber", fn := fun _ => fun
  | [d] => { results := [.lit (.bool false)], args := [d] }
  | _ => none }
def FnNextNumberWrongFalsely : Prop := fnNextNumberRow.holds Try.pinned (OpenSpec.ofChange fnNextNumberWrong)

/-- 'laws.FnExactLogFind': WHATEVER THE INPUT: true; the input reads as it did. -/
def fnExactLogFindSpec : ChangeSpec := { name := "fnExactLogFind", fn := fun _ => fun
  | [d1, d2] => { results := [.lit (.bool true)], args := [d1, d2] }
  | _ => none }
def fnExactLogFindRow : OpenClaim := { program := "ytpckhghcjedblaa", sum := "491325850c9be9dcabd92ae7bb39af34ea4a6476380d264a125e7181cce7da03", func := "loop.example/leaderlesslog/laws.FnExactLogFind", spec := "fnExactLogFind", plainKeys := false, apart := false }
def FnExactLogFindSaid : Prop := fnExactLogFindRow.holds Try.pinned (OpenSpec.ofChange fnExactLogFindSpec)

/-- ITS FALSE NEIGHBOUR: 'it returns false'. Refute it at one input. -/
def fnExactLogFindWrong : ChangeSpec := { name := "fnExactLogFind", fn := fun _ => fun
  | [d1, d2] => { results := [.lit (.bool false)], args := [d1, d2] }
  | _ => none }
def FnExactLogFindWrongFalsely : Prop := fnExactLogFindRow.holds Try.pinned (OpenSpec.ofChange fnExactLogFindWrong)

/-- 'laws.FnExactLogPut': WHATEVER THE INPUT: true; the input reads as it did. -/
def fnExactLogPutSpec : ChangeSpec := { name := "fnExactLogPut", fn := fun _ => fun
  | [d1, d2] => { results := [.lit (.bool true)], args := [d1, d2] }
  | _ => none }
def fnExactLogPutRow : OpenClaim := { program := "ytpckhghcjedblaa", sum := "491325850c9be9dcabd92ae7bb39af34ea4a6476380d264a125e7181cce7da03", func := "loop.example/leaderlesslog/laws.FnExactLogPut", spec := "fnExactLogPut", unfollowed := true, recurses := true, plainKeys := false, apart := false }
def FnExactLogPutSaid : Prop := fnExactLogPutRow.holds Try.pinned (OpenSpec.ofChange fnExactLogPutSpec)

/-- ITS FALSE NEIGHBOUR: 'it returns false'. Refute it at one input. -/
def fnExactLogPutWrong : ChangeSpec := { name := "fnExactLogPut", fn := fun _ => fun
  | [d1, d2] => { results := [.lit (.bool false)], args := [d1, d2] }
  | _ => none }
def FnExactLogPutWrongFalsely : Prop := fnExactLogPutRow.holds Try.pinned (OpenSpec.ofChange fnExactLogPutWrong)

/-- 'laws.FnExactNextNumber': WHATEVER THE INPUT: true; the input reads as it did. -/
def fnExactNextNumberSpec : ChangeSpec := { name := "fnExactNextNumber", fn := fun _ => fun
  | [d1, d2] => { results := [.lit (.bool true)], args := [d1, d2] }
  | _ => none }
def fnExactNextNumberRow : OpenClaim := { program := "ytpckhghcjedblaa", sum := "491325850c9be9dcabd92ae7bb39af34ea4a6476380d264a125e7181cce7da03", func := "loop.example/leaderlesslog/laws.FnExactNextNumber", spec := "fnExactNextNumber", plainKeys := false, apart := false }
def FnExactNextNumberSaid : Prop := fnExactNextNumberRow.holds Try.pinned (OpenSpec.ofChange fnExactNextNumberSpec)

/-- ITS FALSE NEIGHBOUR: 'it returns false'. Refute it at one input. -/
def fnExactNextNumberWrong : ChangeSpec := { name := "fnExactNextNumber", fn := fun _ => fun
  | [d1, d2] => { results := [.lit (.bool false)], args := [d1, d2] }
  | _ => none }
def FnExactNextNumberWrongFalsely : Prop := fnExactNextNumberRow.holds Try.pinned (OpenSpec.ofChange fnExactNextNumberWrong)

/- THE SECOND FORM. 'bulk': how many values and letters a reading holds, each counted each time it is reached (what is shared counts as often as it is met; a slice's spare places count too). A statement '..UptoSaid' is the law's where the arguments, and the package variables that the reading takes, are together of bulk at most 1048576: NARROWER than '..Said'. Prove '..Said' where nothing that the law and all that it calls make is longer than what came in: it says more and counts as full. Else prove '..UptoSaid'. A law counts once. -/
mutual
def uptoBulk {H : Type} : DataW H → Nat
  | .lit (.string bytes) => bytes.length + 1
  | .lit _ => 1
  | .nil => 1
  | .ptr d => uptoBulk d + 1
  | .slice elems spare => uptoBulkAll elems + uptoBulkAll spare + 1
  | .agg parts => uptoBulkAll parts + 1
  | .iface _ d => uptoBulk d + 1
  | .map entries => uptoBulkEntries entries + 1
  | .held _ => 1
def uptoBulkAll {H : Type} : List (DataW H) → Nat
  | [] => 0
  | d :: r => uptoBulk d + uptoBulkAll r
def uptoBulkEntries {H : Type} : List (Lit × DataW H) → Nat
  | [] => 0
  | x :: r => uptoBulkEntry x + uptoBulkEntries r
def uptoBulkEntry {H : Type} : Lit × DataW H → Nat
  | (.string bytes, d) => bytes.length + uptoBulk d + 1
  | (_, d) => uptoBulk d + 1
 end
def uptoSmall : (H : Type) → List (DataW H) → Bool := fun _ ds => decide (uptoBulkAll ds ≤ 1048576)
def OpenSpec.upto (s : _root_.Go.ChangeSpec) : _root_.Go.OpenSpec := { _root_.Go.OpenSpec.ofChange s with cond := some uptoSmall }

/-- 'laws.FnLogPut', WHERE WHAT IT READS IS OF BULK AT MOST 1048576: true; the input reads as it did. -/
def fnLogPutUptoRow : OpenClaim := { program := "ytpckhghcjedblaa", sum := "491325850c9be9dcabd92ae7bb39af34ea4a6476380d264a125e7181cce7da03", func := "loop.example/leaderlesslog/laws.FnLogPut", spec := "fnLogPut", unfollowed := true, recurses := true, plainKeys := false, apart := false, narrowed := true }
def FnLogPutUptoSaid : Prop := fnLogPutUptoRow.holds Try.pinned (OpenSpec.upto fnLogPutSpec)

/-- 'laws.FnLogPutTwice', WHERE WHAT IT READS IS OF BULK AT MOST 1048576: true; the input reads as it did. -/
def fnLogPutTwiceUptoRow : OpenClaim := { program := "ytpckhghcjedblaa", sum := "491325850c9be9dcabd92ae7bb39af34ea4a6476380d264a125e7181cce7da03", func := "loop.example/leaderlesslog/laws.FnLogPutTwice", spec := "fnLogPutTwice", unfollowed := true, recurses := true, plainKeys := false, apart := false, narrowed := true }
def FnLogPutTwiceUptoSaid : Prop := fnLogPutTwiceUptoRow.holds Try.pinned (OpenSpec.upto fnLogPutTwiceSpec)

/-- 'laws.FnLogFind', WHERE WHAT IT READS IS OF BULK AT MOST 1048576: true; the input reads as it did. -/
def fnLogFindUptoRow : OpenClaim := { program := "ytpckhghcjedblaa", sum := "491325850c9be9dcabd92ae7bb39af34ea4a6476380d264a125e7181cce7da03", func := "loop.example/leaderlesslog/laws.FnLogFind", spec := "fnLogFind", plainKeys := false, apart := false, narrowed := true }
def FnLogFindUptoSaid : Prop := fnLogFindUptoRow.holds Try.pinned (OpenSpec.upto fnLogFindSpec)

/-- 'laws.FnLogFindWhen', WHERE WHAT IT READS IS OF BULK AT MOST 1048576: true; the input reads as it did. -/
def fnLogFindWhenUptoRow : OpenClaim := { program := "ytpckhghcjedblaa", sum := "491325850c9be9dcabd92ae7bb39af34ea4a6476380d264a125e7181cce7da03", func := "loop.example/leaderlesslog/laws.FnLogFindWhen", spec := "fnLogFindWhen", plainKeys := false, apart := false, narrowed := true }
def FnLogFindWhenUptoSaid : Prop := fnLogFindWhenUptoRow.holds Try.pinned (OpenSpec.upto fnLogFindWhenSpec)

/-- 'laws.FnLogPart', WHERE WHAT IT READS IS OF BULK AT MOST 1048576: true; the input reads as it did. -/
def fnLogPartUptoRow : OpenClaim := { program := "ytpckhghcjedblaa", sum := "491325850c9be9dcabd92ae7bb39af34ea4a6476380d264a125e7181cce7da03", func := "loop.example/leaderlesslog/laws.FnLogPart", spec := "fnLogPart", plainKeys := false, apart := false, narrowed := true }
def FnLogPartUptoSaid : Prop := fnLogPartUptoRow.holds Try.pinned (OpenSpec.upto fnLogPartSpec)

/-- 'laws.FnNextNumber', WHERE WHAT IT READS IS OF BULK AT MOST 1048576: true; the input reads as it did. -/
def fnNextNumberUptoRow : OpenClaim := { program := "ytpckhghcjedblaa", sum := "491325850c9be9dcabd92ae7bb39af34ea4a6476380d264a125e7181cce7da03", func := "loop.example/leaderlesslog/laws.FnNextNumber", spec := "fnNextNumber", plainKeys := false, apart := false, narrowed := true }
def FnNextNumberUptoSaid : Prop := fnNextNumberUptoRow.holds Try.pinned (OpenSpec.upto fnNextNumberSpec)

/-- 'laws.FnExactLogFind', WHERE WHAT IT READS IS OF BULK AT MOST 1048576: true; the input reads as it did. -/
def fnExactLogFindUptoRow : OpenClaim := { program := "ytpckhghcjedblaa", sum := "491325850c9be9dcabd92ae7bb39af34ea4a6476380d264a125e7181cce7da03", func := "loop.example/leaderlesslog/laws.FnExactLogFind", spec := "fnExactLogFind", plainKeys := false, apart := false, narrowed := true }
def FnExactLogFindUptoSaid : Prop := fnExactLogFindUptoRow.holds Try.pinned (OpenSpec.upto fnExactLogFindSpec)

/-- 'laws.FnExactLogPut', WHERE WHAT IT READS IS OF BULK AT MOST 1048576: true; the input reads as it did. -/
def fnExactLogPutUptoRow : OpenClaim := { program := "ytpckhghcjedblaa", sum := "491325850c9be9dcabd92ae7bb39af34ea4a6476380d264a125e7181cce7da03", func := "loop.example/leaderlesslog/laws.FnExactLogPut", spec := "fnExactLogPut", unfollowed := true, recurses := true, plainKeys := false, apart := false, narrowed := true }
def FnExactLogPutUptoSaid : Prop := fnExactLogPutUptoRow.holds Try.pinned (OpenSpec.upto fnExactLogPutSpec)

/-- 'laws.FnExactNextNumber', WHERE WHAT IT READS IS OF BULK AT MOST 1048576: true; the input reads as it did. -/
def fnExactNextNumberUptoRow : OpenClaim := { program := "ytpckhghcjedblaa", sum := "491325850c9be9dcabd92ae7bb39af34ea4a6476380d264a125e7181cce7da03", func := "loop.example/leaderlesslog/laws.FnExactNextNumber", spec := "fnExactNextNumber", plainKeys := false, apart := false, narrowed := true }
def FnExactNextNumberUptoSaid : Prop := fnExactNextNumberUptoRow.holds Try.pinned (OpenSpec.upto fnExactNextNumberSpec)

end Rows
end Go.Proofs.Ytpckhghcjedblaa
