/-
  NARROWER THAN 'FOR EVERY INPUT', by the rows' own cells (each row's printed sentence says how): FnDepsJoin: laid · FnDepsJoinBoth: laid · FnDepsJoinNone: laid · FnWithin: laid · FnLatest: laid · FnLatestAll: laid · FnExactDepsJoin: laid · FnExactDepsLatest: laid.
  DERIVED. THE GIVEN ROWS OF THIS SEAT. 8 by the template 'for every input the law returns true; each argument reads behind the call as it read before'; 0 by the template 'total and deterministic' (their statements: YtigaepbhbfpijaaDoorTotals.lean).
  GIVEN WITH THE SEED: the statements are not yours to turn. If you find one false, say at which input.
  Laid BY PROGRAM, IN A SANDBOX (cutbox-rows.mjs): the forced cells as the released guide's own fill.sh prints them over the translation 7c417b3e8ba74a5a… (all of the seat's roots in one cut). By AI agents, Wed Nov 11 2026. No macro, syntax, notation, axiom, sorry.
-/
import Derived.Test.YtigaepbhbfpijaaDoorChecked
import GoSem.Claim
import GoSem.ClaimJoined
import GoSem.ClaimMapViews
import Derived.JoinedTies
import Derived.KernelRfl
namespace Go.Proofs.YtigaepbhbfpijaaDoor
/- THE CELL 'sum', in the pinned program and in every row, IS THE sha256 OF THE DUMP (.gsa) THAT YtigaepbhbfpijaaDoorProg.lean LOADS. Nothing in Lean hashes anything: it is a label: what it is worth is what the hold of that sum in a sandbox is worth. -/
noncomputable def Tryd.pinned : Pinned := { name := "ytigaepbhbfpijaadoor", sum := "7c417b3e8ba74a5a57a1b04825a226b98d9ff34325200d9b69201cec07b91127", checked := Tryd.checked }
namespace Rows
def none {H : Type} : Left H := { results := [], args := [] }

/- WHAT THE LISTED PACKAGE-LEVEL VARIABLES READ AS WHEN THE CALL BEGINS. Each datum BY PROGRAM (the guide's laid-datum.mjs) off the statement by which the dump's own 'gosem.cut.vars' lays the variable. In a bare row this is a premise. The card (YtigaepbhbfpijaaDoorCards.lean) ties it to the program's text. -/
def laid_math_bits_deBruijn64tab {H : Type} : DataW H := .agg [.lit (.int .u8 0), .lit (.int .u8 1), .lit (.int .u8 56), .lit (.int .u8 2), .lit (.int .u8 57), .lit (.int .u8 49), .lit (.int .u8 28), .lit (.int .u8 3), .lit (.int .u8 61), .lit (.int .u8 58), .lit (.int .u8 42), .lit (.int .u8 50), .lit (.int .u8 38), .lit (.int .u8 29), .lit (.int .u8 17), .lit (.int .u8 4), .lit (.int .u8 62), .lit (.int .u8 47), .lit (.int .u8 59), .lit (.int .u8 36), .lit (.int .u8 45), .lit (.int .u8 43), .lit (.int .u8 51), .lit (.int .u8 22), .lit (.int .u8 53), .lit (.int .u8 39), .lit (.int .u8 33), .lit (.int .u8 30), .lit (.int .u8 24), .lit (.int .u8 18), .lit (.int .u8 12), .lit (.int .u8 5), .lit (.int .u8 63), .lit (.int .u8 55), .lit (.int .u8 48), .lit (.int .u8 27), .lit (.int .u8 60), .lit (.int .u8 41), .lit (.int .u8 37), .lit (.int .u8 16), .lit (.int .u8 46), .lit (.int .u8 35), .lit (.int .u8 44), .lit (.int .u8 21), .lit (.int .u8 52), .lit (.int .u8 32), .lit (.int .u8 23), .lit (.int .u8 11), .lit (.int .u8 54), .lit (.int .u8 26), .lit (.int .u8 40), .lit (.int .u8 15), .lit (.int .u8 34), .lit (.int .u8 20), .lit (.int .u8 31), .lit (.int .u8 10), .lit (.int .u8 25), .lit (.int .u8 14), .lit (.int .u8 19), .lit (.int .u8 9), .lit (.int .u8 13), .lit (.int .u8 8), .lit (.int .u8 7), .lit (.int .u8 6)]

/-- 'laws.FnDepsJoin': WHATEVER THE INPUT: true; the input reads as it did. -/
def fnDepsJoinSpec : ChangeSpec := { name := "fnDepsJoin", fn := fun _ => fun
  | [d] => { results := [.lit (.bool true)], args := [d] }
  | _ => none }
def fnDepsJoinRow : OpenClaim := { program := "ytigaepbhbfpijaadoor", sum := "7c417b3e8ba74a5a57a1b04825a226b98d9ff34325200d9b69201cec07b91127", func := "loop.example/leaderlesslog/laws.FnDepsJoin", spec := "fnDepsJoin", named := ["math/bits.deBruijn64tab"], apart := false, laid := [("math/bits.deBruijn64tab", laid_math_bits_deBruijn64tab)] }
def FnDepsJoinSaid : Prop := fnDepsJoinRow.holds Tryd.pinned (OpenSpec.ofChange fnDepsJoinSpec)

/-- ITS FALSE NEIGHBOUR: 'it returns false'. Refute it at one input. -/
def fnDepsJoinWrong : ChangeSpec := { name := "fnDepsJoin", fn := fun _ => fun
  | [d] => { results := [.lit (.bool false)], args := [d] }
  | _ => none }
def FnDepsJoinWrongFalsely : Prop := fnDepsJoinRow.holds Tryd.pinned (OpenSpec.ofChange fnDepsJoinWrong)

/-- 'laws.FnDepsJoinBoth': WHATEVER THE INPUT: true; the input reads as it did. -/
def fnDepsJoinBothSpec : ChangeSpec := { name := "fnDepsJoinBoth", fn := fun _ => fun
  | [d] => { results := [.lit (.bool true)], args := [d] }
  | _ => none }
def fnDepsJoinBothRow : OpenClaim := { program := "ytigaepbhbfpijaadoor", sum := "7c417b3e8ba74a5a57a1b04825a226b98d9ff34325200d9b69201cec07b91127", func := "loop.example/leaderlesslog/laws.FnDepsJoinBoth", spec := "fnDepsJoinBoth", named := ["math/bits.deBruijn64tab"], apart := false, laid := [("math/bits.deBruijn64tab", laid_math_bits_deBruijn64tab)] }
def FnDepsJoinBothSaid : Prop := fnDepsJoinBothRow.holds Tryd.pinned (OpenSpec.ofChange fnDepsJoinBothSpec)

/-- ITS FALSE NEIGHBOUR: 'it returns false'. Refute it at one input. -/
def fnDepsJoinBothWrong : ChangeSpec := { name := "fnDepsJoinBoth", fn := fun _ => fun
  | [d] => { results := [.lit (.bool false)], args := [d] }
  | _ => none }
def FnDepsJoinBothWrongFalsely : Prop := fnDepsJoinBothRow.holds Tryd.pinned (OpenSpec.ofChange fnDepsJoinBothWrong)

/-- 'laws.FnDepsJoinNone': WHATEVER THE INPUT: true; the input reads as it did. -/
def fnDepsJoinNoneSpec : ChangeSpec := { name := "fnDepsJoinNone", fn := fun _ => fun
  | [d] => { results := [.lit (.bool true)], args := [d] }
  | _ => none }
def fnDepsJoinNoneRow : OpenClaim := { program := "ytigaepbhbfpijaadoor", sum := "7c417b3e8ba74a5a57a1b04825a226b98d9ff34325200d9b69201cec07b91127", func := "loop.example/leaderlesslog/laws.FnDepsJoinNone", spec := "fnDepsJoinNone", named := ["math/bits.deBruijn64tab"], apart := false, laid := [("math/bits.deBruijn64tab", laid_math_bits_deBruijn64tab)] }
def FnDepsJoinNoneSaid : Prop := fnDepsJoinNoneRow.holds Tryd.pinned (OpenSpec.ofChange fnDepsJoinNoneSpec)

/-- ITS FALSE NEIGHBOUR: 'it returns false'. Refute it at one input. -/
def fnDepsJoinNoneWrong : ChangeSpec := { name := "fnDepsJoinNone", fn := fun _ => fun
  | [d] => { results := [.lit (.bool false)], args := [d] }
  | _ => none }
def FnDepsJoinNoneWrongFalsely : Prop := fnDepsJoinNoneRow.holds Tryd.pinned (OpenSpec.ofChange fnDepsJoinNoneWrong)

/-- 'laws.FnWithin': WHATEVER THE INPUT: true; the input reads as it did. -/
def fnWithinSpec : ChangeSpec := { name := "fnWithin", fn := fun _ => fun
  | [d] => { results := [.lit (.bool true)], args := [d] }
  | _ => none }
def fnWithinRow : OpenClaim := { program := "ytigaepbhbfpijaadoor", sum := "7c417b3e8ba74a5a57a1b04825a226b98d9ff34325200d9b69201cec07b91127", func := "loop.example/leaderlesslog/laws.FnWithin", spec := "fnWithin", named := ["math/bits.deBruijn64tab"], apart := false, laid := [("math/bits.deBruijn64tab", laid_math_bits_deBruijn64tab)] }
def FnWithinSaid : Prop := fnWithinRow.holds Tryd.pinned (OpenSpec.ofChange fnWithinSpec)

/-- ITS FALSE NEIGHBOUR: 'it returns false'. Refute it at one input. -/
def fnWithinWrong : ChangeSpec := { name := "fnWithin", fn := fun _ => fun
  | [d] => { results := [.lit (.bool false)], args := [d] }
  | _ => none }
def FnWithinWrongFalsely : Prop := fnWithinRow.holds Tryd.pinned (OpenSpec.ofChange fnWithinWrong)

/-- 'laws.FnLatest': WHATEVER THE INPUT: true; the input reads as it did. -/
def fnLatestSpec : ChangeSpec := { name := "fnLatest", fn := fun _ => fun
  | [d] => { results := [.lit (.bool true)], args := [d] }
  | _ => none }
def fnLatestRow : OpenClaim := { program := "ytigaepbhbfpijaadoor", sum := "7c417b3e8ba74a5a57a1b04825a226b98d9ff34325200d9b69201cec07b91127", func := "loop.example/leaderlesslog/laws.FnLatest", spec := "fnLatest", named := ["math/bits.deBruijn64tab"], apart := false, laid := [("math/bits.deBruijn64tab", laid_math_bits_deBruijn64tab)] }
def FnLatestSaid : Prop := fnLatestRow.holds Tryd.pinned (OpenSpec.ofChange fnLatestSpec)

/-- ITS FALSE NEIGHBOUR: 'it returns false'. Refute it at one input. -/
def fnLatestWrong : ChangeSpec := { name := "fnLatest", fn := fun _ => fun
  | [d] => { results := [.lit (.bool false)], args := [d] }
  | _ => none }
def FnLatestWrongFalsely : Prop := fnLatestRow.holds Tryd.pinned (OpenSpec.ofChange fnLatestWrong)

/-- 'laws.FnLatestAll': WHATEVER THE INPUT: true; the input reads as it did. -/
def fnLatestAllSpec : ChangeSpec := { name := "fnLatestAll", fn := fun _ => fun
  | [d] => { results := [.lit (.bool true)], args := [d] }
  | _ => none }
def fnLatestAllRow : OpenClaim := { program := "ytigaepbhbfpijaadoor", sum := "7c417b3e8ba74a5a57a1b04825a226b98d9ff34325200d9b69201cec07b91127", func := "loop.example/leaderlesslog/laws.FnLatestAll", spec := "fnLatestAll", named := ["math/bits.deBruijn64tab"], apart := false, laid := [("math/bits.deBruijn64tab", laid_math_bits_deBruijn64tab)] }
def FnLatestAllSaid : Prop := fnLatestAllRow.holds Tryd.pinned (OpenSpec.ofChange fnLatestAllSpec)

/-- ITS FALSE NEIGHBOUR: 'it returns false'. Refute it at one input. -/
def fnLatestAllWrong : ChangeSpec := { name := "fnLatestAll", fn := fun _ => fun
  | [d] => { results := [.lit (.bool false)], args := [d] }
  | _ => none }
def FnLatestAllWrongFalsely : Prop := fnLatestAllRow.holds Tryd.pinned (OpenSpec.ofChange fnLatestAllWrong)

/-- 'laws.FnExactDepsJoin': WHATEVER THE INPUT: true; the input reads as it did. -/
def fnExactDepsJoinSpec : ChangeSpec := { name := "fnExactDepsJoin", fn := fun _ => fun
  | [d1, d2] => { results := [.lit (.bool true)], args := [d1, d2] }
  | _ => none }
def fnExactDepsJoinRow : OpenClaim := { program := "ytigaepbhbfpijaadoor", sum := "7c417b3e8ba74a5a57a1b04825a226b98d9ff34325200d9b69201cec07b91127", func := "loop.example/leaderlesslog/laws.FnExactDepsJoin", spec := "fnExactDepsJoin", named := ["math/bits.deBruijn64tab"], apart := false, laid := [("math/bits.deBruijn64tab", laid_math_bits_deBruijn64tab)] }
def FnExactDepsJoinSaid : Prop := fnExactDepsJoinRow.holds Tryd.pinned (OpenSpec.ofChange fnExactDepsJoinSpec)

/-- ITS FALSE NEIGHBOUR: 'it returns false'. Refute it at one input. -/
def fnExactDepsJoinWrong : ChangeSpec := { name := "fnExactDepsJoin", fn := fun _ => fun
  | [d1, d2] => { results := [.lit (.bool false)], args := [d1, d2] }
  | _ => none }
def FnExactDepsJoinWrongFalsely : Prop := fnExactDepsJoinRow.holds Tryd.pinned (OpenSpec.ofChange fnExactDepsJoinWrong)

/-- 'laws.FnExactDepsLatest': WHATEVER THE INPUT: true; the input reads as it did. -/
def fnExactDepsLatestSpec : ChangeSpec := { name := "fnExactDepsLatest", fn := fun _ => fun
  | [d] => { results := [.lit (.bool true)], args := [d] }
  | _ => none }
def fnExactDepsLatestRow : OpenClaim := { program := "ytigaepbhbfpijaadoor", sum := "7c417b3e8ba74a5a57a1b04825a226b98d9ff34325200d9b69201cec07b91127", func := "loop.example/leaderlesslog/laws.FnExactDepsLatest", spec := "fnExactDepsLatest", named := ["math/bits.deBruijn64tab"], apart := false, laid := [("math/bits.deBruijn64tab", laid_math_bits_deBruijn64tab)] }
def FnExactDepsLatestSaid : Prop := fnExactDepsLatestRow.holds Tryd.pinned (OpenSpec.ofChange fnExactDepsLatestSpec)

/-- ITS FALSE NEIGHBOUR: 'it returns false'. Refute it at one input. -/
def fnExactDepsLatestWrong : ChangeSpec := { name := "fnExactDepsLatest", fn := fun _ => fun
  | [d] => { results := [.lit (.bool false)], args := [d] }
  | _ => none }
def FnExactDepsLatestWrongFalsely : Prop := fnExactDepsLatestRow.holds Tryd.pinned (OpenSpec.ofChange fnExactDepsLatestWrong)

/- THE SECOND FORM. 'bulk': how many values and letters a reading holds, each counted each time it is reached (what is shared counts as often as it is met; a slice's spare places count too). A statement '..UptoSaid' is the law's where the arguments, and the package variables that the reading takes, are together of bulk at most 1048576: NARROWER than '..Said'. Prove '..Said' where nothing that the law and all that it calls make is longer than what came in: it says more and counts as full. Else prove '..UptoSaid'. A law counts once. -/
mutual
def uptoBulk {H : Type} : DataW H → Nat
  | .lit (.string bytes) => bytes.length + 1
  | .lit _ => 1
  | .nil => 1
  | .ptr d => uptoBulk d + 1
  | .slice elems spare => uptoBulkAll elems + uptoBulkAll spare + 1
  | .agg parts => uptoBulkAll parts + 1
  | .iface _ d => uptoBulk d + 1
  | .map entries => uptoBulkEntries entries + 1
  | .held _ => 1
def uptoBulkAll {H : Type} : List (DataW H) → Nat
  | [] => 0
  | d :: r => uptoBulk d + uptoBulkAll r
def uptoBulkEntries {H : Type} : List (Lit × DataW H) → Nat
  | [] => 0
  | x :: r => uptoBulkEntry x + uptoBulkEntries r
def uptoBulkEntry {H : Type} : Lit × DataW H → Nat
  | (.string bytes, d) => bytes.length + uptoBulk d + 1
  | (_, d) => uptoBulk d + 1
 end
def uptoSmall : (H : Type) → List (DataW H) → Bool := fun _ ds => decide (uptoBulkAll ds ≤ 1048576)
def OpenSpec.upto (s : _root_.Go.ChangeSpec) : _root_.Go.OpenSpec := { _root_.Go.OpenSpec.ofChange s with cond := some uptoSmall }

/-- 'laws.FnDepsJoin', WHERE WHAT IT READS IS OF BULK AT MOST 1048576: true; the input reads as it did. -/
def fnDepsJoinUptoRow : OpenClaim := { program := "ytigaepbhbfpijaadoor", sum := "7c417b3e8ba74a5a57a1b04825a226b98d9ff34325200d9b69201cec07b91127", func := "loop.example/leaderlesslog/laws.FnDepsJoin", spec := "fnDepsJoin", named := ["math/bits.deBruijn64tab"], apart := false, laid := [("math/bits.deBruijn64tab", laid_math_bits_deBruijn64tab)], narrowed := true }
def FnDepsJoinUptoSaid : Prop := fnDepsJoinUptoRow.holds Tryd.pinned (OpenSpec.upto fnDepsJoinSpec)

/-- 'laws.FnDepsJoinBoth', WHERE WHAT IT READS IS OF BULK AT MOST 1048576: true; the input reads as it did. -/
def fnDepsJoinBothUptoRow : OpenClaim := { program := "ytigaepbhbfpijaadoor", sum := "7c417b3e8ba74a5a57a1b04825a226b98d9ff34325200d9b69201cec07b91127", func := "loop.example/leaderlesslog/laws.FnDepsJoinBoth", spec := "fnDepsJoinBoth", named := ["math/bits.deBruijn64tab"], apart := false, laid := [("math/bits.deBruijn64tab", laid_math_bits_deBruijn64tab)], narrowed := true }
def FnDepsJoinBothUptoSaid : Prop := fnDepsJoinBothUptoRow.holds Tryd.pinned (OpenSpec.upto fnDepsJoinBothSpec)

/-- 'laws.FnDepsJoinNone', WHERE WHAT IT READS IS OF BULK AT MOST 1048576: true; the input reads as it did. -/
def fnDepsJoinNoneUptoRow : OpenClaim := { program := "ytigaepbhbfpijaadoor", sum := "7c417b3e8ba74a5a57a1b04825a226b98d9ff34325200d9b69201cec07b91127", func := "loop.example/leaderlesslog/laws.FnDepsJoinNone", spec := "fnDepsJoinNone", named := ["math/bits.deBruijn64tab"], apart := false, laid := [("math/bits.deBruijn64tab", laid_math_bits_deBruijn64tab)], narrowed := true }
def FnDepsJoinNoneUptoSaid : Prop := fnDepsJoinNoneUptoRow.holds Tryd.pinned (OpenSpec.upto fnDepsJoinNoneSpec)

/-- 'laws.FnWithin', WHERE WHAT IT READS IS OF BULK AT MOST 1048576: true; the input reads as it did. -/
def fnWithinUptoRow : OpenClaim := { program := "ytigaepbhbfpijaadoor", sum := "7c417b3e8ba74a5a57a1b04825a226b98d9ff34325200d9b69201cec07b91127", func := "loop.example/leaderlesslog/laws.FnWithin", spec := "fnWithin", named := ["math/bits.deBruijn64tab"], apart := false, laid := [("math/bits.deBruijn64tab", laid_math_bits_deBruijn64tab)], narrowed := true }
def FnWithinUptoSaid : Prop := fnWithinUptoRow.holds Tryd.pinned (OpenSpec.upto fnWithinSpec)

/-- 'laws.FnLatest', WHERE WHAT IT READS IS OF BULK AT MOST 1048576: true; the input reads as it did. -/
def fnLatestUptoRow : OpenClaim := { program := "ytigaepbhbfpijaadoor", sum := "7c417b3e8ba74a5a57a1b04825a226b98d9ff34325200d9b69201cec07b91127", func := "loop.example/leaderlesslog/laws.FnLatest", spec := "fnLatest", named := ["math/bits.deBruijn64tab"], apart := false, laid := [("math/bits.deBruijn64tab", laid_math_bits_deBruijn64tab)], narrowed := true }
def FnLatestUptoSaid : Prop := fnLatestUptoRow.holds Tryd.pinned (OpenSpec.upto fnLatestSpec)

/-- 'laws.FnLatestAll', WHERE WHAT IT READS IS OF BULK AT MOST 1048576: true; the input reads as it did. -/
def fnLatestAllUptoRow : OpenClaim := { program := "ytigaepbhbfpijaadoor", sum := "7c417b3e8ba74a5a57a1b04825a226b98d9ff34325200d9b69201cec07b91127", func := "loop.example/leaderlesslog/laws.FnLatestAll", spec := "fnLatestAll", named := ["math/bits.deBruijn64tab"], apart := false, laid := [("math/bits.deBruijn64tab", laid_math_bits_deBruijn64tab)], narrowed := true }
def FnLatestAllUptoSaid : Prop := fnLatestAllUptoRow.holds Tryd.pinned (OpenSpec.upto fnLatestAllSpec)

/-- 'laws.FnExactDepsJoin', WHERE WHAT IT READS IS OF BULK AT MOST 1048576: true; the input reads as it did. -/
def fnExactDepsJoinUptoRow : OpenClaim := { program := "ytigaepbhbfpijaadoor", sum := "7c417b3e8ba74a5a57a1b04825a226b98d9ff34325200d9b69201cec07b91127", func := "loop.example/leaderlesslog/laws.FnExactDepsJoin", spec := "fnExactDepsJoin", named := ["math/bits.deBruijn64tab"], apart := false, laid := [("math/bits.deBruijn64tab", laid_math_bits_deBruijn64tab)], narrowed := true }
def FnExactDepsJoinUptoSaid : Prop := fnExactDepsJoinUptoRow.holds Tryd.pinned (OpenSpec.upto fnExactDepsJoinSpec)

/-- 'laws.FnExactDepsLatest', WHERE WHAT IT READS IS OF BULK AT MOST 1048576: true; the input reads as it did. -/
def fnExactDepsLatestUptoRow : OpenClaim := { program := "ytigaepbhbfpijaadoor", sum := "7c417b3e8ba74a5a57a1b04825a226b98d9ff34325200d9b69201cec07b91127", func := "loop.example/leaderlesslog/laws.FnExactDepsLatest", spec := "fnExactDepsLatest", named := ["math/bits.deBruijn64tab"], apart := false, laid := [("math/bits.deBruijn64tab", laid_math_bits_deBruijn64tab)], narrowed := true }
def FnExactDepsLatestUptoSaid : Prop := fnExactDepsLatestUptoRow.holds Tryd.pinned (OpenSpec.upto fnExactDepsLatestSpec)

end Rows
end Go.Proofs.YtigaepbhbfpijaaDoor
