/-
  NARROWER THAN 'FOR EVERY INPUT', by the rows' own cells (each row's printed sentence says how): FnReach: laid · FnReachAll: laid · FnReachOn: laid · FnGroup: laid · FnGroupSame: laid · FnReady: laid · FnReadyWhen: laid · FnOrderDeps: laid · FnOrderGroup: laid · FnExactNodesReach: laid · FnExactNodesGroup: laid.
  DERIVED. THE GIVEN ROWS OF THIS SEAT. 11 by the template 'for every input the law returns true; each argument reads behind the call as it read before'; 0 by the template 'total and deterministic' (their statements: YtbbnchodchgioaaDoorTotals.lean).
  GIVEN WITH THE SEED: the statements are not yours to turn. If you find one false, say at which input.
  Laid BY PROGRAM, IN A SANDBOX (cutbox-rows.mjs): the forced cells as the released guide's own fill.sh prints them over the translation f7e0121c637910ba… (all of the seat's roots in one cut). By AI agents, Wed Nov 11 2026. No macro, syntax, notation, axiom, sorry.
-/
import Derived.Test.YtbbnchodchgioaaDoorChecked
import GoSem.Claim
import GoSem.ClaimJoined
import GoSem.ClaimMapViews
import Derived.JoinedTies
import Derived.KernelRfl
namespace Go.Proofs.YtbbnchodchgioaaDoor
/- THE CELL 'sum', in the pinned program and in every row, IS THE sha256 OF THE DUMP (.gsa) THAT YtbbnchodchgioaaDoorProg.lean LOADS. Nothing in Lean hashes anything: it is a label: what it is worth is what the hold of that sum in a sandbox is worth. -/
noncomputable def Tryd.pinned : Pinned := { name := "ytbbnchodchgioaadoor", sum := "f7e0121c637910ba15892d8361cd7e273ab34890777d999beadf91a9197e5953", checked := Tryd.checked }
namespace Rows
def none {H : Type} : Left H := { results := [], args := [] }

/- WHAT THE LISTED PACKAGE-LEVEL VARIABLES READ AS WHEN THE CALL BEGINS. Each datum BY PROGRAM (the guide's laid-datum.mjs) off the statement by which the dump's own 'gosem.cut.vars' lays the variable. In a bare row this is a premise. The card (YtbbnchodchgioaaDoorCards.lean) ties it to the program's text. -/
def laid_math_bits_deBruijn64tab {H : Type} : DataW H := .agg [.lit (.int .u8 0), .lit (.int .u8 1), .lit (.int .u8 56), .lit (.int .u8 2), .lit (.int .u8 57), .lit (.int .u8 49), .lit (.int .u8 28), .lit (.int .u8 3), .lit (.int .u8 61), .lit (.int .u8 58), .lit (.int .u8 42), .lit (.int .u8 50), .lit (.int .u8 38), .lit (.int .u8 29), .lit (.int .u8 17), .lit (.int .u8 4), .lit (.int .u8 62), .lit (.int .u8 47), .lit (.int .u8 59), .lit (.int .u8 36), .lit (.int .u8 45), .lit (.int .u8 43), .lit (.int .u8 51), .lit (.int .u8 22), .lit (.int .u8 53), .lit (.int .u8 39), .lit (.int .u8 33), .lit (.int .u8 30), .lit (.int .u8 24), .lit (.int .u8 18), .lit (.int .u8 12), .lit (.int .u8 5), .lit (.int .u8 63), .lit (.int .u8 55), .lit (.int .u8 48), .lit (.int .u8 27), .lit (.int .u8 60), .lit (.int .u8 41), .lit (.int .u8 37), .lit (.int .u8 16), .lit (.int .u8 46), .lit (.int .u8 35), .lit (.int .u8 44), .lit (.int .u8 21), .lit (.int .u8 52), .lit (.int .u8 32), .lit (.int .u8 23), .lit (.int .u8 11), .lit (.int .u8 54), .lit (.int .u8 26), .lit (.int .u8 40), .lit (.int .u8 15), .lit (.int .u8 34), .lit (.int .u8 20), .lit (.int .u8 31), .lit (.int .u8 10), .lit (.int .u8 25), .lit (.int .u8 14), .lit (.int .u8 19), .lit (.int .u8 9), .lit (.int .u8 13), .lit (.int .u8 8), .lit (.int .u8 7), .lit (.int .u8 6)]

/-- 'laws.FnReach': WHATEVER THE INPUT: true; the input reads as it did. -/
def fnReachSpec : ChangeSpec := { name := "fnReach", fn := fun _ => fun
  | [d] => { results := [.lit (.bool true)], args := [d] }
  | _ => none }
def fnReachRow : OpenClaim := { program := "ytbbnchodchgioaadoor", sum := "f7e0121c637910ba15892d8361cd7e273ab34890777d999beadf91a9197e5953", func := "loop.example/leaderlesslog/laws.FnReach", spec := "fnReach", unfollowed := true, recurses := true, named := ["math/bits.deBruijn64tab"], apart := false, laid := [("math/bits.deBruijn64tab", laid_math_bits_deBruijn64tab)] }
def FnReachSaid : Prop := fnReachRow.holds Tryd.pinned (OpenSpec.ofChange fnReachSpec)

/-- ITS FALSE NEIGHBOUR: 'it returns false'. Refute it at one input. -/
def fnReachWrong : ChangeSpec := { name := "fnReach", fn := fun _ => fun
  | [d] => { results := [.lit (.bool false)], args := [d] }
  | _ => none }
def FnReachWrongFalsely : Prop := fnReachRow.holds Tryd.pinned (OpenSpec.ofChange fnReachWrong)

/-- 'laws.FnReachAll': WHATEVER THE INPUT: true; the input reads as it did. -/
def fnReachAllSpec : ChangeSpec := { name := "fnReachAll", fn := fun _ => fun
  | [d] => { results := [.lit (.bool true)], args := [d] }
  | _ => none }
def fnReachAllRow : OpenClaim := { program := "ytbbnchodchgioaadoor", sum := "f7e0121c637910ba15892d8361cd7e273ab34890777d999beadf91a9197e5953", func := "loop.example/leaderlesslog/laws.FnReachAll", spec := "fnReachAll", unfollowed := true, recurses := true, named := ["math/bits.deBruijn64tab"], apart := false, laid := [("math/bits.deBruijn64tab", laid_math_bits_deBruijn64tab)] }
def FnReachAllSaid : Prop := fnReachAllRow.holds Tryd.pinned (OpenSpec.ofChange fnReachAllSpec)

/-- ITS FALSE NEIGHBOUR: 'it returns false'. Refute it at one input. -/
def fnReachAllWrong : ChangeSpec := { name := "fnReachAll", fn := fun _ => fun
  | [d] => { results := [.lit (.bool false)], args := [d] }
  | _ => none }
def FnReachAllWrongFalsely : Prop := fnReachAllRow.holds Tryd.pinned (OpenSpec.ofChange fnReachAllWrong)

/-- 'laws.FnReachOn': WHATEVER THE INPUT: true; the input reads as it did. -/
def fnReachOnSpec : ChangeSpec := { name := "fnReachOn", fn := fun _ => fun
  | [d1, d2] => { results := [.lit (.bool true)], args := [d1, d2] }
  | _ => none }
def fnReachOnRow : OpenClaim := { program := "ytbbnchodchgioaadoor", sum := "f7e0121c637910ba15892d8361cd7e273ab34890777d999beadf91a9197e5953", func := "loop.example/leaderlesslog/laws.FnReachOn", spec := "fnReachOn", unfollowed := true, recurses := true, named := ["math/bits.deBruijn64tab"], apart := false, laid := [("math/bits.deBruijn64tab", laid_math_bits_deBruijn64tab)] }
def FnReachOnSaid : Prop := fnReachOnRow.holds Tryd.pinned (OpenSpec.ofChange fnReachOnSpec)

/-- ITS FALSE NEIGHBOUR: 'it returns false'. Refute it at one input. -/
def fnReachOnWrong : ChangeSpec := { name := "fnReachOn", fn := fun _ => fun
  | [d1, d2] => { results := [.lit (.bool false)], args := [d1, d2] }
  | _ => none }
def FnReachOnWrongFalsely : Prop := fnReachOnRow.holds Tryd.pinned (OpenSpec.ofChange fnReachOnWrong)

/-- 'laws.FnGroup': WHATEVER THE INPUT: true; the input reads as it did. -/
def fnGroupSpec : ChangeSpec := { name := "fnGroup", fn := fun _ => fun
  | [d] => { results := [.lit (.bool true)], args := [d] }
  | _ => none }
def fnGroupRow : OpenClaim := { program := "ytbbnchodchgioaadoor", sum := "f7e0121c637910ba15892d8361cd7e273ab34890777d999beadf91a9197e5953", func := "loop.example/leaderlesslog/laws.FnGroup", spec := "fnGroup", unfollowed := true, recurses := true, named := ["math/bits.deBruijn64tab"], apart := false, laid := [("math/bits.deBruijn64tab", laid_math_bits_deBruijn64tab)] }
def FnGroupSaid : Prop := fnGroupRow.holds Tryd.pinned (OpenSpec.ofChange fnGroupSpec)

/-- ITS FALSE NEIGHBOUR: 'it returns false'. Refute it at one input. -/
def fnGroupWrong : ChangeSpec := { name := "fnGroup", fn := fun _ => fun
  | [d] => { results := [.lit (.bool false)], args := [d] }
  | _ => none }
def FnGroupWrongFalsely : Prop := fnGroupRow.holds Tryd.pinned (OpenSpec.ofChange fnGroupWrong)

/-- 'laws.FnGroupSame': WHATEVER THE INPUT: true; the input reads as it did. -/
def fnGroupSameSpec : ChangeSpec := { name := "fnGroupSame", fn := fun _ => fun
  | [d1, d2] => { results := [.lit (.bool true)], args := [d1, d2] }
  | _ => none }
def fnGroupSameRow : OpenClaim := { program := "ytbbnchodchgioaadoor", sum := "f7e0121c637910ba15892d8361cd7e273ab34890777d999beadf91a9197e5953", func := "loop.example/leaderlesslog/laws.FnGroupSame", spec := "fnGroupSame", unfollowed := true, recurses := true, named := ["math/bits.deBruijn64tab"], apart := false, laid := [("math/bits.deBruijn64tab", laid_math_bits_deBruijn64tab)] }
def FnGroupSameSaid : Prop := fnGroupSameRow.holds Tryd.pinned (OpenSpec.ofChange fnGroupSameSpec)

/-- ITS FALSE NEIGHBOUR: 'it returns false'. Refute it at one input. -/
def fnGroupSameWrong : ChangeSpec := { name := "fnGroupSame", fn := fun _ => fun
  | [d1, d2] => { results := [.lit (.bool false)], args := [d1, d2] }
  | _ => none }
def FnGroupSameWrongFalsely : Prop := fnGroupSameRow.holds Tryd.pinned (OpenSpec.ofChange fnGroupSameWrong)

/-- 'laws.FnReady': WHATEVER THE INPUT: true; the input reads as it did. -/
def fnReadySpec : ChangeSpec := { name := "fnReady", fn := fun _ => fun
  | [d] => { results := [.lit (.bool true)], args := [d] }
  | _ => none }
def fnReadyRow : OpenClaim := { program := "ytbbnchodchgioaadoor", sum := "f7e0121c637910ba15892d8361cd7e273ab34890777d999beadf91a9197e5953", func := "loop.example/leaderlesslog/laws.FnReady", spec := "fnReady", unfollowed := true, recurses := true, named := ["math/bits.deBruijn64tab"], apart := false, laid := [("math/bits.deBruijn64tab", laid_math_bits_deBruijn64tab)] }
def FnReadySaid : Prop := fnReadyRow.holds Tryd.pinned (OpenSpec.ofChange fnReadySpec)

/-- ITS FALSE NEIGHBOUR: 'it returns false'. Refute it at one input. -/
def fnReadyWrong : ChangeSpec := { name := "fnReady", fn := fun _ => fun
  | [d] => { results := [.lit (.bool false)], args := [d] }
  | _ => none }
def FnReadyWrongFalsely : Prop := fnReadyRow.holds Tryd.pinned (OpenSpec.ofChange fnReadyWrong)

/-- 'laws.FnReadyWhen': WHATEVER THE INPUT: true; the input reads as it did. -/
def fnReadyWhenSpec : ChangeSpec := { name := "fnReadyWhen", fn := fun _ => fun
  | [d] => { results := [.lit (.bool true)], args := [d] }
  | _ => none }
def fnReadyWhenRow : OpenClaim := { program := "ytbbnchodchgioaadoor", sum := "f7e0121c637910ba15892d8361cd7e273ab34890777d999beadf91a9197e5953", func := "loop.example/leaderlesslog/laws.FnReadyWhen", spec := "fnReadyWhen", unfollowed := true, recurses := true, named := ["math/bits.deBruijn64tab"], apart := false, laid := [("math/bits.deBruijn64tab", laid_math_bits_deBruijn64tab)] }
def FnReadyWhenSaid : Prop := fnReadyWhenRow.holds Tryd.pinned (OpenSpec.ofChange fnReadyWhenSpec)

/-- ITS FALSE NEIGHBOUR: 'it returns false'. Refute it at one input. -/
def fnReadyWhenWrong : ChangeSpec := { name := "fnReadyWhen", fn := fun _ => fun
  | [d] => { results := [.lit (.bool false)], args := [d] }
  | _ => none }
def FnReadyWhenWrongFalsely : Prop := fnReadyWhenRow.holds Tryd.pinned (OpenSpec.ofChange fnReadyWhenWrong)

/-- 'laws.FnOrderDeps': WHATEVER THE INPUT: true; the input reads as it did. -/
def fnOrderDepsSpec : ChangeSpec := { name := "fnOrderDeps", fn := fun _ => fun
  | [d] => { results := [.lit (.bool true)], args := [d] }
  | _ => none }
def fnOrderDepsRow : OpenClaim := { program := "ytbbnchodchgioaadoor", sum := "f7e0121c637910ba15892d8361cd7e273ab34890777d999beadf91a9197e5953", func := "loop.example/leaderlesslog/laws.FnOrderDeps", spec := "fnOrderDeps", unfollowed := true, recurses := true, named := ["math/bits.deBruijn64tab"], apart := false, laid := [("math/bits.deBruijn64tab", laid_math_bits_deBruijn64tab)] }
def FnOrderDepsSaid : Prop := fnOrderDepsRow.holds Tryd.pinned (OpenSpec.ofChange fnOrderDepsSpec)

/-- ITS FALSE NEIGHBOUR: 'it returns false'. Refute it at one input. -/
def fnOrderDepsWrong : ChangeSpec := { name := "fnOrderDeps", fn := fun _ => fun
  | [d] => { results := [.lit (.bool false)], args := [d] }
  | _ => none }
def FnOrderDepsWrongFalsely : Prop := fnOrderDepsRow.holds Tryd.pinned (OpenSpec.ofChange fnOrderDepsWrong)

/-- 'laws.FnOrderGroup': WHATEVER THE INPUT: true; the input reads as it did. -/
def fnOrderGroupSpec : ChangeSpec := { name := "fnOrderGroup", fn := fun _ => fun
  | [d] => { results := [.lit (.bool true)], args := [d] }
  | _ => none }
def fnOrderGroupRow : OpenClaim := { program := "ytbbnchodchgioaadoor", sum := "f7e0121c637910ba15892d8361cd7e273ab34890777d999beadf91a9197e5953", func := "loop.example/leaderlesslog/laws.FnOrderGroup", spec := "fnOrderGroup", unfollowed := true, recurses := true, named := ["math/bits.deBruijn64tab"], apart := false, laid := [("math/bits.deBruijn64tab", laid_math_bits_deBruijn64tab)] }
def FnOrderGroupSaid : Prop := fnOrderGroupRow.holds Tryd.pinned (OpenSpec.ofChange fnOrderGroupSpec)

/-- ITS FALSE NEIGHBOUR: 'it returns false'. Refute it at one input. -/
def fnOrderGroupWrong : ChangeSpec := { name := "fnOrderGroup", fn := fun _ => fun
  | [d] => { results := [.lit (.bool false)], args := [d] }
  | _ => none }
def FnOrderGroupWrongFalsely : Prop := fnOrderGroupRow.holds Tryd.pinned (OpenSpec.ofChange fnOrderGroupWrong)

/-- 'laws.FnExactNodesReach': WHATEVER THE INPUT: true; the input reads as it did. -/
def fnExactNodesReachSpec : ChangeSpec := { name := "fnExactNodesReach", fn := fun _ => fun
  | [d1, d2] => { results := [.lit (.bool true)], args := [d1, d2] }
  | _ => none }
def fnExactNodesReachRow : OpenClaim := { program := "ytbbnchodchgioaadoor", sum := "f7e0121c637910ba15892d8361cd7e273ab34890777d999beadf91a9197e5953", func := "loop.example/leaderlesslog/laws.FnExactNodesReach", spec := "fnExactNodesReach", unfollowed := true, recurses := true, named := ["math/bits.deBruijn64tab"], apart := false, laid := [("math/bits.deBruijn64tab", laid_math_bits_deBruijn64tab)] }
def FnExactNodesReachSaid : Prop := fnExactNodesReachRow.holds Tryd.pinned (OpenSpec.ofChange fnExactNodesReachSpec)

/-- ITS FALSE NEIGHBOUR: 'it returns false'. Refute it at one input. -/
def fnExactNodesReachWrong : ChangeSpec := { name := "fnExactNodesReach", fn := fun _ => fun
  | [d1, d2] => { results := [.lit (.bool false)], args := [d1, d2] }
  | _ => none }
def FnExactNodesReachWrongFalsely : Prop := fnExactNodesReachRow.holds Tryd.pinned (OpenSpec.ofChange fnExactNodesReachWrong)

/-- 'laws.FnExactNodesGroup': WHATEVER THE INPUT: true; the input reads as it did. -/
def fnExactNodesGroupSpec : ChangeSpec := { name := "fnExactNodesGroup", fn := fun _ => fun
  | [d1, d2] => { results := [.lit (.bool true)], args := [d1, d2] }
  | _ => none }
def fnExactNodesGroupRow : OpenClaim := { program := "ytbbnchodchgioaadoor", sum := "f7e0121c637910ba15892d8361cd7e273ab34890777d999beadf91a9197e5953", func := "loop.example/leaderlesslog/laws.FnExactNodesGroup", spec := "fnExactNodesGroup", unfollowed := true, recurses := true, named := ["math/bits.deBruijn64tab"], apart := false, laid := [("math/bits.deBruijn64tab", laid_math_bits_deBruijn64tab)] }
def FnExactNodesGroupSaid : Prop := fnExactNodesGroupRow.holds Tryd.pinned (OpenSpec.ofChange fnExactNodesGroupSpec)

/-- ITS FALSE NEIGHBOUR: 'it returns false'. Refute it at one input. -/
def fnExactNodesGroupWrong : ChangeSpec := { name := "fnExactNodesGroup", fn := fun _ => fun
  | [d1, d2] => { results := [.lit (.bool false)], args := [d1, d2] }
  | _ => none }
def FnExactNodesGroupWrongFalsely : Prop := fnExactNodesGroupRow.holds Tryd.pinned (OpenSpec.ofChange fnExactNodesGroupWrong)

/- THE SECOND FORM. 'bulk': how many values and letters a reading holds, each counted each time it is reached (what is shared counts as often as it is met; a slice's spare places count too). A statement '..UptoSaid' is the law's where the arguments, and the package variables that the reading takes, are together of bulk at most 1048576: NARROWER than '..Said'. Prove '..Said' where nothing that the law and all that it calls make is longer than what came in: it says more and counts as full. Else prove '..UptoSaid'. A law counts once. -/
mutual
def uptoBulk {H : Type} : DataW H → Nat
  | .lit (.string bytes) => bytes.length + 1
  | .lit _ => 1
  | .nil => 1
  | .ptr d => uptoBulk d + 1
  | .slice elems spare => uptoBulkAll elems + uptoBulkAll spare + 1
  | .agg parts => uptoBulkAll parts + 1
  | .iface _ d => uptoBulk d + 1
  | .map entries => uptoBulkEntries entries + 1
  | .held _ => 1
def uptoBulkAll {H : Type} : List (DataW H) → Nat
  | [] => 0
  | d :: r => uptoBulk d + uptoBulkAll r
def uptoBulkEntries {H : Type} : List (Lit × DataW H) → Nat
  | [] => 0
  | x :: r => uptoBulkEntry x + uptoBulkEntries r
def uptoBulkEntry {H : Type} : Lit × DataW H → Nat
  | (.string bytes, d) => bytes.length + uptoBulk d + 1
  | (_, d) => uptoBulk d + 1
 end
def uptoSmall : (H : Type) → List (DataW H) → Bool := fun _ ds => decide (uptoBulkAll ds ≤ 1048576)
def OpenSpec.upto (s : _root_.Go.ChangeSpec) : _root_.Go.OpenSpec := { _root_.Go.OpenSpec.ofChange s with cond := some uptoSmall }

/-- 'laws.FnReach', WHERE WHAT IT READS IS OF BULK AT MOST 1048576: true; the input reads as it did. -/
def fnReachUptoRow : OpenClaim := { program := "ytbbnchodchgioaadoor", sum := "f7e0121c637910ba15892d8361cd7e273ab34890777d999beadf91a9197e5953", func := "loop.example/leaderlesslog/laws.FnReach", spec := "fnReach", unfollowed := true, recurses := true, named := ["math/bits.deBruijn64tab"], apart := false, laid := [("math/bits.deBruijn64tab", laid_math_bits_deBruijn64tab)], narrowed := true }
def FnReachUptoSaid : Prop := fnReachUptoRow.holds Tryd.pinned (OpenSpec.upto fnReachSpec)

/-- 'laws.FnReachAll', WHERE WHAT IT READS IS OF BULK AT MOST 1048576: true; the input reads as it did. -/
def fnReachAllUptoRow : OpenClaim := { program := "ytbbnchodchgioaadoor", sum := "f7e0121c637910ba15892d8361cd7e273ab34890777d999beadf91a9197e5953", func := "loop.example/leaderlesslog/laws.FnReachAll", spec := "fnReachAll", unfollowed := true, recurses := true, named := ["math/bits.deBruijn64tab"], apart := false, laid := [("math/bits.deBruijn64tab", laid_math_bits_deBruijn64tab)], narrowed := true }
def FnReachAllUptoSaid : Prop := fnReachAllUptoRow.holds Tryd.pinned (OpenSpec.upto fnReachAllSpec)

/-- 'laws.FnReachOn', WHERE WHAT IT READS IS OF BULK AT MOST 1048576: true; the input reads as it did. -/
def fnReachOnUptoRow : OpenClaim := { program := "ytbbnchodchgioaadoor", sum := "f7e0121c637910ba15892d8361cd7e273ab34890777d999beadf91a9197e5953", func := "loop.example/leaderlesslog/laws.FnReachOn", spec := "fnReachOn", unfollowed := true, recurses := true, named := ["math/bits.deBruijn64tab"], apart := false, laid := [("math/bits.deBruijn64tab", laid_math_bits_deBruijn64tab)], narrowed := true }
def FnReachOnUptoSaid : Prop := fnReachOnUptoRow.holds Tryd.pinned (OpenSpec.upto fnReachOnSpec)

/-- 'laws.FnGroup', WHERE WHAT IT READS IS OF BULK AT MOST 1048576: true; the input reads as it did. -/
def fnGroupUptoRow : OpenClaim := { program := "ytbbnchodchgioaadoor", sum := "f7e0121c637910ba15892d8361cd7e273ab34890777d999beadf91a9197e5953", func := "loop.example/leaderlesslog/laws.FnGroup", spec := "fnGroup", unfollowed := true, recurses := true, named := ["math/bits.deBruijn64tab"], apart := false, laid := [("math/bits.deBruijn64tab", laid_math_bits_deBruijn64tab)], narrowed := true }
def FnGroupUptoSaid : Prop := fnGroupUptoRow.holds Tryd.pinned (OpenSpec.upto fnGroupSpec)

/-- 'laws.FnGroupSame', WHERE WHAT IT READS IS OF BULK AT MOST 1048576: true; the input reads as it did. -/
def fnGroupSameUptoRow : OpenClaim := { program := "ytbbnchodchgioaadoor", sum := "f7e0121c637910ba15892d8361cd7e273ab34890777d999beadf91a9197e5953", func := "loop.example/leaderlesslog/laws.FnGroupSame", spec := "fnGroupSame", unfollowed := true, recurses := true, named := ["math/bits.deBruijn64tab"], apart := false, laid := [("math/bits.deBruijn64tab", laid_math_bits_deBruijn64tab)], narrowed := true }
def FnGroupSameUptoSaid : Prop := fnGroupSameUptoRow.holds Tryd.pinned (OpenSpec.upto fnGroupSameSpec)

/-- 'laws.FnReady', WHERE WHAT IT READS IS OF BULK AT MOST 1048576: true; the input reads as it did. -/
def fnReadyUptoRow : OpenClaim := { program := "ytbbnchodchgioaadoor", sum := "f7e0121c637910ba15892d8361cd7e273ab34890777d999beadf91a9197e5953", func := "loop.example/leaderlesslog/laws.FnReady", spec := "fnReady", unfollowed := true, recurses := true, named := ["math/bits.deBruijn64tab"], apart := false, laid := [("math/bits.deBruijn64tab", laid_math_bits_deBruijn64tab)], narrowed := true }
def FnReadyUptoSaid : Prop := fnReadyUptoRow.holds Tryd.pinned (OpenSpec.upto fnReadySpec)

/-- 'laws.FnReadyWhen', WHERE WHAT IT READS IS OF BULK AT MOST 1048576: true; the input reads as it did. -/
def fnReadyWhenUptoRow : OpenClaim := { program := "ytbbnchodchgioaadoor", sum := "f7e0121c637910ba15892d8361cd7e273ab34890777d999beadf91a9197e5953", func := "loop.example/leaderlesslog/laws.FnReadyWhen", spec := "fnReadyWhen", unfollowed := true, recurses := true, named := ["math/bits.deBruijn64tab"], apart := false, laid := [("math/bits.deBruijn64tab", laid_math_bits_deBruijn64tab)], narrowed := true }
def FnReadyWhenUptoSaid : Prop := fnReadyWhenUptoRow.holds Tryd.pinned (OpenSpec.upto fnReadyWhenSpec)

/-- 'laws.FnOrderDeps', WHERE WHAT IT READS IS OF BULK AT MOST 1048576: true; the input reads as it did. -/
def fnOrderDepsUptoRow : OpenClaim := { program := "ytbbnchodchgioaadoor", sum := "f7e0121c637910ba15892d8361cd7e273ab34890777d999beadf91a9197e5953", func := "loop.example/leaderlesslog/laws.FnOrderDeps", spec := "fnOrderDeps", unfollowed := true, recurses := true, named := ["math/bits.deBruijn64tab"], apart := false, laid := [("math/bits.deBruijn64tab", laid_math_bits_deBruijn64tab)], narrowed := true }
def FnOrderDepsUptoSaid : Prop := fnOrderDepsUptoRow.holds Tryd.pinned (OpenSpec.upto fnOrderDepsSpec)

/-- 'laws.FnOrderGroup', WHERE WHAT IT READS IS OF BULK AT MOST 1048576: true; the input reads as it did. -/
def fnOrderGroupUptoRow : OpenClaim := { program := "ytbbnchodchgioaadoor", sum := "f7e0121c637910ba15892d8361cd7e273ab34890777d999beadf91a9197e5953", func := "loop.example/leaderlesslog/laws.FnOrderGroup", spec := "fnOrderGroup", unfollowed := true, recurses := true, named := ["math/bits.deBruijn64tab"], apart := false, laid := [("math/bits.deBruijn64tab", laid_math_bits_deBruijn64tab)], narrowed := true }
def FnOrderGroupUptoSaid : Prop := fnOrderGroupUptoRow.holds Tryd.pinned (OpenSpec.upto fnOrderGroupSpec)

/-- 'laws.FnExactNodesReach', WHERE WHAT IT READS IS OF BULK AT MOST 1048576: true; the input reads as it did. -/
def fnExactNodesReachUptoRow : OpenClaim := { program := "ytbbnchodchgioaadoor", sum := "f7e0121c637910ba15892d8361cd7e273ab34890777d999beadf91a9197e5953", func := "loop.example/leaderlesslog/laws.FnExactNodesReach", spec := "fnExactNodesReach", unfollowed := true, recurses := true, named := ["math/bits.deBruijn64tab"], apart := false, laid := [("math/bits.deBruijn64tab", laid_math_bits_deBruijn64tab)], narrowed := true }
def FnExactNodesReachUptoSaid : Prop := fnExactNodesReachUptoRow.holds Tryd.pinned (OpenSpec.upto fnExactNodesReachSpec)

/-- 'laws.FnExactNodesGroup', WHERE WHAT IT READS IS OF BULK AT MOST 1048576: true; the input reads as it did. -/
def fnExactNodesGroupUptoRow : OpenClaim := { program := "ytbbnchodchgioaadoor", sum := "f7e0121c637910ba15892d8361cd7e273ab34890777d999beadf91a9197e5953", func := "loop.example/leaderlesslog/laws.FnExactNodesGroup", spec := "fnExactNodesGroup", unfollowed := true, recurses := true, named := ["math/bits.deBruijn64tab"], apart := false, laid := [("math/bits.deBruijn64tab", laid_math_bits_deBruijn64tab)], narrowed := true }
def FnExactNodesGroupUptoSaid : Prop := fnExactNodesGroupUptoRow.holds Tryd.pinned (OpenSpec.upto fnExactNodesGroupSpec)

end Rows
end Go.Proofs.YtbbnchodchgioaaDoor
