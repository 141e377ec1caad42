/-
  NARROWER THAN 'FOR EVERY INPUT', by the rows' own cells (each row's printed sentence says how): FnPreAccept: laid · FnPreAcceptLog: laid · FnPreAcceptAttrs: laid · FnExactPropose: laid · FnExactPreAccept: laid.
  DERIVED. THE GIVEN ROWS OF THIS SEAT. 5 by the template 'for every input the law returns true; each argument reads behind the call as it read before'; 0 by the template 'total and deterministic' (their statements: YtdikcenhakfheaaGreatDoorTotals.lean).
  GIVEN WITH THE SEED: the statements are not yours to turn. If you find one false, say at which input.
  Laid BY PROGRAM, IN A SANDBOX (cutbox-rows.mjs): the forced cells as the released guide's own fill.sh prints them over the translation ba18b38e0dc5fabc… (all of the seat's roots in one cut). By AI agents, Wed Nov 11 2026. No macro, syntax, notation, axiom, sorry.
-/
import Derived.Test.YtdikcenhakfheaaGreatDoorChecked
import GoSem.Claim
import GoSem.ClaimJoined
import GoSem.ClaimMapViews
import Derived.JoinedTies
import Derived.KernelRfl
namespace Go.Proofs.YtdikcenhakfheaaGreatDoor
/- THE CELL 'sum', in the pinned program and in every row, IS THE sha256 OF THE DUMP (.gsa) THAT YtdikcenhakfheaaGreatDoorProg.lean LOADS. Nothing in Lean hashes anything: it is a label: what it is worth is what the hold of that sum in a sandbox is worth. -/
noncomputable def Tryz.pinned : Pinned := { name := "ytdikcenhakfheaagreatdoor", sum := "ba18b38e0dc5fabc663caa39e8e014af64a8aa838a9e4943ae427a8bd5374848", checked := Tryz.checked }
namespace Rows
def none {H : Type} : Left H := { results := [], args := [] }

/- WHAT THE LISTED PACKAGE-LEVEL VARIABLES READ AS WHEN THE CALL BEGINS. Each datum BY PROGRAM (the guide's laid-datum.mjs) off the statement by which the dump's own 'gosem.cut.vars' lays the variable. In a bare row this is a premise. The card (YtdikcenhakfheaaGreatDoorCards.lean) ties it to the program's text. -/
def laid_math_bits_deBruijn64tab {H : Type} : DataW H := .agg [.lit (.int .u8 0), .lit (.int .u8 1), .lit (.int .u8 56), .lit (.int .u8 2), .lit (.int .u8 57), .lit (.int .u8 49), .lit (.int .u8 28), .lit (.int .u8 3), .lit (.int .u8 61), .lit (.int .u8 58), .lit (.int .u8 42), .lit (.int .u8 50), .lit (.int .u8 38), .lit (.int .u8 29), .lit (.int .u8 17), .lit (.int .u8 4), .lit (.int .u8 62), .lit (.int .u8 47), .lit (.int .u8 59), .lit (.int .u8 36), .lit (.int .u8 45), .lit (.int .u8 43), .lit (.int .u8 51), .lit (.int .u8 22), .lit (.int .u8 53), .lit (.int .u8 39), .lit (.int .u8 33), .lit (.int .u8 30), .lit (.int .u8 24), .lit (.int .u8 18), .lit (.int .u8 12), .lit (.int .u8 5), .lit (.int .u8 63), .lit (.int .u8 55), .lit (.int .u8 48), .lit (.int .u8 27), .lit (.int .u8 60), .lit (.int .u8 41), .lit (.int .u8 37), .lit (.int .u8 16), .lit (.int .u8 46), .lit (.int .u8 35), .lit (.int .u8 44), .lit (.int .u8 21), .lit (.int .u8 52), .lit (.int .u8 32), .lit (.int .u8 23), .lit (.int .u8 11), .lit (.int .u8 54), .lit (.int .u8 26), .lit (.int .u8 40), .lit (.int .u8 15), .lit (.int .u8 34), .lit (.int .u8 20), .lit (.int .u8 31), .lit (.int .u8 10), .lit (.int .u8 25), .lit (.int .u8 14), .lit (.int .u8 19), .lit (.int .u8 9), .lit (.int .u8 13), .lit (.int .u8 8), .lit (.int .u8 7), .lit (.int .u8 6)]

/-- 'laws.FnPreAccept': WHATEVER THE INPUT: true; the input reads as it did. -/
def fnPreAcceptSpec : ChangeSpec := { name := "fnPreAccept", fn := fun _ => fun
  | [d] => { results := [.lit (.bool true)], args := [d] }
  | _ => none }
def fnPreAcceptRow : OpenClaim := { program := "ytdikcenhakfheaagreatdoor", sum := "ba18b38e0dc5fabc663caa39e8e014af64a8aa838a9e4943ae427a8bd5374848", func := "loop.example/leaderlesslog/laws.FnPreAccept", spec := "fnPreAccept", unfollowed := true, recurses := true, named := ["math/bits.deBruijn64tab"], plainKeys := false, apart := false, laid := [("math/bits.deBruijn64tab", laid_math_bits_deBruijn64tab)] }
def FnPreAcceptSaid : Prop := fnPreAcceptRow.holds Tryz.pinned (OpenSpec.ofChange fnPreAcceptSpec)

/-- ITS FALSE NEIGHBOUR: 'it returns false'. Refute it at one input. -/
def fnPreAcceptWrong : ChangeSpec := { name := "fnPreAccept", fn := fun _ => fun
  | [d] => { results := [.lit (.bool false)], args := [d] }
  | _ => none }
def FnPreAcceptWrongFalsely : Prop := fnPreAcceptRow.holds Tryz.pinned (OpenSpec.ofChange fnPreAcceptWrong)

/-- 'laws.FnPreAcceptLog': WHATEVER THE INPUT: true; the input reads as it did. -/
def fnPreAcceptLogSpec : ChangeSpec := { name := "fnPreAcceptLog", fn := fun _ => fun
  | [d] => { results := [.lit (.bool true)], args := [d] }
  | _ => none }
def fnPreAcceptLogRow : OpenClaim := { program := "ytdikcenhakfheaagreatdoor", sum := "ba18b38e0dc5fabc663caa39e8e014af64a8aa838a9e4943ae427a8bd5374848", func := "loop.example/leaderlesslog/laws.FnPreAcceptLog", spec := "fnPreAcceptLog", unfollowed := true, recurses := true, named := ["math/bits.deBruijn64tab"], plainKeys := false, apart := false, laid := [("math/bits.deBruijn64tab", laid_math_bits_deBruijn64tab)] }
def FnPreAcceptLogSaid : Prop := fnPreAcceptLogRow.holds Tryz.pinned (OpenSpec.ofChange fnPreAcceptLogSpec)

/-- ITS FALSE NEIGHBOUR: 'it returns false'. Refute it at one input. -/
def fnPreAcceptLogWrong : ChangeSpec := { name := "fnPreAcceptLog", fn := fun _ => fun
  | [d] => { results := [.lit (.bool false)], args := [d] }
  | _ => none }
def FnPreAcceptLogWrongFalsely : Prop := fnPreAcceptLogRow.holds Tryz.pinned (OpenSpec.ofChange fnPreAcceptLogWrong)

/-- 'laws.FnPreAcceptAttrs': WHATEVER THE INPUT: true; the input reads as it did. -/
def fnPreAcceptAttrsSpec : ChangeSpec := { name := "fnPreAcceptAttrs", fn := fun _ => fun
  | [d] => { results := [.lit (.bool true)], args := [d] }
  | _ => none }
def fnPreAcceptAttrsRow : OpenClaim := { program := "ytdikcenhakfheaagreatdoor", sum := "ba18b38e0dc5fabc663caa39e8e014af64a8aa838a9e4943ae427a8bd5374848", func := "loop.example/leaderlesslog/laws.FnPreAcceptAttrs", spec := "fnPreAcceptAttrs", unfollowed := true, recurses := true, named := ["math/bits.deBruijn64tab"], plainKeys := false, apart := false, laid := [("math/bits.deBruijn64tab", laid_math_bits_deBruijn64tab)] }
def FnPreAcceptAttrsSaid : Prop := fnPreAcceptAttrsRow.holds Tryz.pinned (OpenSpec.ofChange fnPreAcceptAttrsSpec)

/-- ITS FALSE NEIGHBOUR: 'it returns false'. Refute it at one input. -/
def fnPreAcceptAttrsWrong : ChangeSpec := { name := "fnPreAcceptAttrs", fn := fun _ => fun
  | [d] => { results := [.lit (.bool false)], args := [d] }
  | _ => none }
def FnPreAcceptAttrsWrongFalsely : Prop := fnPreAcceptAttrsRow.holds Tryz.pinned (OpenSpec.ofChange fnPreAcceptAttrsWrong)

/-- 'laws.FnExactPropose': WHATEVER THE INPUT: true; the input reads as it did. -/
def fnExactProposeSpec : ChangeSpec := { name := "fnExactPropose", fn := fun _ => fun
  | [d1, d2, d3] => { results := [.lit (.bool true)], args := [d1, d2, d3] }
  | _ => none }
def fnExactProposeRow : OpenClaim := { program := "ytdikcenhakfheaagreatdoor", sum := "ba18b38e0dc5fabc663caa39e8e014af64a8aa838a9e4943ae427a8bd5374848", func := "loop.example/leaderlesslog/laws.FnExactPropose", spec := "fnExactPropose", unfollowed := true, recurses := true, named := ["math/bits.deBruijn64tab"], plainKeys := false, apart := false, laid := [("math/bits.deBruijn64tab", laid_math_bits_deBruijn64tab)] }
def FnExactProposeSaid : Prop := fnExactProposeRow.holds Tryz.pinned (OpenSpec.ofChange fnExactProposeSpec)

/-- ITS FALSE NEIGHBOUR: 'it returns false'. Refute it at one input. -/
def fnExactProposeWrong : ChangeSpec := { name := "fnExactPropose", fn := fun _ => fun
  | [d1, d2, d3] => { results := [.lit (.bool false)], args := [d1, d2, d3] }
  | _ => none }
def FnExactProposeWrongFalsely : Prop := fnExactProposeRow.holds Tryz.pinned (OpenSpec.ofChange fnExactProposeWrong)

/-- 'laws.FnExactPreAccept': WHATEVER THE INPUT: true; the input reads as it did. -/
def fnExactPreAcceptSpec : ChangeSpec := { name := "fnExactPreAccept", fn := fun _ => fun
  | [d1, d2] => { results := [.lit (.bool true)], args := [d1, d2] }
  | _ => none }
def fnExactPreAcceptRow : OpenClaim := { program := "ytdikcenhakfheaagreatdoor", sum := "ba18b38e0dc5fabc663caa39e8e014af64a8aa838a9e4943ae427a8bd5374848", func := "loop.example/leaderlesslog/laws.FnExactPreAccept", spec := "fnExactPreAccept", unfollowed := true, recurses := true, named := ["math/bits.deBruijn64tab"], plainKeys := false, apart := false, laid := [("math/bits.deBruijn64tab", laid_math_bits_deBruijn64tab)] }
def FnExactPreAcceptSaid : Prop := fnExactPreAcceptRow.holds Tryz.pinned (OpenSpec.ofChange fnExactPreAcceptSpec)

/-- ITS FALSE NEIGHBOUR: 'it returns false'. Refute it at one input. -/
def fnExactPreAcceptWrong : ChangeSpec := { name := "fnExactPreAccept", fn := fun _ => fun
  | [d1, d2] => { results := [.lit (.bool false)], args := [d1, d2] }
  | _ => none }
def FnExactPreAcceptWrongFalsely : Prop := fnExactPreAcceptRow.holds Tryz.pinned (OpenSpec.ofChange fnExactPreAcceptWrong)

/- THE SECOND FORM. 'bulk': how many values and letters a reading holds, each counted each time it is reached (what is shared counts as often as it is met; a slice's spare places count too). A statement '..UptoSaid' is the law's where the arguments, and the package variables that the reading takes, are together of bulk at most 1048576: NARROWER than '..Said'. Prove '..Said' where nothing that the law and all that it calls make is longer than what came in: it says more and counts as full. Else prove '..UptoSaid'. A law counts once. -/
mutual
def uptoBulk {H : Type} : DataW H → Nat
  | .lit (.string bytes) => bytes.length + 1
  | .lit _ => 1
  | .nil => 1
  | .ptr d => uptoBulk d + 1
  | .slice elems spare => uptoBulkAll elems + uptoBulkAll spare + 1
  | .agg parts => uptoBulkAll parts + 1
  | .iface _ d => uptoBulk d + 1
  | .map entries => uptoBulkEntries entries + 1
  | .held _ => 1
def uptoBulkAll {H : Type} : List (DataW H) → Nat
  | [] => 0
  | d :: r => uptoBulk d + uptoBulkAll r
def uptoBulkEntries {H : Type} : List (Lit × DataW H) → Nat
  | [] => 0
  | x :: r => uptoBulkEntry x + uptoBulkEntries r
def uptoBulkEntry {H : Type} : Lit × DataW H → Nat
  | (.string bytes, d) => bytes.length + uptoBulk d + 1
  | (_, d) => uptoBulk d + 1
 end
def uptoSmall : (H : Type) → List (DataW H) → Bool := fun _ ds => decide (uptoBulkAll ds ≤ 1048576)
def OpenSpec.upto (s : _root_.Go.ChangeSpec) : _root_.Go.OpenSpec := { _root_.Go.OpenSpec.ofChange s with cond := some uptoSmall }

/-- 'laws.FnPreAccept', WHERE WHAT IT READS IS OF BULK AT MOST 1048576: true; the input reads as it did. -/
def fnPreAcceptUptoRow : OpenClaim := { program := "ytdikcenhakfheaagreatdoor", sum := "ba18b38e0dc5fabc663caa39e8e014af64a8aa838a9e4943ae427a8bd5374848", func := "loop.example/leaderlesslog/laws.FnPreAccept", spec := "fnPreAccept", unfollowed := true, recurses := true, named := ["math/bits.deBruijn64tab"], plainKeys := false, apart := false, laid := [("math/bits.deBruijn64tab", laid_math_bits_deBruijn64tab)], narrowed := true }
def FnPreAcceptUptoSaid : Prop := fnPreAcceptUptoRow.holds Tryz.pinned (OpenSpec.upto fnPreAcceptSpec)

/-- 'laws.FnPreAcceptLog', WHERE WHAT IT READS IS OF BULK AT MOST 1048576: true; the input reads as it did. -/
def fnPreAcceptLogUptoRow : OpenClaim := { program := "ytdikcenhakfheaagreatdoor", sum := "ba18b38e0dc5fabc663caa39e8e014af64a8aa838a9e4943ae427a8bd5374848", func := "loop.example/leaderlesslog/laws.FnPreAcceptLog", spec := "fnPreAcceptLog", unfollowed := true, recurses := true, named := ["math/bits.deBruijn64tab"], plainKeys := false, apart := false, laid := [("math/bits.deBruijn64tab", laid_math_bits_deBruijn64tab)], narrowed := true }
def FnPreAcceptLogUptoSaid : Prop := fnPreAcceptLogUptoRow.holds Tryz.pinned (OpenSpec.upto fnPreAcceptLogSpec)

/-- 'laws.FnPreAcceptAttrs', WHERE WHAT IT READS IS OF BULK AT MOST 1048576: true; the input reads as it did. -/
def fnPreAcceptAttrsUptoRow : OpenClaim := { program := "ytdikcenhakfheaagreatdoor", sum := "ba18b38e0dc5fabc663caa39e8e014af64a8aa838a9e4943ae427a8bd5374848", func := "loop.example/leaderlesslog/laws.FnPreAcceptAttrs", spec := "fnPreAcceptAttrs", unfollowed := true, recurses := true, named := ["math/bits.deBruijn64tab"], plainKeys := false, apart := false, laid := [("math/bits.deBruijn64tab", laid_math_bits_deBruijn64tab)], narrowed := true }
def FnPreAcceptAttrsUptoSaid : Prop := fnPreAcceptAttrsUptoRow.holds Tryz.pinned (OpenSpec.upto fnPreAcceptAttrsSpec)

/-- 'laws.FnExactPropose', WHERE WHAT IT READS IS OF BULK AT MOST 1048576: true; the input reads as it did. -/
def fnExactProposeUptoRow : OpenClaim := { program := "ytdikcenhakfheaagreatdoor", sum := "ba18b38e0dc5fabc663caa39e8e014af64a8aa838a9e4943ae427a8bd5374848", func := "loop.example/leaderlesslog/laws.FnExactPropose", spec := "fnExactPropose", unfollowed := true, recurses := true, named := ["math/bits.deBruijn64tab"], plainKeys := false, apart := false, laid := [("math/bits.deBruijn64tab", laid_math_bits_deBruijn64tab)], narrowed := true }
def FnExactProposeUptoSaid : Prop := fnExactProposeUptoRow.holds Tryz.pinned (OpenSpec.upto fnExactProposeSpec)

/-- 'laws.FnExactPreAccept', WHERE WHAT IT READS IS OF BULK AT MOST 1048576: true; the input reads as it did. -/
def fnExactPreAcceptUptoRow : OpenClaim := { program := "ytdikcenhakfheaagreatdoor", sum := "ba18b38e0dc5fabc663caa39e8e014af64a8aa838a9e4943ae427a8bd5374848", func := "loop.example/leaderlesslog/laws.FnExactPreAccept", spec := "fnExactPreAccept", unfollowed := true, recurses := true, named := ["math/bits.deBruijn64tab"], plainKeys := false, apart := false, laid := [("math/bits.deBruijn64tab", laid_math_bits_deBruijn64tab)], narrowed := true }
def FnExactPreAcceptUptoSaid : Prop := fnExactPreAcceptUptoRow.holds Tryz.pinned (OpenSpec.upto fnExactPreAcceptSpec)

end Rows
end Go.Proofs.YtdikcenhakfheaaGreatDoor
