/-
  NARROWER THAN 'FOR EVERY INPUT', by the rows' own cells (each row's printed sentence says how): FnTake: ifaces, laid · FnTakeOld: ifaces, laid · FnTakeFixed: ifaces, laid · FnFix: ifaces, laid · FnFixStay: ifaces, laid · FnFixOthers: ifaces, laid · FnFixBallot: ifaces, laid · FnExactTakeEntry: ifaces, laid · FnExactFixEntry: ifaces, laid.
  DERIVED. THE GIVEN ROWS OF THIS SEAT. 9 by the template 'for every input the law returns true; each argument reads behind the call as it read before'; 0 by the template 'total and deterministic' (their statements: YtiolhjjkjmepcaaGreatDoorTotals.lean).
  GIVEN WITH THE SEED: the statements are not yours to turn. If you find one false, say at which input.
  Laid BY PROGRAM, IN A SANDBOX (cutbox-rows.mjs): the forced cells as the released guide's own fill.sh prints them over the translation f97731f70aff02c3… (all of the seat's roots in one cut). By AI agents, Wed Nov 11 2026. No macro, syntax, notation, axiom, sorry.
-/
import Derived.Test.YtiolhjjkjmepcaaGreatDoorChecked
import GoSem.Claim
import GoSem.ClaimJoined
import GoSem.ClaimMapViews
import Derived.JoinedTies
import Derived.KernelRfl
namespace Go.Proofs.YtiolhjjkjmepcaaGreatDoor
/- THE CELL 'sum', in the pinned program and in every row, IS THE sha256 OF THE DUMP (.gsa) THAT YtiolhjjkjmepcaaGreatDoorProg.lean LOADS. Nothing in Lean hashes anything: it is a label: what it is worth is what the hold of that sum in a sandbox is worth. -/
noncomputable def Tryz.pinned : Pinned := { name := "ytiolhjjkjmepcaagreatdoor", sum := "f97731f70aff02c36def0c2b05b8e40e042893ea8482cc9a6fae0f17120b5e09", checked := Tryz.checked }
namespace Rows
def none {H : Type} : Left H := { results := [], args := [] }

/- WHAT THE LISTED PACKAGE-LEVEL VARIABLES READ AS WHEN THE CALL BEGINS. Each datum BY PROGRAM (the guide's laid-datum.mjs) off the statement by which the dump's own 'gosem.cut.vars' lays the variable. In a bare row this is a premise. The card (YtiolhjjkjmepcaaGreatDoorCards.lean) ties it to the program's text. -/
def laid_loop_example_leaderlesslog_impl_errFixed {H : Type} : DataW H := .iface "*errors.errorString" (.ptr (.agg [.lit (.string [116, 104, 101, 32, 105, 100, 32, 105, 115, 32, 102, 105, 120, 101, 100])]))
def laid_loop_example_leaderlesslog_impl_errPassed {H : Type} : DataW H := .iface "*errors.errorString" (.ptr (.agg [.lit (.string [116, 104, 101, 32, 105, 100, 32, 104, 97, 115, 32, 97, 32, 103, 114, 101, 97, 116, 101, 114, 32, 98, 97, 108, 108, 111, 116])]))

/-- 'laws.FnTake': WHATEVER THE INPUT: true; the input reads as it did. -/
def fnTakeSpec : ChangeSpec := { name := "fnTake", vars := ["loop.example/leaderlesslog/impl.errFixed", "loop.example/leaderlesslog/impl.errPassed"], fn := fun _ => fun
  | [d, g1, g2] => { results := [.lit (.bool true)], args := [d], vars := [g1, g2] }
  | _ => none }
def fnTakeRow : OpenClaim := { program := "ytiolhjjkjmepcaagreatdoor", sum := "f97731f70aff02c36def0c2b05b8e40e042893ea8482cc9a6fae0f17120b5e09", func := "loop.example/leaderlesslog/laws.FnTake", spec := "fnTake", inPlace := ["internal/reflectlite.TypeOf"], unfollowed := true, recurses := true, named := ["loop.example/leaderlesslog/impl.errFixed", "loop.example/leaderlesslog/impl.errPassed"], ifaces := true, plainKeys := false, apart := false, laid := [("loop.example/leaderlesslog/impl.errFixed", laid_loop_example_leaderlesslog_impl_errFixed), ("loop.example/leaderlesslog/impl.errPassed", laid_loop_example_leaderlesslog_impl_errPassed)] }
def FnTakeSaid : Prop := fnTakeRow.holds Tryz.pinned (OpenSpec.ofChange fnTakeSpec)

/-- ITS FALSE NEIGHBOUR: 'it returns false'. Refute it at one input. -/
def fnTakeWrong : ChangeSpec := { name := "fnTake", vars := ["loop.example/leaderlesslog/impl.errFixed", "loop.example/leaderlesslog/impl.errPassed"], fn := fun _ => fun
  | [d, g1, g2] => { results := [.lit (.bool false)], args := [d], vars := [g1, g2] }
  | _ => none }
def FnTakeWrongFalsely : Prop := fnTakeRow.holds Tryz.pinned (OpenSpec.ofChange fnTakeWrong)

/-- 'laws.FnTakeOld': WHATEVER THE INPUT: true; the input reads as it did. -/
def fnTakeOldSpec : ChangeSpec := { name := "fnTakeOld", vars := ["loop.example/leaderlesslog/impl.errFixed", "loop.example/leaderlesslog/impl.errPassed"], fn := fun _ => fun
  | [d, g1, g2] => { results := [.lit (.bool true)], args := [d], vars := [g1, g2] }
  | _ => none }
def fnTakeOldRow : OpenClaim := { program := "ytiolhjjkjmepcaagreatdoor", sum := "f97731f70aff02c36def0c2b05b8e40e042893ea8482cc9a6fae0f17120b5e09", func := "loop.example/leaderlesslog/laws.FnTakeOld", spec := "fnTakeOld", inPlace := ["internal/reflectlite.TypeOf"], unfollowed := true, recurses := true, named := ["loop.example/leaderlesslog/impl.errFixed", "loop.example/leaderlesslog/impl.errPassed"], ifaces := true, plainKeys := false, apart := false, laid := [("loop.example/leaderlesslog/impl.errFixed", laid_loop_example_leaderlesslog_impl_errFixed), ("loop.example/leaderlesslog/impl.errPassed", laid_loop_example_leaderlesslog_impl_errPassed)] }
def FnTakeOldSaid : Prop := fnTakeOldRow.holds Tryz.pinned (OpenSpec.ofChange fnTakeOldSpec)

/-- ITS FALSE NEIGHBOUR: 'it returns false'. Refute it at one input. -/
def fnTakeOldWrong : ChangeSpec := { name := "fnTakeOld", vars := ["loop.example/leaderlesslog/impl.errFixed", "loop.example/leaderlesslog/impl.errPassed"], fn := fun _ => fun
  | [d, g1, g2] => { results := [.lit (.bool false)], args := [d], vars := [g1, g2] }
  | _ => none }
def FnTakeOldWrongFalsely : Prop := fnTakeOldRow.holds Tryz.pinned (OpenSpec.ofChange fnTakeOldWrong)

/-- 'laws.FnTakeFixed': WHATEVER THE INPUT: true; the input reads as it did. -/
def fnTakeFixedSpec : ChangeSpec := { name := "fnTakeFixed", vars := ["loop.example/leaderlesslog/impl.errFixed", "loop.example/leaderlesslog/impl.errPassed"], fn := fun _ => fun
  | [d, g1, g2] => { results := [.lit (.bool true)], args := [d], vars := [g1, g2] }
  | _ => none }
def fnTakeFixedRow : OpenClaim := { program := "ytiolhjjkjmepcaagreatdoor", sum := "f97731f70aff02c36def0c2b05b8e40e042893ea8482cc9a6fae0f17120b5e09", func := "loop.example/leaderlesslog/laws.FnTakeFixed", spec := "fnTakeFixed", inPlace := ["internal/reflectlite.TypeOf"], unfollowed := true, recurses := true, named := ["loop.example/leaderlesslog/impl.errFixed", "loop.example/leaderlesslog/impl.errPassed"], ifaces := true, plainKeys := false, apart := false, laid := [("loop.example/leaderlesslog/impl.errFixed", laid_loop_example_leaderlesslog_impl_errFixed), ("loop.example/leaderlesslog/impl.errPassed", laid_loop_example_leaderlesslog_impl_errPassed)] }
def FnTakeFixedSaid : Prop := fnTakeFixedRow.holds Tryz.pinned (OpenSpec.ofChange fnTakeFixedSpec)

/-- ITS FALSE NEIGHBOUR: 'it returns false'. Refute it at one input. -/
def fnTakeFixedWrong : ChangeSpec := { name := "fnTakeFixed", vars := ["loop.example/leaderlesslog/impl.errFixed", "loop.example/leaderlesslog/impl.errPassed"], fn := fun _ => fun
  | [d, g1, g2] => { results := [.lit (.bool false)], args := [d], vars := [g1, g2] }
  | _ => none }
def FnTakeFixedWrongFalsely : Prop := fnTakeFixedRow.holds Tryz.pinned (OpenSpec.ofChange fnTakeFixedWrong)

/-- 'laws.FnFix': WHATEVER THE INPUT: true; the input reads as it did. -/
def fnFixSpec : ChangeSpec := { name := "fnFix", vars := ["loop.example/leaderlesslog/impl.errFixed", "loop.example/leaderlesslog/impl.errPassed"], fn := fun _ => fun
  | [d, g1, g2] => { results := [.lit (.bool true)], args := [d], vars := [g1, g2] }
  | _ => none }
def fnFixRow : OpenClaim := { program := "ytiolhjjkjmepcaagreatdoor", sum := "f97731f70aff02c36def0c2b05b8e40e042893ea8482cc9a6fae0f17120b5e09", func := "loop.example/leaderlesslog/laws.FnFix", spec := "fnFix", inPlace := ["internal/reflectlite.TypeOf"], unfollowed := true, recurses := true, named := ["loop.example/leaderlesslog/impl.errFixed", "loop.example/leaderlesslog/impl.errPassed"], ifaces := true, plainKeys := false, apart := false, laid := [("loop.example/leaderlesslog/impl.errFixed", laid_loop_example_leaderlesslog_impl_errFixed), ("loop.example/leaderlesslog/impl.errPassed", laid_loop_example_leaderlesslog_impl_errPassed)] }
def FnFixSaid : Prop := fnFixRow.holds Tryz.pinned (OpenSpec.ofChange fnFixSpec)

/-- ITS FALSE NEIGHBOUR: 'it returns false'. Refute it at one input. -/
def fnFixWrong : ChangeSpec := { name := "fnFix", vars := ["loop.example/leaderlesslog/impl.errFixed", "loop.example/leaderlesslog/impl.errPassed"], fn := fun _ => fun
  | [d, g1, g2] => { results := [.lit (.bool false)], args := [d], vars := [g1, g2] }
  | _ => none }
def FnFixWrongFalsely : Prop := fnFixRow.holds Tryz.pinned (OpenSpec.ofChange fnFixWrong)

/-- 'laws.FnFixStay': WHATEVER THE INPUT: true; the input reads as it did. -/
def fnFixStaySpec : ChangeSpec := { name := "fnFixStay", vars := ["loop.example/leaderlesslog/impl.errFixed", "loop.example/leaderlesslog/impl.errPassed"], fn := fun _ => fun
  | [d, g1, g2] => { results := [.lit (.bool true)], args := [d], vars := [g1, g2] }
  | _ => none }
def fnFixStayRow : OpenClaim := { program := "ytiolhjjkjmepcaagreatdoor", sum := "f97731f70aff02c36def0c2b05b8e40e042893ea8482cc9a6fae0f17120b5e09", func := "loop.example/leaderlesslog/laws.FnFixStay", spec := "fnFixStay", inPlace := ["internal/reflectlite.TypeOf"], unfollowed := true, recurses := true, named := ["loop.example/leaderlesslog/impl.errFixed", "loop.example/leaderlesslog/impl.errPassed"], ifaces := true, plainKeys := false, apart := false, laid := [("loop.example/leaderlesslog/impl.errFixed", laid_loop_example_leaderlesslog_impl_errFixed), ("loop.example/leaderlesslog/impl.errPassed", laid_loop_example_leaderlesslog_impl_errPassed)] }
def FnFixStaySaid : Prop := fnFixStayRow.holds Tryz.pinned (OpenSpec.ofChange fnFixStaySpec)

/-- ITS FALSE NEIGHBOUR: 'it returns false'. Refute it at one input. -/
def fnFixStayWrong : ChangeSpec := { name := "fnFixStay", vars := ["loop.example/leaderlesslog/impl.errFixed", "loop.example/leaderlesslog/impl.errPassed"], fn := fun _ => fun
  | [d, g1, g2] => { results := [.lit (.bool false)], args := [d], vars := [g1, g2] }
  | _ => none }
def FnFixStayWrongFalsely : Prop := fnFixStayRow.holds Tryz.pinned (OpenSpec.ofChange fnFixStayWrong)

/-- 'laws.FnFixOthers': WHATEVER THE INPUT: true; the input reads as it did. -/
def fnFixOthersSpec : ChangeSpec := { name := "fnFixOthers", vars := ["loop.example/leaderlesslog/impl.errFixed", "loop.example/leaderlesslog/impl.errPassed"], fn := fun _ => fun
  | [d, g1, g2] => { results := [.lit (.bool true)], args := [d], vars := [g1, g2] }
  | _ => none }
def fnFixOthersRow : OpenClaim := { program := "ytiolhjjkjmepcaagreatdoor", sum := "f97731f70aff02c36def0c2b05b8e40e042893ea8482cc9a6fae0f17120b5e09", func := "loop.example/leaderlesslog/laws.FnFixOthers", spec := "fnFixOthers", inPlace := ["internal/reflectlite.TypeOf"], unfollowed := true, recurses := true, named := ["loop.example/leaderlesslog/impl.errFixed", "loop.example/leaderlesslog/impl.errPassed"], ifaces := true, plainKeys := false, apart := false, laid := [("loop.example/leaderlesslog/impl.errFixed", laid_loop_example_leaderlesslog_impl_errFixed), ("loop.example/leaderlesslog/impl.errPassed", laid_loop_example_leaderlesslog_impl_errPassed)] }
def FnFixOthersSaid : Prop := fnFixOthersRow.holds Tryz.pinned (OpenSpec.ofChange fnFixOthersSpec)

/-- ITS FALSE NEIGHBOUR: 'it returns false'. Refute it at one input. -/
def fnFixOthersWrong : ChangeSpec := { name := "fnFixOthers", vars := ["loop.example/leaderlesslog/impl.errFixed", "loop.example/leaderlesslog/impl.errPassed"], fn := fun _ => fun
  | [d, g1, g2] => { results := [.lit (.bool false)], args := [d], vars := [g1, g2] }
  | _ => none }
def FnFixOthersWrongFalsely : Prop := fnFixOthersRow.holds Tryz.pinned (OpenSpec.ofChange fnFixOthersWrong)

/-- 'laws.FnFixBallot': WHATEVER THE INPUT: true; the input reads as it did. -/
def fnFixBallotSpec : ChangeSpec := { name := "fnFixBallot", vars := ["loop.example/leaderlesslog/impl.errFixed", "loop.example/leaderlesslog/impl.errPassed"], fn := fun _ => fun
  | [d1, d2, g1, g2] => { results := [.lit (.bool true)], args := [d1, d2], vars := [g1, g2] }
  | _ => none }
def fnFixBallotRow : OpenClaim := { program := "ytiolhjjkjmepcaagreatdoor", sum := "f97731f70aff02c36def0c2b05b8e40e042893ea8482cc9a6fae0f17120b5e09", func := "loop.example/leaderlesslog/laws.FnFixBallot", spec := "fnFixBallot", inPlace := ["internal/reflectlite.TypeOf"], unfollowed := true, recurses := true, named := ["loop.example/leaderlesslog/impl.errFixed", "loop.example/leaderlesslog/impl.errPassed"], ifaces := true, plainKeys := false, apart := false, laid := [("loop.example/leaderlesslog/impl.errFixed", laid_loop_example_leaderlesslog_impl_errFixed), ("loop.example/leaderlesslog/impl.errPassed", laid_loop_example_leaderlesslog_impl_errPassed)] }
def FnFixBallotSaid : Prop := fnFixBallotRow.holds Tryz.pinned (OpenSpec.ofChange fnFixBallotSpec)

/-- ITS FALSE NEIGHBOUR: 'it returns false'. Refute it at one input. -/
def fnFixBallotWrong : ChangeSpec := { name := "fnFixBallot", vars := ["loop.example/leaderlesslog/impl.errFixed", "loop.example/leaderlesslog/impl.errPassed"], fn := fun _ => fun
  | [d1, d2, g1, g2] => { results := [.lit (.bool false)], args := [d1, d2], vars := [g1, g2] }
  | _ => none }
def FnFixBallotWrongFalsely : Prop := fnFixBallotRow.holds Tryz.pinned (OpenSpec.ofChange fnFixBallotWrong)

/-- 'laws.FnExactTakeEntry': WHATEVER THE INPUT: true; the input reads as it did. -/
def fnExactTakeEntrySpec : ChangeSpec := { name := "fnExactTakeEntry", vars := ["loop.example/leaderlesslog/impl.errFixed", "loop.example/leaderlesslog/impl.errPassed"], fn := fun _ => fun
  | [d1, d2, g1, g2] => { results := [.lit (.bool true)], args := [d1, d2], vars := [g1, g2] }
  | _ => none }
def fnExactTakeEntryRow : OpenClaim := { program := "ytiolhjjkjmepcaagreatdoor", sum := "f97731f70aff02c36def0c2b05b8e40e042893ea8482cc9a6fae0f17120b5e09", func := "loop.example/leaderlesslog/laws.FnExactTakeEntry", spec := "fnExactTakeEntry", inPlace := ["internal/reflectlite.TypeOf"], unfollowed := true, recurses := true, named := ["loop.example/leaderlesslog/impl.errFixed", "loop.example/leaderlesslog/impl.errPassed"], ifaces := true, plainKeys := false, apart := false, laid := [("loop.example/leaderlesslog/impl.errFixed", laid_loop_example_leaderlesslog_impl_errFixed), ("loop.example/leaderlesslog/impl.errPassed", laid_loop_example_leaderlesslog_impl_errPassed)] }
def FnExactTakeEntrySaid : Prop := fnExactTakeEntryRow.holds Tryz.pinned (OpenSpec.ofChange fnExactTakeEntrySpec)

/-- ITS FALSE NEIGHBOUR: 'it returns false'. Refute it at one input. -/
def fnExactTakeEntryWrong : ChangeSpec := { name := "fnExactTakeEntry", vars := ["loop.example/leaderlesslog/impl.errFixed", "loop.example/leaderlesslog/impl.errPassed"], fn := fun _ => fun
  | [d1, d2, g1, g2] => { results := [.lit (.bool false)], args := [d1, d2], vars := [g1, g2] }
  | _ => none }
def FnExactTakeEntryWrongFalsely : Prop := fnExactTakeEntryRow.holds Tryz.pinned (OpenSpec.ofChange fnExactTakeEntryWrong)

/-- 'laws.FnExactFixEntry': WHATEVER THE INPUT: true; the input reads as it did. -/
def fnExactFixEntrySpec : ChangeSpec := { name := "fnExactFixEntry", vars := ["loop.example/leaderlesslog/impl.errFixed", "loop.example/leaderlesslog/impl.errPassed"], fn := fun _ => fun
  | [d1, d2, g1, g2] => { results := [.lit (.bool true)], args := [d1, d2], vars := [g1, g2] }
  | _ => none }
def fnExactFixEntryRow : OpenClaim := { program := "ytiolhjjkjmepcaagreatdoor", sum := "f97731f70aff02c36def0c2b05b8e40e042893ea8482cc9a6fae0f17120b5e09", func := "loop.example/leaderlesslog/laws.FnExactFixEntry", spec := "fnExactFixEntry", inPlace := ["internal/reflectlite.TypeOf"], unfollowed := true, recurses := true, named := ["loop.example/leaderlesslog/impl.errFixed", "loop.example/leaderlesslog/impl.errPassed"], ifaces := true, plainKeys := false, apart := false, laid := [("loop.example/leaderlesslog/impl.errFixed", laid_loop_example_leaderlesslog_impl_errFixed), ("loop.example/leaderlesslog/impl.errPassed", laid_loop_example_leaderlesslog_impl_errPassed)] }
def FnExactFixEntrySaid : Prop := fnExactFixEntryRow.holds Tryz.pinned (OpenSpec.ofChange fnExactFixEntrySpec)

/-- ITS FALSE NEIGHBOUR: 'it returns false'. Refute it at one input. -/
def fnExactFixEntryWrong : ChangeSpec := { name := "fnExactFixEntry", vars := ["loop.example/leaderlesslog/impl.errFixed", "loop.example/leaderlesslog/impl.errPassed"], fn := fun _ => fun
  | [d1, d2, g1, g2] => { results := [.lit (.bool false)], args := [d1, d2], vars := [g1, g2] }
  | _ => none }
def FnExactFixEntryWrongFalsely : Prop := fnExactFixEntryRow.holds Tryz.pinned (OpenSpec.ofChange fnExactFixEntryWrong)

/- THE SECOND FORM. 'bulk': how many values and letters a reading holds, each counted each time it is reached (what is shared counts as often as it is met; a slice's spare places count too). A statement '..UptoSaid' is the law's where the arguments, and the package variables that the reading takes, are together of bulk at most 1048576: NARROWER than '..Said'. Prove '..Said' where nothing that the law and all that it calls make is longer than what came in: it says more and counts as full. Else prove '..UptoSaid'. A law counts once. -/
mutual
def uptoBulk {H : Type} : DataW H → Nat
  | .lit (.string bytes) => bytes.length + 1
  | .lit _ => 1
  | .nil => 1
  | .ptr d => uptoBulk d + 1
  | .slice elems spare => uptoBulkAll elems + uptoBulkAll spare + 1
  | .agg parts => uptoBulkAll parts + 1
  | .iface _ d => uptoBulk d + 1
  | .map entries => uptoBulkEntries entries + 1
  | .held _ => 1
def uptoBulkAll {H : Type} : List (DataW H) → Nat
  | [] => 0
  | d :: r => uptoBulk d + uptoBulkAll r
def uptoBulkEntries {H : Type} : List (Lit × DataW H) → Nat
  | [] => 0
  | x :: r => uptoBulkEntry x + uptoBulkEntries r
def uptoBulkEntry {H : Type} : Lit × DataW H → Nat
  | (.string bytes, d) => bytes.length + uptoBulk d + 1
  | (_, d) => uptoBulk d + 1
 end
def uptoSmall : (H : Type) → List (DataW H) → Bool := fun _ ds => decide (uptoBulkAll ds ≤ 1048576)
def OpenSpec.upto (s : _root_.Go.ChangeSpec) : _root_.Go.OpenSpec := { _root_.Go.OpenSpec.ofChange s with cond := some uptoSmall }

/-- 'laws.FnTake', WHERE WHAT IT READS IS OF BULK AT MOST 1048576: true; the input reads as it did. -/
def fnTakeUptoRow : OpenClaim := { program := "ytiolhjjkjmepcaagreatdoor", sum := "f97731f70aff02c36def0c2b05b8e40e042893ea8482cc9a6fae0f17120b5e09", func := "loop.example/leaderlesslog/laws.FnTake", spec := "fnTake", inPlace := ["internal/reflectlite.TypeOf"], unfollowed := true, recurses := true, named := ["loop.example/leaderlesslog/impl.errFixed", "loop.example/leaderlesslog/impl.errPassed"], ifaces := true, plainKeys := false, apart := false, laid := [("loop.example/leaderlesslog/impl.errFixed", laid_loop_example_leaderlesslog_impl_errFixed), ("loop.example/leaderlesslog/impl.errPassed", laid_loop_example_leaderlesslog_impl_errPassed)], narrowed := true }
def FnTakeUptoSaid : Prop := fnTakeUptoRow.holds Tryz.pinned (OpenSpec.upto fnTakeSpec)

/-- 'laws.FnTakeOld', WHERE WHAT IT READS IS OF BULK AT MOST 1048576: true; the input reads as it did. -/
def fnTakeOldUptoRow : OpenClaim := { program := "ytiolhjjkjmepcaagreatdoor", sum := "f97731f70aff02c36def0c2b05b8e40e042893ea8482cc9a6fae0f17120b5e09", func := "loop.example/leaderlesslog/laws.FnTakeOld", spec := "fnTakeOld", inPlace := ["internal/reflectlite.TypeOf"], unfollowed := true, recurses := true, named := ["loop.example/leaderlesslog/impl.errFixed", "loop.example/leaderlesslog/impl.errPassed"], ifaces := true, plainKeys := false, apart := false, laid := [("loop.example/leaderlesslog/impl.errFixed", laid_loop_example_leaderlesslog_impl_errFixed), ("loop.example/leaderlesslog/impl.errPassed", laid_loop_example_leaderlesslog_impl_errPassed)], narrowed := true }
def FnTakeOldUptoSaid : Prop := fnTakeOldUptoRow.holds Tryz.pinned (OpenSpec.upto fnTakeOldSpec)

/-- 'laws.FnTakeFixed', WHERE WHAT IT READS IS OF BULK AT MOST 1048576: true; the input reads as it did. -/
def fnTakeFixedUptoRow : OpenClaim := { program := "ytiolhjjkjmepcaagreatdoor", sum := "f97731f70aff02c36def0c2b05b8e40e042893ea8482cc9a6fae0f17120b5e09", func := "loop.example/leaderlesslog/laws.FnTakeFixed", spec := "fnTakeFixed", inPlace := ["internal/reflectlite.TypeOf"], unfollowed := true, recurses := true, named := ["loop.example/leaderlesslog/impl.errFixed", "loop.example/leaderlesslog/impl.errPassed"], ifaces := true, plainKeys := false, apart := false, laid := [("loop.example/leaderlesslog/impl.errFixed", laid_loop_example_leaderlesslog_impl_errFixed), ("loop.example/leaderlesslog/impl.errPassed", laid_loop_example_leaderlesslog_impl_errPassed)], narrowed := true }
def FnTakeFixedUptoSaid : Prop := fnTakeFixedUptoRow.holds Tryz.pinned (OpenSpec.upto fnTakeFixedSpec)

/-- 'laws.FnFix', WHERE WHAT IT READS IS OF BULK AT MOST 1048576: true; the input reads as it did. -/
def fnFixUptoRow : OpenClaim := { program := "ytiolhjjkjmepcaagreatdoor", sum := "f97731f70aff02c36def0c2b05b8e40e042893ea8482cc9a6fae0f17120b5e09", func := "loop.example/leaderlesslog/laws.FnFix", spec := "fnFix", inPlace := ["internal/reflectlite.TypeOf"], unfollowed := true, recurses := true, named := ["loop.example/leaderlesslog/impl.errFixed", "loop.example/leaderlesslog/impl.errPassed"], ifaces := true, plainKeys := false, apart := false, laid := [("loop.example/leaderlesslog/impl.errFixed", laid_loop_example_leaderlesslog_impl_errFixed), ("loop.example/leaderlesslog/impl.errPassed", laid_loop_example_leaderlesslog_impl_errPassed)], narrowed := true }
def FnFixUptoSaid : Prop := fnFixUptoRow.holds Tryz.pinned (OpenSpec.upto fnFixSpec)

/-- 'laws.FnFixStay', WHERE WHAT IT READS IS OF BULK AT MOST 1048576: true; the input reads as it did. -/
def fnFixStayUptoRow : OpenClaim := { program := "ytiolhjjkjmepcaagreatdoor", sum := "f97731f70aff02c36def0c2b05b8e40e042893ea8482cc9a6fae0f17120b5e09", func := "loop.example/leaderlesslog/laws.FnFixStay", spec := "fnFixStay", inPlace := ["internal/reflectlite.TypeOf"], unfollowed := true, recurses := true, named := ["loop.example/leaderlesslog/impl.errFixed", "loop.example/leaderlesslog/impl.errPassed"], ifaces := true, plainKeys := false, apart := false, laid := [("loop.example/leaderlesslog/impl.errFixed", laid_loop_example_leaderlesslog_impl_errFixed), ("loop.example/leaderlesslog/impl.errPassed", laid_loop_example_leaderlesslog_impl_errPassed)], narrowed := true }
def FnFixStayUptoSaid : Prop := fnFixStayUptoRow.holds Tryz.pinned (OpenSpec.upto fnFixStaySpec)

/-- 'laws.FnFixOthers', WHERE WHAT IT READS IS OF BULK AT MOST 1048576: true; the input reads as it did. -/
def fnFixOthersUptoRow : OpenClaim := { program := "ytiolhjjkjmepcaagreatdoor", sum := "f97731f70aff02c36def0c2b05b8e40e042893ea8482cc9a6fae0f17120b5e09", func := "loop.example/leaderlesslog/laws.FnFixOthers", spec := "fnFixOthers", inPlace := ["internal/reflectlite.TypeOf"], unfollowed := true, recurses := true, named := ["loop.example/leaderlesslog/impl.errFixed", "loop.example/leaderlesslog/impl.errPassed"], ifaces := true, plainKeys := false, apart := false, laid := [("loop.example/leaderlesslog/impl.errFixed", laid_loop_example_leaderlesslog_impl_errFixed), ("loop.example/leaderlesslog/impl.errPassed", laid_loop_example_leaderlesslog_impl_errPassed)], narrowed := true }
def FnFixOthersUptoSaid : Prop := fnFixOthersUptoRow.holds Tryz.pinned (OpenSpec.upto fnFixOthersSpec)

/-- 'laws.FnFixBallot', WHERE WHAT IT READS IS OF BULK AT MOST 1048576: true; the input reads as it did. -/
def fnFixBallotUptoRow : OpenClaim := { program := "ytiolhjjkjmepcaagreatdoor", sum := "f97731f70aff02c36def0c2b05b8e40e042893ea8482cc9a6fae0f17120b5e09", func := "loop.example/leaderlesslog/laws.FnFixBallot", spec := "fnFixBallot", inPlace := ["internal/reflectlite.TypeOf"], unfollowed := true, recurses := true, named := ["loop.example/leaderlesslog/impl.errFixed", "loop.example/leaderlesslog/impl.errPassed"], ifaces := true, plainKeys := false, apart := false, laid := [("loop.example/leaderlesslog/impl.errFixed", laid_loop_example_leaderlesslog_impl_errFixed), ("loop.example/leaderlesslog/impl.errPassed", laid_loop_example_leaderlesslog_impl_errPassed)], narrowed := true }
def FnFixBallotUptoSaid : Prop := fnFixBallotUptoRow.holds Tryz.pinned (OpenSpec.upto fnFixBallotSpec)

/-- 'laws.FnExactTakeEntry', WHERE WHAT IT READS IS OF BULK AT MOST 1048576: true; the input reads as it did. -/
def fnExactTakeEntryUptoRow : OpenClaim := { program := "ytiolhjjkjmepcaagreatdoor", sum := "f97731f70aff02c36def0c2b05b8e40e042893ea8482cc9a6fae0f17120b5e09", func := "loop.example/leaderlesslog/laws.FnExactTakeEntry", spec := "fnExactTakeEntry", inPlace := ["internal/reflectlite.TypeOf"], unfollowed := true, recurses := true, named := ["loop.example/leaderlesslog/impl.errFixed", "loop.example/leaderlesslog/impl.errPassed"], ifaces := true, plainKeys := false, apart := false, laid := [("loop.example/leaderlesslog/impl.errFixed", laid_loop_example_leaderlesslog_impl_errFixed), ("loop.example/leaderlesslog/impl.errPassed", laid_loop_example_leaderlesslog_impl_errPassed)], narrowed := true }
def FnExactTakeEntryUptoSaid : Prop := fnExactTakeEntryUptoRow.holds Tryz.pinned (OpenSpec.upto fnExactTakeEntrySpec)

/-- 'laws.FnExactFixEntry', WHERE WHAT IT READS IS OF BULK AT MOST 1048576: true; the input reads as it did. -/
def fnExactFixEntryUptoRow : OpenClaim := { program := "ytiolhjjkjmepcaagreatdoor", sum := "f97731f70aff02c36def0c2b05b8e40e042893ea8482cc9a6fae0f17120b5e09", func := "loop.example/leaderlesslog/laws.FnExactFixEntry", spec := "fnExactFixEntry", inPlace := ["internal/reflectlite.TypeOf"], unfollowed := true, recurses := true, named := ["loop.example/leaderlesslog/impl.errFixed", "loop.example/leaderlesslog/impl.errPassed"], ifaces := true, plainKeys := false, apart := false, laid := [("loop.example/leaderlesslog/impl.errFixed", laid_loop_example_leaderlesslog_impl_errFixed), ("loop.example/leaderlesslog/impl.errPassed", laid_loop_example_leaderlesslog_impl_errPassed)], narrowed := true }
def FnExactFixEntryUptoSaid : Prop := fnExactFixEntryUptoRow.holds Tryz.pinned (OpenSpec.upto fnExactFixEntrySpec)

end Rows
end Go.Proofs.YtiolhjjkjmepcaaGreatDoor
